/- Texts of one claim, joined: each in its own section, in build order. -/
import Derived.Test.YtdnodaoeflbfkaaChecked
import Derived.Test.YtdnodaoeflbfkaaJ1
import Derived.Outline
import Derived.Deep.RegionWith
import Derived.Laws.BitsLemmas
import Derived.Laws.Pointers
import Derived.Deep.SlicePairs
import Derived.ProofKit
import Derived.Deep.AppendLies
namespace Go.Proofs.Ytdnodaoeflbfkaa
open Go.RowKit

/-- rows of labels: slot 2i holds the key, slot 2i+1 the value -/
def labsAt (w : World) (b off : Nat) (ls : List (ByteArray × ByteArray)) : Prop :=
  ∀ i (h : i < ls.length), w.cell? ⟨b, off + i * 2, none⟩ = some (.string (ls[i]'h).1) ∧ w.cell? ⟨b, off + i * 2 + 1, none⟩ = some (.string (ls[i]'h).2)

def szOne (k v : Nat) (left : Int) : Int := if left - k < 0 then -1 else if left - k - v < 0 then -1 else left - k - v

theorem szLabel_any (k v : ByteArray) (left : Int) (w : World) (hk : k.size ≤ maxLen) (hv : v.size ≤ maxLen) (h0 : 0 ≤ left) (h1 : left ≤ 1048576) :
    Calls Try.prog 151 #[.agg #[.string k, .string v], .int .i64 left] w fun e w' => e = .returned (.int .i64 (szOne k.size v.size left)) ∧ Below w.heap.size w w' := by
  unfold maxLen at hk hv
  by_cases c1 : left - (k.size : Int) < 0
  · have E : Hid (szOne k.size v.size left = -1) := by unfold Hid szOne; rw [if_pos c1]
    go_enter Try.func151, Try.ntmps151
    go_wp2
    go_ret
    exact ⟨ret_int E.out.symm, (Below.refl _ _).alloc (Nat.le_refl _) _⟩
  by_cases c2 : left - (k.size : Int) - (v.size : Int) < 0
  · have E : Hid (szOne k.size v.size left = -1) := by unfold Hid szOne; rw [if_neg c1, if_pos c2]
    go_enter Try.func151, Try.ntmps151
    go_wp2
    go_ret
    exact ⟨ret_int E.out.symm, (Below.refl _ _).alloc (Nat.le_refl _) _⟩
  · have E : Hid (szOne k.size v.size left = left - k.size - v.size) := by unfold Hid szOne; rw [if_neg c1, if_neg c2]
    go_enter Try.func151, Try.ntmps151
    go_wp2
    go_ret
    exact ⟨ret_int E.out.symm, (Below.refl _ _).alloc (Nat.le_refl _) _⟩

theorem eqLabel_any (k v k' v' : ByteArray) (w : World) :
    Calls Try.prog 158 #[.agg #[.string k, .string v], .agg #[.string k', .string v']] w fun e w' => e = .returned (.bool (decide ((k, v) = (k', v')))) ∧ Below w.heap.size w w' := by
  have e1 := beq_str k k'
  have e2 := beq_str v v'
  by_cases c1 : k = k'
  · by_cases c2 : v = v'
    · have E : Hid (decide ((k, v) = (k', v')) = true) := by simp [Hid, c1, c2]
      rw [decide_eq_true c1] at e1
      rw [decide_eq_true c2] at e2
      clear c1 c2
      go_enter Try.func158, Try.ntmps158
      go_wp2
      go_ret
      exact ⟨ret_bool E.out.symm, ((Below.refl _ _).alloc (Nat.le_refl _) _).alloc (by simp) _⟩
    · have E : Hid (decide ((k, v) = (k', v')) = false) := by simp [Hid, c2]
      rw [decide_eq_true c1] at e1
      rw [decide_eq_false c2] at e2
      clear c1 c2
      go_enter Try.func158, Try.ntmps158
      go_wp2
      go_ret
      exact ⟨ret_bool E.out.symm, ((Below.refl _ _).alloc (Nat.le_refl _) _).alloc (by simp) _⟩
  · have E : Hid (decide ((k, v) = (k', v')) = false) := by simp [Hid, c1]
    rw [decide_eq_false c1] at e1
    clear c1 e2
    go_enter Try.func158, Try.ntmps158
    go_wp2
    go_ret
    exact ⟨ret_bool E.out.symm, ((Below.refl _ _).alloc (Nat.le_refl _) _).alloc (by simp) _⟩

theorem toLabel_any (k v : ByteArray) (w : World) :
    Calls Try.prog 154 #[.agg #[.string k, .string v]] w fun e w' => e = .returned (.agg #[.string k, .string v]) ∧ Below w.heap.size w w' := by
  go_enter Try.func154, Try.ntmps154
  go_wp2
  exact bodyPost_ret (v := .agg #[.string k, .string v]) (by simp [results, Try.results154, go_sem]) rfl ⟨rfl, (((Below.refl _ _).alloc (Nat.le_refl _) _).alloc (by simp) _).alloc (by simp; omega) _⟩

def szAll : List (ByteArray × ByteArray) → Int → Int
  | [], l => l
  | p :: r, l => if szOne p.1.size p.2.size l < 0 then -1 else szAll r (szOne p.1.size p.2.size l)
def szS (ls : List (ByteArray × ByteArray)) (left : Int) : Int := if left - ls.length < 0 then -1 else szAll ls (left - ls.length)
def okSizes (ls : List (ByteArray × ByteArray)) : Prop := ∀ p ∈ ls, p.1.size ≤ maxLen ∧ p.2.size ≤ maxLen
theorem szOne_le (k v : Nat) (l : Int) : szOne k v l ≤ l ∨ szOne k v l = -1 := by unfold szOne; split; exact .inr rfl; split; exact .inr rfl; left; omega
theorem szAll_drop (ls : List (ByteArray × ByteArray)) (k : Nat) (h : k < ls.length) (l : Int) : szAll (ls.drop k) l = if szOne (ls[k]'h).1.size (ls[k]'h).2.size l < 0 then -1 else szAll (ls.drop (k + 1)) (szOne (ls[k]'h).1.size (ls[k]'h).2.size l) := by
  rw [List.drop_eq_getElem_cons h]; rfl

theorem szLabelS_any (a : Option Addr) (cap : Nat) (ls : List (ByteArray × ByteArray)) (left : Int) (w : World) (hl : ls.length ≤ maxLen) (hz : okSizes ls) (h0 : 0 ≤ left) (h1 : left ≤ 1048576)
    (hrow : 0 < ls.length → ∃ b off, a = some ⟨b, off, none⟩ ∧ labsAt w b off ls) :
    Calls Try.prog 77 #[.slice a ls.length cap, .int .i64 left] w fun e w' => e = .returned (.int .i64 (szS ls left)) ∧ Below w.heap.size w w' := by
  unfold maxLen at hl
  by_cases c1 : left - (ls.length : Int) < 0
  · have E : Hid (szS ls left = -1) := by unfold Hid szS; rw [if_pos c1]
    clear hrow hz
    go_enter Try.func77, Try.ntmps77
    go_wp2
    go_ret
    exact ⟨ret_int E.out.symm, Below.refl _ _⟩
  have E : Hid (szS ls left = szAll ls (left - ls.length)) := by unfold Hid szS; rw [if_neg c1]
  have hrow' := hrow
  have Hr : Hid (0 < ls.length → ∃ b off, a = some ⟨b, off, none⟩ ∧ labsAt w b off ls) := hrow'
  have Hz : Hid (okSizes ls) := hz
  clear hrow hrow' hz
  go_enter Try.func77, Try.ntmps77
  go_wp2
  go_loopw [1, 5] (fun l i wr => ∃ (k : Nat) (x : Int), k ≤ ls.length ∧ i = .int .i64 k ∧ l = .int .i64 x ∧ 0 ≤ x ∧ x ≤ 1048576 ∧ Hid (szAll (ls.drop k) x = szAll ls (left - ls.length)) ∧ Below w.heap.size w wr) (fun _ i _ => ls.length - (intOf i).toNat)
  case atStart => exact ⟨0, _, Nat.zero_le _, rfl, rfl, by omega, by omega, rfl, Below.refl _ _⟩
  case round =>
    obtain ⟨k, x, hk, rfl, rfl, hx0, hx1, hsz, hbw⟩ := hrel
    by_cases hlt : k < ls.length
    · obtain ⟨b, off, rfl, hat⟩ := Hr.out (by omega)
      have hbb : b < w.heap.size := World.block_lt_of_cell? _ _ (hat k hlt).1
      have c0 := (hbw.cell (p := ⟨b, off + k * 2, none⟩) hbb).trans (hat k hlt).1
      have c2 := (hbw.cell (p := ⟨b, off + k * 2 + 1, none⟩) hbb).trans (hat k hlt).2
      have hz := (Hz.out _ (List.getElem_mem hlt))
      have hn := szAll_drop ls k hlt x
      obtain ⟨K, V, hkv⟩ : ∃ K V, ls[k]'hlt = (K, V) := ⟨_, _, rfl⟩
      rw [hkv] at c0 c2 hz hn
      clear hkv
      simp only at c0 c2 hz hn
      have hs := szOne_le K.size V.size x
      by_cases hneg : szOne K.size V.size x < 0
      · have hr : Hid (szAll ls (left - ls.length) = -1) := by rw [← hsz.out, hn, if_pos hneg]; rfl
        clear hn hat hsz
        go_wp2_with (go_at_call 151; refine (szLabel_any _ _ _ _ hz.1 hz.2 hx0 hx1).mono ?_; rintro e w' ⟨rfl, hb⟩)
        go_ret
        exact ⟨ret_int (by rw [E.out, hr.out]), hbw.trans (hb.mono hbw.size)⟩
      · have hr : Hid (szAll (ls.drop (k + 1)) (szOne K.size V.size x) = szAll ls (left - ls.length)) := by rw [← hsz.out, hn, if_neg hneg]; rfl
        clear hn hat hsz
        go_wp2_with (go_at_call 151; refine (szLabel_any _ _ _ _ hz.1 hz.2 hx0 hx1).mono ?_; rintro e w' ⟨rfl, hb⟩)
        go_roundw
        case rel => exact ⟨k + 1, _, by omega, by go_num, rfl, by omega, by omega, hr, hbw.trans (hb.mono hbw.size)⟩
        case measure => simp [intOf]; omega
    · have e : k = ls.length := by omega
      subst e
      have hr : Hid (szAll ls (left - ls.length) = x) := by rw [← hsz.out, List.drop_length]; rfl
      clear hsz
      go_wp2
      go_ret
      exact ⟨ret_int (by rw [E.out, hr.out]), hbw⟩

theorem Try.info44 : (Try.prog.info? 212).map (fun i => (i.zero, i.size, i.bytes)) = some (some (.agg #[.string ByteArray.empty, .string ByteArray.empty]), 2, 32) := by kernel_rfl
def flat (ls : List (ByteArray × ByteArray)) : List Value := ls.flatMap fun p => [.string p.1, .string p.2]
theorem flat_length (ls : List (ByteArray × ByteArray)) : (flat ls).length = ls.length * 2 := by
  induction ls with
  | nil => rfl
  | cons p r ih => simp only [flat, List.flatMap_cons, List.length_append, List.length_cons, List.length_nil] at *; omega
theorem flat_get (ls : List (ByteArray × ByteArray)) : ∀ (i : Nat) (h : i < ls.length), (flat ls)[i * 2]? = some (.string (ls[i]'h).1) ∧ (flat ls)[i * 2 + 1]? = some (.string (ls[i]'h).2) := by
  induction ls with
  | nil => intro i h; simp at h
  | cons p r ih =>
    intro i h
    have e : flat (p :: r) = .string p.1 :: .string p.2 :: flat r := rfl
    cases i with
    | zero => simp [e]
    | succ i =>
      have := ih i (by simpa using h)
      rw [e, show (i + 1) * 2 = i * 2 + 1 + 1 from by omega]
      simpa using this

theorem owns_below {w w' : World} {base g n cap : Nat} {e : TypeId} {size : Nat} {xs : List Value} (h : w.ownsRow base e size (.slice (some ⟨g, 0, none⟩) n cap) n xs) (hb : Below w.heap.size w w') :
    w'.ownsRow base e size (.slice (some ⟨g, 0, none⟩) n cap) n xs := by
  obtain ⟨h1, h2⟩ := h
  rcases h2 with ⟨h, _⟩ | ⟨g', cap', cur, h, hg, hh, r⟩
  · cases h
  · cases h
    refine ⟨h1, .inr ⟨g, cap, cur, rfl, hg, ?_, r⟩⟩
    rw [hb.block g (Array.getElem?_eq_some_iff.1 hh).1]
    exact hh

theorem toLabelS_any (a : Option Addr) (cap : Nat) (ls : List (ByteArray × ByteArray)) (w : World) (hl : ls.length ≤ 1048576)
    (hrow : 0 < ls.length → ∃ b off, a = some ⟨b, off, none⟩ ∧ labsAt w b off ls) :
    Calls Try.prog 80 #[.slice a ls.length cap] w fun e w' => ∃ g, e = .returned (.slice (some ⟨g, 0, none⟩) ls.length ls.length) ∧
      w'.ownsRow w.heap.size 212 2 (.slice (some ⟨g, 0, none⟩) ls.length ls.length) ls.length (flat ls) ∧ Below w.heap.size w w' := by
  obtain ⟨i0, hi, hz0, hz1, hz2⟩ := info_parts Try.info44
  have Hr : Hid (0 < ls.length → ∃ b off, a = some ⟨b, off, none⟩ ∧ labsAt w b off ls) := hrow
  clear hrow
  go_enter Try.func80, Try.ntmps80
  go_wp2_with (at_make; refine wpList_make_full _ rfl _ _ 52 rfl w.heap.size 212 i0 _ 2 Try.underlying52 hi hz0 hz1 _ _ _ _ ls.length rfl rfl rfl rfl (by rw [hz2]; omega) (by unfold maxLen; omega) (Nat.le_refl _) ?_; intro w1 hown hgrow)
  go_loopw [4] (fun i wr => ∃ (k : Nat) (xs : List Value), k ≤ ls.length ∧ i = .int .i64 k ∧ wr.ownsRow w.heap.size 212 2 (.slice (some ⟨w.heap.size, 0, none⟩) ls.length ls.length) ls.length xs ∧
      Hid (∀ j, j < k * 2 → xs[j]? = (flat ls)[j]?) ∧ Below w.heap.size w wr) (fun i _ => ls.length - (intOf i).toNat)
  case atStart => exact ⟨0, _, Nat.zero_le _, rfl, hown, fun j hj => by omega, Below.grown (Below.refl _ _) hgrow (Nat.le_refl _) (fun k hk => by cases hk)⟩
  case round =>
    obtain ⟨k, xs, hk, rfl, how, Hx, hbw⟩ := hrel
    clear hown hgrow
    by_cases hlt : k < ls.length
    · obtain ⟨b, off, rfl, hat⟩ := Hr.out (by omega)
      have hbb : b < w.heap.size := World.block_lt_of_cell? _ _ (hat k hlt).1
      have c0 := (hbw.cell (p := ⟨b, off + k * 2, none⟩) hbb).trans (hat k hlt).1
      have c2 := (hbw.cell (p := ⟨b, off + k * 2 + 1, none⟩) hbb).trans (hat k hlt).2
      have hf := flat_get ls k hlt
      obtain ⟨K, V, hkv⟩ : ∃ K V, ls[k]'hlt = (K, V) := ⟨_, _, rfl⟩
      rw [hkv] at c0 c2 hf
      clear hkv hat
      simp only at c0 c2 hf
      have Hf : Hid ((flat ls)[k * 2]? = some (.string K) ∧ (flat ls)[k * 2 + 1]? = some (.string V)) := hf
      have How : Hid (wr.ownsRow w.heap.size 212 2 (.slice (some ⟨w.heap.size, 0, none⟩) ls.length ls.length) ls.length xs) := how
      have hxl : xs.length = ls.length * 2 := how.1
      have g0 : xs[k * 2]? = some (xs[k * 2]'(by omega)) := List.getElem?_eq_getElem _
      have g1 : xs[k * 2 + 1]? = some (xs[k * 2 + 1]'(by omega)) := List.getElem?_eq_getElem _
      obtain ⟨o0, ho0⟩ : ∃ o, o = (xs[k * 2]'(by omega)) := ⟨_, rfl⟩
      obtain ⟨o1, ho1⟩ : ∃ o, o = (xs[k * 2 + 1]'(by omega)) := ⟨_, rfl⟩
      rw [← ho0] at g0
      rw [← ho1] at g1
      have G0 : Hid (xs[k * 2]? = some o0) := g0
      have G1 : Hid (xs[k * 2 + 1]? = some o1) := g1
      have Hxl : Hid (xs.length = ls.length * 2) := hxl
      clear hf how g0 g1 ho0 ho1 hxl
      go_wp2_with (go_at_call 154; refine (toLabel_any _ _ _).mono ?_; rintro e w2 ⟨rfl, hb2⟩; have q0 : w2.cell? ⟨w.heap.size, k * 2, none⟩ = some o0 := ((owns_below How.out hb2).cellAt _ (by omega)).trans G0.out; have q1 : w2.cell? ⟨w.heap.size, k * 2 + 1, none⟩ = some o1 := ((owns_below How.out hb2).cellAt _ (by omega)).trans G1.out; have f0 := (owns_below How.out hb2).frozenAt (k * 2); have f1 := (owns_below How.out hb2).frozenAt (k * 2 + 1))
      all_goals
        have how2 := owns_below How.out hb2
        have s1 := how2.stored (k * 2) (.string K)
        have s2 := s1.1.stored (k * 2 + 1) (.string V)
      all_goals go_roundw
      case rel => exact ⟨k + 1, _, by omega, by go_num, s2.1, (by
          intro j hj
          have hl := Hxl.out
          by_cases e1 : j = k * 2 + 1
          · subst e1; rw [List.getElem?_set_self (by simp; omega)]; exact Hf.out.2.symm
          by_cases e0 : j = k * 2
          · subst e0; rw [List.getElem?_set_ne (by omega), List.getElem?_set_self (by omega)]; exact Hf.out.1.symm
          · rw [List.getElem?_set_ne (by omega), List.getElem?_set_ne (by omega)]; exact Hx.out j (by omega)), ((hbw.trans (hb2.mono hbw.size)).setCell (Nat.le_refl _) _).setCell (Nat.le_refl _) _⟩
      case measure => simp [intOf]; omega
    · have e : k = ls.length := by omega
      subst e
      have hx : xs = flat ls := by
        apply List.ext_getElem?
        intro j
        by_cases hj : j < ls.length * 2
        · exact Hx.out j hj
        · rw [List.getElem?_eq_none (by have := how.1; omega), List.getElem?_eq_none (by rw [flat_length]; omega)]
      subst hx
      go_wp2
      go_ret
      exact ⟨_, rfl, how, hbw⟩
end Go.Proofs.Ytdnodaoeflbfkaa
/- Rows of terms (a number, a string, a slice of strings): where a slice of terms leads; the helpers of the laws over them. -/
namespace Go.Proofs.Ytdnodaoeflbfkaa
open Go.RowKit
set_option linter.unusedVariables false

abbrev TD := Int × ByteArray × List ByteArray
def termAt (w : World) (b o : Nat) (t : TD) : Prop :=
  w.cell? ⟨b, o, none⟩ = some (.int .i64 t.1) ∧ w.cell? ⟨b, o + 1, none⟩ = some (.string t.2.1) ∧ ∃ a cap, w.cell? ⟨b, o + 2, none⟩ = some (.slice a t.2.2.length cap) ∧ strOf w a t.2.2 ∧ t.2.2.length ≤ cap ∧ (a = none → cap = 0)
def termsAt (w : World) (b off : Nat) (ts : List TD) : Prop := ∀ i (h : i < ts.length), termAt w b (off + i * 3) (ts[i]'h)
def termsOf (w : World) (a : Option Addr) (ts : List TD) : Prop := 0 < ts.length → ∃ b off, a = some ⟨b, off, none⟩ ∧ termsAt w b off ts
theorem termAt.below {w w' : World} {b o : Nat} {t : TD} (h : termAt w b o t) (hb : Below w.heap.size w w') : termAt w' b o t := by
  obtain ⟨h0, h1, a, cap, h2, h3⟩ := h
  have hbb := World.block_lt_of_cell? _ _ h0
  exact ⟨(hb.cell (p := ⟨b, o, none⟩) hbb).trans h0, (hb.cell (p := ⟨b, o + 1, none⟩) hbb).trans h1, a, cap, (hb.cell (p := ⟨b, o + 2, none⟩) hbb).trans h2, h3.1.below hb, h3.2⟩
theorem termsAt.below {w w' : World} {b off : Nat} {ts : List TD} (h : termsAt w b off ts) (hb : Below w.heap.size w w') : termsAt w' b off ts := fun i hi => (h i hi).below hb
theorem termsOf.below {w w' : World} {a : Option Addr} {ts : List TD} (h : termsOf w a ts) (hb : Below w.heap.size w w') : termsOf w' a ts := by
  intro hl
  obtain ⟨b, off, e, h⟩ := h hl
  exact ⟨b, off, e, h.below hb⟩

def szT (t : TD) (l : Int) : Int := if l - t.2.1.size < 0 then -1 else if szSS t.2.2 (l - t.2.1.size) < 0 then -1 else szSS t.2.2 (l - t.2.1.size)
def szTs : List TD → Int → Int
  | [], l => l
  | t :: r, l => if szT t l < 0 then -1 else szTs r (szT t l)
def szTS (ts : List TD) (left : Int) : Int := if left - ts.length < 0 then -1 else szTs ts (left - ts.length)
theorem szStrs_le : ∀ (ss : List ByteArray) (l : Int), szStrs ss l ≤ l ∨ szStrs ss l = -1
  | [], l => .inl (Int.le_refl _)
  | s :: r, l => by
    unfold szStrs
    split
    · exact .inr rfl
    · rcases szStrs_le r (l - s.size) with h | h
      · left; omega
      · exact .inr h
theorem szSS_le (ss : List ByteArray) (l : Int) : szSS ss l ≤ l ∨ szSS ss l = -1 := by
  unfold szSS
  split
  · exact .inr rfl
  · rcases szStrs_le ss (l - ss.length) with h | h
    · left; omega
    · exact .inr h
theorem szT_le (t : TD) (l : Int) : szT t l ≤ l ∨ szT t l = -1 := by
  unfold szT
  split
  · exact .inr rfl
  · split
    · exact .inr rfl
    · rcases szSS_le t.2.2 (l - t.2.1.size) with h | h
      · left; omega
      · exact .inr h
theorem szTs_drop (ts : List TD) (k : Nat) (h : k < ts.length) (l : Int) : szTs (ts.drop k) l = if szT (ts[k]'h) l < 0 then -1 else szTs (ts.drop (k + 1)) (szT (ts[k]'h) l) := by
  rw [List.drop_eq_getElem_cons h]; rfl
def okTerm (t : TD) : Prop := t.2.1.size ≤ maxLen ∧ t.2.2.length ≤ maxLen ∧ okStrs t.2.2
def okTerms (ts : List TD) : Prop := ∀ t ∈ ts, okTerm t

theorem szStrs_ok : ∀ (ss : List ByteArray) (l : Int), 0 ≤ l → ¬ szStrs ss l < 0 → ∀ s ∈ ss, (s.size : Int) ≤ l
  | [], l, _, _, s, hs => by simp at hs
  | x :: r, l, h0, h, s, hs => by
    unfold szStrs at h
    split at h
    · omega
    · rcases List.mem_cons.1 hs with rfl | hs
      · omega
      · have := szStrs_ok r (l - x.size) (by omega) h s hs; omega
theorem szSS_ok {ss : List ByteArray} {l : Int} (h : ¬ szSS ss l < 0) : (ss.length : Int) ≤ l ∧ ∀ s ∈ ss, (s.size : Int) ≤ l := by
  unfold szSS at h
  split at h
  · omega
  · exact ⟨by omega, fun s hs => by have := szStrs_ok ss (l - ss.length) (by omega) h s hs; omega⟩
theorem szT_ok {t : TD} {l : Int} (h : ¬ szT t l < 0) : (t.2.1.size : Int) ≤ l ∧ (t.2.2.length : Int) ≤ l ∧ (∀ s ∈ t.2.2, (s.size : Int) ≤ l) ∧ 0 ≤ szT t l ∧ szT t l ≤ l := by
  have hle := szT_le t l
  have h' := h
  unfold szT at h
  split at h
  · omega
  · split at h
    · omega
    · have h1 := szSS_ok h
      exact ⟨by omega, by omega, fun s hs => by have := h1.2 s hs; omega, by omega, by omega⟩
theorem szTs_ok : ∀ (ts : List TD) (l : Int), ¬ szTs ts l < 0 → ∀ t ∈ ts, (t.2.1.size : Int) ≤ l ∧ (t.2.2.length : Int) ≤ l ∧ (∀ s ∈ t.2.2, (s.size : Int) ≤ l)
  | [], l, _, t, ht => by simp at ht
  | x :: r, l, h, t, ht => by
    unfold szTs at h
    split at h
    · omega
    · rename_i hx
      have h1 := szT_ok hx
      rcases List.mem_cons.1 ht with rfl | ht
      · exact ⟨h1.1, h1.2.1, h1.2.2.1⟩
      · have h2 := szTs_ok r _ h t ht
        exact ⟨by omega, by omega, fun s hs => by have := h2.2.2 s hs; omega⟩
theorem szTS_len {ts : List TD} (h : ¬ szTS ts 1048576 < 0) : ts.length ≤ 1048576 := by unfold szTS at h; split at h <;> omega
theorem szTS_all {ts : List TD} (h : ¬ szTS ts 1048576 < 0) : ∀ t ∈ ts, t.2.1.size ≤ 1048576 ∧ t.2.2.length ≤ 1048576 ∧ ∀ s ∈ t.2.2, s.size ≤ 1048576 := by
  unfold szTS at h
  split at h
  · omega
  · intro t ht
    have := szTs_ok ts _ h t ht
    exact ⟨by omega, by omega, fun s hs => by have := this.2.2 s hs; omega⟩
theorem szTs_le : ∀ (ts : List TD) (l : Int), szTs ts l ≤ l ∨ szTs ts l = -1
  | [], l => .inl (Int.le_refl _)
  | t :: r, l => by
    unfold szTs
    split
    · exact .inr rfl
    · rcases szTs_le r (szT t l) with h | h
      · rcases szT_le t l with h' | h'
        · left; omega
        · left; omega
      · exact .inr h
theorem szTS_le (ts : List TD) (l : Int) : szTS ts l ≤ l ∨ szTS ts l = -1 := by
  unfold szTS
  split
  · exact .inr rfl
  · rcases szTs_le ts (l - ts.length) with h | h
    · left; omega
    · exact .inr h
theorem szTS_len' {ts : List TD} {l : Int} (h : ¬ szTS ts l < 0) (hl : l ≤ 1048576) : ts.length ≤ 1048576 := by unfold szTS at h; split at h <;> omega
theorem szTS_all' {ts : List TD} {l : Int} (h : ¬ szTS ts l < 0) (hl : l ≤ 1048576) : ∀ t ∈ ts, t.2.1.size ≤ 1048576 ∧ t.2.2.length ≤ 1048576 ∧ ∀ s ∈ t.2.2, s.size ≤ 1048576 := by
  unfold szTS at h
  split at h
  · omega
  · intro t ht
    have := szTs_ok ts _ h t ht
    exact ⟨by omega, by omega, fun s hs => by have := this.2.2 s hs; omega⟩
theorem szTS_vals' {ts : List TD} {l : Int} (h : ¬ szTS ts l < 0) (hl : l ≤ 1048576) : ∀ t ∈ ts, t.2.2.length ≤ 1048576 := fun t ht => (szTS_all' h hl t ht).2.1
theorem szTS_vals {ts : List TD} (h : ¬ szTS ts 1048576 < 0) : ∀ t ∈ ts, t.2.2.length ≤ 1048576 := fun t ht => (szTS_all h t ht).2.1

theorem szTerm_any (kd : Int) (key : ByteArray) (ss : List ByteArray) (a : Option Addr) (cap : Nat) (left : Int) (w : World) (hk : key.size ≤ maxLen) (hl : ss.length ≤ maxLen) (hz : okStrs ss) (h0 : 0 ≤ left) (h1 : left ≤ 1048576) (hrow : strOf w a ss) :
    Calls Try.prog 140 #[.agg #[.int .i64 kd, .string key, .slice a ss.length cap], .int .i64 left] w fun e w' => e = .returned (.int .i64 (szT (kd, key, ss) left)) ∧ Below w.heap.size w w' := by
  have hkk := hk
  unfold maxLen at hk
  have Hr := hide hrow
  have Hz := hide hz
  have Hl := hide hl
  clear hrow hz hl
  by_cases c1 : left - (key.size : Int) < 0
  · have E : Hid (szT (kd, key, ss) left = -1) := by show _ = _; unfold szT; rw [if_pos c1]
    go_enter Try.func140, Try.ntmps140
    go_wp2
    go_ret
    exact ⟨ret_int E.out.symm, (Below.refl _ _).alloc (Nat.le_refl _) _⟩
  · have hcon : ∀ wx, Below w.heap.size w wx → Calls Try.prog 62 #[.slice a ss.length cap, .int .i64 (left - key.size)] wx fun e w' => e = .returned (.int .i64 (szSS ss (left - key.size))) ∧ Below w.heap.size w w' :=
      fun wx hx => (szStringS_any a cap ss _ wx Hl.out Hz.out (by omega) (by omega) (Hr.out.below hx)).mono fun e w' h => ⟨h.1, hx.trans (h.2.mono hx.size)⟩
    have Hcon := hide hcon
    clear hcon
    by_cases c2 : szSS ss (left - key.size) < 0
    · have E : Hid (szT (kd, key, ss) left = -1) := by show _ = _; unfold szT; rw [if_neg c1, if_pos c2]
      generalize szSS ss (left - key.size) = x at *
      go_enter Try.func140, Try.ntmps140
      go_wp2_with fail
      refine (Hcon.out _ ((Below.refl _ _).alloc (Nat.le_refl _) _)).mono ?_
      rintro e w1 ⟨rfl, hb1⟩
      go_wp2
      go_ret
      exact ⟨ret_int E.out.symm, hb1⟩
    · have E : Hid (szT (kd, key, ss) left = szSS ss (left - key.size)) := by show _ = _; unfold szT; rw [if_neg c1, if_neg c2]
      generalize szSS ss (left - key.size) = x at *
      go_enter Try.func140, Try.ntmps140
      go_wp2_with fail
      refine (Hcon.out _ ((Below.refl _ _).alloc (Nat.le_refl _) _)).mono ?_
      rintro e w1 ⟨rfl, hb1⟩
      go_wp2
      go_ret
      exact ⟨ret_int E.out.symm, hb1⟩

theorem szTermS_any (a : Option Addr) (cap : Nat) (ts : List TD) (left : Int) (w : World) (hl : ts.length ≤ maxLen) (hz : okTerms ts) (h0 : 0 ≤ left) (h1 : left ≤ 1048576) (hrow : termsOf w a ts) :
    Calls Try.prog 61 #[.slice a ts.length cap, .int .i64 left] w fun e w' => e = .returned (.int .i64 (szTS ts left)) ∧ Below w.heap.size w w' := by
  unfold maxLen at hl
  by_cases c1 : left - (ts.length : Int) < 0
  · have E : Hid (szTS ts left = -1) := by unfold Hid szTS; rw [if_pos c1]
    clear hrow hz
    go_enter Try.func61, Try.ntmps61
    go_wp2
    go_ret
    exact ⟨ret_int E.out.symm, Below.refl _ _⟩
  have E : Hid (szTS ts left = szTs ts (left - ts.length)) := by unfold Hid szTS; rw [if_neg c1]
  have Hr := hide hrow
  have Hz := hide hz
  clear hrow hz
  go_enter Try.func61, Try.ntmps61
  go_wp2
  go_loopw [1, 5] (fun l i wr => ∃ (k : Nat) (x : Int), k ≤ ts.length ∧ i = .int .i64 k ∧ l = .int .i64 x ∧ 0 ≤ x ∧ x ≤ 1048576 ∧ Hid (szTs (ts.drop k) x = szTs ts (left - ts.length)) ∧ Below w.heap.size w wr) (fun _ i _ => ts.length - (intOf i).toNat)
  case atStart => exact ⟨0, _, Nat.zero_le _, rfl, rfl, by omega, by omega, rfl, Below.refl _ _⟩
  case round =>
    obtain ⟨k, x, hk, rfl, rfl, hx0, hx1, hsz, hbw⟩ := hrel
    by_cases hlt : k < ts.length
    · obtain ⟨b, off, rfl, hat⟩ := Hr.out (by omega)
      obtain ⟨h0c, h1c, av, capv, h2c, h3c⟩ := (hat k hlt).below hbw
      have hz := (Hz.out _ (List.getElem_mem hlt))
      have hn := szTs_drop ts k hlt x
      have hs := szT_le ts[k] x
      obtain ⟨KD, KEY, VS, hkv⟩ : ∃ KD KEY VS, ts[k]'hlt = (KD, KEY, VS) := ⟨_, _, _, rfl⟩
      rw [hkv] at h0c h1c h2c h3c hz hn hs
      clear hkv hat
      simp only at h0c h1c h2c h3c
      obtain ⟨z1, z2, z3⟩ := hz
      have Hs3 := hide h3c.1
      have hcon := fun wx hx => szTerm_any KD KEY VS av capv x wx z1 z2 z3 hx0 hx1 hx
      have Hcon := hide hcon
      clear hcon z3 h3c
      by_cases hneg : szT (KD, KEY, VS) x < 0
      · have hr : Hid (szTs ts (left - ts.length) = -1) := by rw [← hsz.out, hn, if_pos hneg]; rfl
        clear hn hsz
        generalize szT (KD, KEY, VS) x = y at *
        go_wp2_with fail
        refine (Hcon.out _ (by exact Hs3.out)).mono ?_
        rintro e w1 ⟨rfl, hb⟩
        go_wp2
        go_ret
        exact ⟨ret_int (by rw [E.out, hr.out]), hbw.trans (hb.mono hbw.size)⟩
      · have hr : Hid (szTs (ts.drop (k + 1)) (szT (KD, KEY, VS) x) = szTs ts (left - ts.length)) := by rw [← hsz.out, hn, if_neg hneg]; rfl
        clear hn hsz
        generalize szT (KD, KEY, VS) x = y at *
        go_wp2_with fail
        refine (Hcon.out _ (by exact Hs3.out)).mono ?_
        rintro e w1 ⟨rfl, hb⟩
        go_wp2
        go_roundw
        case rel => exact ⟨k + 1, _, by omega, by go_num, rfl, by omega, by omega, hr, hbw.trans (hb.mono hbw.size)⟩
        case measure => simp [intOf]; omega
    · have e : k = ts.length := by omega
      subst e
      have hr : Hid (szTs ts (left - ts.length) = x) := by rw [← hsz.out, List.drop_length]; rfl
      clear hsz
      go_wp2
      go_ret
      exact ⟨ret_int (by rw [E.out, hr.out]), hbw⟩

theorem owns_slot {w : World} {B g n cap : Nat} {e : TypeId} {size : Nat} {xs : List Value} (h : w.ownsRow B e size (.slice (some ⟨g, 0, none⟩) n cap) n xs) : g < w.heap.size := by
  rcases h.2 with ⟨h, _⟩ | ⟨g', cap', cur, h, _, hh, _⟩
  · cases h
  · cases h; exact (Array.getElem?_eq_some_iff.1 hh).1
theorem owns_at_set {w : World} {B : Nat} {e : TypeId} {size : Nat} {v : Value} {n : Nat} {xs : List Value} {p : Addr} {u : Value} (h : w.ownsRow B e size v n xs) (hp : p.block < B) : (w.setCell p u).ownsRow B e size v n xs := ownsRow_setCell_below h hp u

theorem toTerm_any (kd : Int) (key : ByteArray) (ss : List ByteArray) (a : Option Addr) (cap : Nat) (w : World) (hl : ss.length ≤ 1048576) (hrow : strOf w a ss) :
    Calls Try.prog 143 #[.agg #[.int .i64 kd, .string key, .slice a ss.length cap]] w fun e w' => ∃ g, w.heap.size ≤ g ∧ e = .returned (.agg #[.int .i64 kd, .string key, .slice (some ⟨g, 0, none⟩) ss.length ss.length]) ∧
      w'.ownsRow w.heap.size 9 1 (.slice (some ⟨g, 0, none⟩) ss.length ss.length) ss.length (strVs ss) ∧ Below w.heap.size w w' := by
  have Hr := hide hrow
  clear hrow
  have hcon : ∀ wx, Below w.heap.size w wx → Calls Try.prog 69 #[.slice a ss.length cap] wx fun e w' => e = .returned (.slice (some ⟨wx.heap.size, 0, none⟩) ss.length ss.length) ∧
      Hid (w'.ownsRow wx.heap.size 9 1 (.slice (some ⟨wx.heap.size, 0, none⟩) ss.length ss.length) ss.length (strVs ss)) ∧ Below wx.heap.size wx w' :=
    fun wx hx => toStringS_any a cap ss wx hl (Hr.out.below hx)
  have Hcon := hide hcon
  clear hcon
  go_enter Try.func143, Try.ntmps143
  go_wp2_with fail
  refine (Hcon.out _ ((((Below.refl _ _).alloc (by simp) _).alloc (by simp) _).alloc (by simp; omega) _)).mono ?_
  rintro e w1 ⟨rfl, ho1, hb1⟩
  have c0 : w1.cell? ⟨w.heap.size + 1 + 1, 0, none⟩ = some (.int .i64 kd) := (hb1.cell (p := ⟨w.heap.size + 1 + 1, 0, none⟩) (by simp)).trans (by simp [go_sem])
  have c1 : w1.cell? ⟨w.heap.size + 1 + 1, 1, none⟩ = some (.string key) := (hb1.cell (p := ⟨w.heap.size + 1 + 1, 1, none⟩) (by simp)).trans (by simp [go_sem])
  have c2 : w1.cell? ⟨w.heap.size + 1 + 1, 2, none⟩ = some (.slice none 0 0) := (hb1.cell (p := ⟨w.heap.size + 1 + 1, 2, none⟩) (by simp)).trans (by simp [go_sem])
  have d0 : w1.cell? ⟨w.heap.size + 1, 0, none⟩ = some (.int .i64 0) := (hb1.cell (p := ⟨w.heap.size + 1, 0, none⟩) (by simp)).trans (by simp [go_sem])
  have e0 : w1.frozen? ⟨w.heap.size + 1, 0, none⟩ = false := (hb1.frozen (p := ⟨w.heap.size + 1, 0, none⟩) (by simp)).trans (by simp [go_sem])
  have d1 : w1.cell? ⟨w.heap.size + 1, 1, none⟩ = some (.string ⟨#[]⟩) := (hb1.cell (p := ⟨w.heap.size + 1, 1, none⟩) (by simp)).trans (by simp [go_sem])
  have e1 : w1.frozen? ⟨w.heap.size + 1, 1, none⟩ = false := (hb1.frozen (p := ⟨w.heap.size + 1, 1, none⟩) (by simp)).trans (by simp [go_sem])
  have d2 : w1.cell? ⟨w.heap.size + 1, 2, none⟩ = some (.slice none 0 0) := (hb1.cell (p := ⟨w.heap.size + 1, 2, none⟩) (by simp)).trans (by simp [go_sem])
  have e2 : w1.frozen? ⟨w.heap.size + 1, 2, none⟩ = false := (hb1.frozen (p := ⟨w.heap.size + 1, 2, none⟩) (by simp)).trans (by simp [go_sem])
  have f2 : w1.frozen? ⟨w.heap.size + 1 + 1, 2, none⟩ = false := (hb1.frozen (p := ⟨w.heap.size + 1 + 1, 2, none⟩) (by simp)).trans (by simp [go_sem])
  have Ho1 := hide ho1.out
  have Hb1 := hide hb1
  clear ho1 hb1
  simp only [World.size_alloc] at Ho1
  go_wp2
  refine bodyPost_ret (v := .agg #[.int .i64 kd, .string key, .slice (some ⟨w.heap.size + 1 + 1 + 1, 0, none⟩) ss.length ss.length]) ?_ rfl ⟨_, ?_, rfl, ?_, ?_⟩
  · simp [results, Try.results143, go_sem, d0, d1, d2]
  · omega
  · exact owns_mono (owns_at_set (owns_at_set (owns_at_set (owns_at_set Ho1.out (by simp)) (by simp)) (by simp)) (by simp)) (by omega)
  · exact ((((((((Below.refl _ _).alloc (by simp) _).alloc (by simp) _).alloc (by simp; omega) _).trans (Hb1.out.mono (by simp; omega))).setCell (by simp; omega) _).setCell (by simp) _).setCell (by simp) _).setCell (by simp) _

theorem Try.infoTerm : (Try.prog.info? 199).map (fun i => (i.zero, i.size, i.bytes)) = some (some (.agg #[.int .i64 0, .string ByteArray.empty, .slice none 0 0]), 3, 48) := by kernel_rfl
/-- place j of a row of cells holds a term whose strings the call owns -/
def termIs (w : World) (B : Nat) (xs : List Value) (j : Nat) (t : TD) : Prop :=
  xs[j * 3]? = some (.int .i64 t.1) ∧ xs[j * 3 + 1]? = some (.string t.2.1) ∧ ∃ g, xs[j * 3 + 2]? = some (.slice (some ⟨g, 0, none⟩) t.2.2.length t.2.2.length) ∧
    w.ownsRow B 9 1 (.slice (some ⟨g, 0, none⟩) t.2.2.length t.2.2.length) t.2.2.length (strVs t.2.2)
theorem termIs.below {w w' : World} {B : Nat} {xs : List Value} {j : Nat} {t : TD} (h : termIs w B xs j t) (hb : Below w.heap.size w w') : termIs w' B xs j t := by
  obtain ⟨h0, h1, g, h2, h3⟩ := h
  exact ⟨h0, h1, g, h2, owns_below h3 hb⟩
theorem termIs.set {w : World} {B : Nat} {xs : List Value} {j : Nat} {t : TD} {p : Addr} {u : Value} (h : termIs w B xs j t) (hp : p.block < B) : termIs (w.setCell p u) B xs j t := by
  obtain ⟨h0, h1, g, h2, h3⟩ := h
  exact ⟨h0, h1, g, h2, owns_at_set h3 hp⟩
theorem termsOf_owns {w : World} {B B' g n cap : Nat} {e : TypeId} {xs : List Value} {ts : List TD} (h : w.ownsRow B e 3 (.slice (some ⟨g, 0, none⟩) n cap) n xs) (hn : n = ts.length) (ht : ∀ j (hj : j < ts.length), termIs w B' xs j ts[j]) : termsOf w (some ⟨g, 0, none⟩) ts := by
  intro _
  refine ⟨g, 0, rfl, fun i hi => ?_⟩
  obtain ⟨h0, h1, g', h2, h3⟩ := ht i hi
  subst hn
  rw [Nat.zero_add]
  exact ⟨(h.cellAt _ (by omega)).trans h0, (h.cellAt _ (by omega)).trans h1, _, _, (h.cellAt _ (by omega)).trans h2, strOf_owns h3, Nat.le_refl _, fun h => by cases h⟩
set_option maxHeartbeats 400000 in
theorem toTermS_any (a : Option Addr) (cap : Nat) (ts : List TD) (w : World) (hl : ts.length ≤ 1048576) (hz : ∀ t ∈ ts, t.2.2.length ≤ 1048576) (hrow : termsOf w a ts) :
    Calls Try.prog 68 #[.slice a ts.length cap] w fun e w' => ∃ xs, e = .returned (.slice (some ⟨w.heap.size, 0, none⟩) ts.length ts.length) ∧
      w'.ownsRow w.heap.size 199 3 (.slice (some ⟨w.heap.size, 0, none⟩) ts.length ts.length) ts.length xs ∧ (∀ j (hj : j < ts.length), termIs w' (w.heap.size + 1) xs j ts[j]) ∧ Below w.heap.size w w' := by
  obtain ⟨i0, hi, hz0, hz1, hz2⟩ := info_parts Try.infoTerm
  have Hr := hide hrow
  have Hz := hide hz
  clear hrow hz
  go_enter Try.func68, Try.ntmps68
  go_wp2_with (at_make; refine wpList_make_full _ rfl _ _ 38 rfl w.heap.size 199 i0 _ 3 Try.underlying38 hi hz0 hz1 _ _ _ _ ts.length rfl rfl rfl rfl (by rw [hz2]; omega) (by unfold maxLen; omega) (Nat.le_refl _) ?_; intro w1 hown hgrow)
  go_loopw [4] (fun i wr => ∃ (k : Nat) (xs : List Value), k ≤ ts.length ∧ i = .int .i64 k ∧ wr.ownsRow w.heap.size 199 3 (.slice (some ⟨w.heap.size, 0, none⟩) ts.length ts.length) ts.length xs ∧
      Hid (∀ j (hj : j < ts.length), j < k → termIs wr (w.heap.size + 1) xs j ts[j]) ∧ Below w.heap.size w wr) (fun i _ => ts.length - (intOf i).toNat)
  case atStart => exact ⟨0, _, Nat.zero_le _, rfl, hown, fun j _ hj => by omega, Below.grown (Below.refl _ _) hgrow (Nat.le_refl _) (fun k hk => by cases hk)⟩
  case round =>
    obtain ⟨k, xs, hk, rfl, how, Hx, hbw⟩ := hrel
    clear hown hgrow
    by_cases hlt : k < ts.length
    · obtain ⟨b, off, rfl, hat⟩ := Hr.out (by omega)
      obtain ⟨h0c, h1c, av, capv, h2c, h3c⟩ := (hat k hlt).below hbw
      have hz := (Hz.out _ (List.getElem_mem hlt))
      obtain ⟨KD, KEY, VS, hkv⟩ : ∃ KD KEY VS, ts[k]'hlt = (KD, KEY, VS) := ⟨_, _, _, rfl⟩
      rw [hkv] at h0c h1c h2c h3c hz
      have Hkv := hide hkv
      clear hat hkv
      simp only at h0c h1c h2c h3c hz
      have hxl : xs.length = ts.length * 3 := how.1
      have Hxl := hide hxl
      have hw0 : w.heap.size < wr.heap.size := owns_slot how
      obtain ⟨o0, g0⟩ : ∃ o, xs[k * 3]? = some o := ⟨_, List.getElem?_eq_getElem (by omega)⟩
      obtain ⟨o1, g1⟩ : ∃ o, xs[k * 3 + 1]? = some o := ⟨_, List.getElem?_eq_getElem (by omega)⟩
      obtain ⟨o2, g2⟩ : ∃ o, xs[k * 3 + 2]? = some o := ⟨_, List.getElem?_eq_getElem (by omega)⟩
      have How := hide how
      have G0 := hide g0
      have G1 := hide g1
      have G2 := hide g2
      have Hs3 := hide h3c.1
      clear how g0 g1 g2 hxl h3c
      go_wp2_with fail
      refine (toTerm_any KD KEY VS av capv _ hz (by exact Hs3.out)).mono ?_
      rintro e w2 ⟨g, hg, rfl, ho2, hb2⟩
      have how2 := owns_below How.out hb2
      have q0 : w2.cell? ⟨w.heap.size, k * 3, none⟩ = some o0 := (how2.cellAt _ (by omega)).trans G0.out
      have q1 : w2.cell? ⟨w.heap.size, k * 3 + 1, none⟩ = some o1 := (how2.cellAt _ (by omega)).trans G1.out
      have q2 : w2.cell? ⟨w.heap.size, k * 3 + 2, none⟩ = some o2 := (how2.cellAt _ (by omega)).trans G2.out
      have f0 := how2.frozenAt (k * 3)
      have f1 := how2.frozenAt (k * 3 + 1)
      have f2 := how2.frozenAt (k * 3 + 2)
      have S0 := hide (((how2.stored (k * 3) (.int .i64 KD)).1.stored (k * 3 + 1) (.string KEY)).1.stored (k * 3 + 2) (.slice (some ⟨g, 0, none⟩) VS.length VS.length)).1
      have Ho2 := hide (owns_mono ho2 (B' := w.heap.size + 1) (by omega))
      have Hb2 := hide hb2
      clear how2 ho2 hb2 hg
      go_wp2
      go_roundw
      case rel => exact ⟨k + 1, _, by omega, by go_num, S0.out, (by
          intro j hj hjk
          have hl := Hxl.out
          by_cases e0 : j = k
          · subst e0
            rw [Hkv.out]
            refine ⟨?_, ?_, g, ?_, owns_at_set (owns_at_set (owns_at_set Ho2.out (by simp)) (by simp)) (by simp)⟩
            · rw [List.getElem?_set_ne (by omega), List.getElem?_set_ne (by omega), List.getElem?_set_self (by omega)]
            · rw [List.getElem?_set_ne (by omega), List.getElem?_set_self (by simp; omega)]
            · rw [List.getElem?_set_self (by simp; omega)]
          · have h := ((((Hx.out j hj (by omega)).below Hb2.out).set (p := ⟨w.heap.size, k * 3, none⟩) (u := .int .i64 KD) (by simp)).set (p := ⟨w.heap.size, k * 3 + 1, none⟩) (u := .string KEY) (by simp)).set (p := ⟨w.heap.size, k * 3 + 2, none⟩) (u := .slice (some ⟨g, 0, none⟩) VS.length VS.length) (by simp)
            obtain ⟨h0, h1, g', h2, h3⟩ := h
            refine ⟨?_, ?_, g', ?_, h3⟩
            · rw [List.getElem?_set_ne (by omega), List.getElem?_set_ne (by omega), List.getElem?_set_ne (by omega)]; exact h0
            · rw [List.getElem?_set_ne (by omega), List.getElem?_set_ne (by omega), List.getElem?_set_ne (by omega)]; exact h1
            · rw [List.getElem?_set_ne (by omega), List.getElem?_set_ne (by omega), List.getElem?_set_ne (by omega)]; exact h2),
        (((hbw.trans (Hb2.out.mono hbw.size)).setCell (Nat.le_refl _) _).setCell (Nat.le_refl _) _).setCell (Nat.le_refl _) _⟩
      case measure => simp [intOf]; omega
    · have e : k = ts.length := by omega
      subst e
      go_wp2
      go_ret
      exact ⟨xs, rfl, how, fun j hj => Hx.out j hj hj, hbw⟩
theorem toTermS_row (a : Option Addr) (cap : Nat) (ts : List TD) (w : World) (hl : ts.length ≤ 1048576) (hz : ∀ t ∈ ts, t.2.2.length ≤ 1048576) (hrow : termsOf w a ts) :
    Calls Try.prog 68 #[.slice a ts.length cap] w fun e w' => ∃ g, e = .returned (.slice (some ⟨g, 0, none⟩) ts.length ts.length) ∧ termsOf w' (some ⟨g, 0, none⟩) ts ∧ Below w.heap.size w w' :=
  (toTermS_any a cap ts w hl hz hrow).mono fun _ _ ⟨xs, h1, h2, h3, h4⟩ => ⟨_, h1, termsOf_owns h2 rfl h3, h4⟩
end Go.Proofs.Ytdnodaoeflbfkaa
namespace Go.Proofs.Ytdnodaoeflbfkaa
open Go.RowKit

/-- where a slice value of labels leads, in a world -/
def rowOf (w : World) (a : Option Addr) (ls : List (ByteArray × ByteArray)) : Prop := 0 < ls.length → ∃ b off, a = some ⟨b, off, none⟩ ∧ labsAt w b off ls

theorem eqLabelS_any (a a' : Option Addr) (cap cap' : Nat) (ls ls' : List (ByteArray × ByteArray)) (w : World) (hl : ls.length ≤ maxLen) (hl' : ls'.length ≤ maxLen)
    (hrow : rowOf w a ls) (hrow' : rowOf w a' ls') :
    Calls Try.prog 84 #[.slice a ls.length cap, .slice a' ls'.length cap'] w fun e w' => e = .returned (.bool (decide (ls = ls'))) ∧ Below w.heap.size w w' := by
  unfold maxLen at hl hl'
  have Hr : Hid (rowOf w a ls) := hrow
  have Hr' : Hid (rowOf w a' ls') := hrow'
  clear hrow hrow'
  by_cases hll : ls.length = ls'.length
  · have hb0 : ((ls.length : Int) != (ls'.length : Int)) = false := by rw [bne_eq_false_iff_eq]; omega
    have Hl : Hid (ls.length = ls'.length) := hll
    have hle : ls.length ≤ ls'.length := by omega
    have hge : ls'.length ≤ ls.length := by omega
    clear hll
    go_enter Try.func84, Try.ntmps84
    go_wp2
    go_loopw [5] (fun i wr => ∃ (k : Nat), k ≤ ls.length ∧ i = .int .i64 k ∧ Hid (∀ j, j < k → ls[j]? = ls'[j]?) ∧ Below w.heap.size w wr) (fun i _ => ls.length - (intOf i).toNat)
    case atStart => exact ⟨0, Nat.zero_le _, rfl, fun j hj => by omega, Below.refl _ _⟩
    case round =>
      obtain ⟨k, hk, rfl, Hx, hbw⟩ := hrel
      by_cases hlt : k < ls.length
      · have hlt' : k < ls'.length := by omega
        obtain ⟨b, off, rfl, hat⟩ := Hr.out (by omega)
        obtain ⟨b', off', rfl, hat'⟩ := Hr'.out (by omega)
        have hbb : b < w.heap.size := World.block_lt_of_cell? _ _ (hat k hlt).1
        have hbb' : b' < w.heap.size := World.block_lt_of_cell? _ _ (hat' k hlt').1
        have c0 := (hbw.cell (p := ⟨b, off + k * 2, none⟩) hbb).trans (hat k hlt).1
        have c2 := (hbw.cell (p := ⟨b, off + k * 2 + 1, none⟩) hbb).trans (hat k hlt).2
        have c0' := (hbw.cell (p := ⟨b', off' + k * 2, none⟩) hbb').trans (hat' k hlt').1
        have c2' := (hbw.cell (p := ⟨b', off' + k * 2 + 1, none⟩) hbb').trans (hat' k hlt').2
        obtain ⟨K, V, hkv⟩ : ∃ K V, ls[k]'hlt = (K, V) := ⟨_, _, rfl⟩
        obtain ⟨K', V', hkv'⟩ : ∃ K V, ls'[k]'hlt' = (K, V) := ⟨_, _, rfl⟩
        rw [hkv] at c0 c2
        rw [hkv'] at c0' c2'
        have Hg : Hid (ls[k]? = some (K, V) ∧ ls'[k]? = some (K', V')) := ⟨by rw [← hkv]; exact List.getElem?_eq_getElem _, by rw [← hkv']; exact List.getElem?_eq_getElem _⟩
        clear hkv hat hkv' hat'
        simp only at c0 c2 c0' c2'
        have hcon : ∀ wx, Below w.heap.size w wx → Calls Try.prog 158 #[.agg #[.string K, .string V], .agg #[.string K', .string V']] wx fun e w' => e = .returned (.bool (decide ((K, V) = (K', V')))) ∧ Below w.heap.size w w' :=
          fun wx hx => (eqLabel_any K V K' V' wx).mono fun e w' h => ⟨h.1, hx.trans (h.2.mono hx.size)⟩
        by_cases hq : (K, V) = (K', V')
        · rw [decide_eq_true hq] at hcon
          have Hn : Hid (∀ j, j < k + 1 → ls[j]? = ls'[j]?) := by
            intro j hj
            by_cases e : j = k
            · rw [e, Hg.out.1, Hg.out.2, hq]
            · exact Hx.out j (by omega)
          have Hcon := hide hcon
          clear hcon hq Hg Hx
          go_wp2
          go_region_with (go_at_call 158; refine (Hcon.out _ (by repeat (first | exact hbw | refine Below.drew ?_ | refine below_drewN ?_ _))).mono ?_; rintro e w2 ⟨rfl, hb2⟩)
          all_goals go_wp2
          all_goals (
            go_roundw
            case rel => exact ⟨k + 1, by omega, by go_num, Hn, by repeat (first | exact hb2 | refine Below.drew ?_ | refine below_drewN ?_ _)⟩
            case measure => simp [intOf]; omega)
        · rw [decide_eq_false hq] at hcon
          have Hn : Hid (decide (ls = ls') = false) := by
            show _ = _
            rw [decide_eq_false_iff_not]
            rintro rfl
            exact hq (by rw [Hg.out.1] at Hg; exact Option.some.inj Hg.out.2)
          have Hcon := hide hcon
          clear hcon hq Hg Hx
          go_wp2
          go_region_with (go_at_call 158; refine (Hcon.out _ (by repeat (first | exact hbw | refine Below.drew ?_ | refine below_drewN ?_ _))).mono ?_; rintro e w2 ⟨rfl, hb2⟩)
          all_goals go_wp2
          all_goals go_ret
          all_goals exact ⟨ret_bool Hn.out.symm, by repeat (first | exact hb2 | refine Below.drew ?_ | refine below_drewN ?_ _)⟩
      · have Hn : Hid (decide (ls = ls') = true) := by
          show _ = _
          rw [decide_eq_true_eq]
          apply List.ext_getElem?
          intro j
          by_cases hj : j < k
          · exact Hx.out j hj
          · rw [List.getElem?_eq_none (by omega), List.getElem?_eq_none (by omega)]
        have e : k = ls.length := by omega
        subst e
        clear Hx
        go_wp2
        go_ret
        exact ⟨ret_bool Hn.out.symm, hbw⟩
  · have hb0 : ((ls.length : Int) != (ls'.length : Int)) = true := by rw [bne_iff_ne]; omega
    have Hn : Hid (decide (ls = ls') = false) := by
      show _ = _
      rw [decide_eq_false_iff_not]
      rintro rfl
      exact hll rfl
    clear hll
    go_enter Try.func84, Try.ntmps84
    go_wp2
    go_ret
    exact ⟨ret_bool Hn.out.symm, Below.refl _ _⟩
end Go.Proofs.Ytdnodaoeflbfkaa
/- Data as cells: rows of plain numbers. -/
namespace Go.Proofs.Ytdnodaoeflbfkaa
open Go.RowKit
set_option linter.unusedVariables false

/-- the numbers of a row of plain numbers -/
def intL : UD → List Int
  | .nil => []
  | .p (.int _ z) r => z :: intL r
  | .p _ r => intL r
  | .l _ _ _ r => intL r
theorem intL_get : ∀ (d : UD) (i : Nat), tyU d (uE 1) i → (intL d).length = d.len ∧ ∀ j (h : j < (intL d).length), d.at? j = some (.p (.int .i64 ((intL d)[j]'h))) ∧ inK .i64 ((intL d)[j]'h)
  | .nil, i, _ => ⟨rfl, fun j h => by cases h⟩
  | .p v r, i, ⟨⟨f, hf, hv⟩, h2⟩ => by
    have hf' : f = .i .i64 := by
      have : (i % (uE 1).length) = 0 := by show i % 1 = 0; omega
      rw [this] at hf
      exact (Option.some.inj hf).symm
    subst hf'
    obtain ⟨z, rfl, hz⟩ := hv
    obtain ⟨h3, h4⟩ := intL_get r (i + 1) h2
    refine ⟨by show (intL r).length + 1 = _; rw [h3, UD.len_p], fun j h => ?_⟩
    cases j with
    | zero => exact ⟨rfl, hz⟩
    | succ j => exact h4 j (by simpa [intL] using h)
  | .l k n cs r, i, ⟨⟨t, hf, _⟩, _⟩ => by
    have : (i % (uE 1).length) = 0 := by show i % 1 = 0; omega
    rw [this] at hf
    cases hf
theorem intL_inj : ∀ (a b : UD) (i j : Nat), tyU a (uE 1) i → tyU b (uE 1) j → intL a = intL b → a = b
  | .nil, .nil, _, _, _, _, _ => rfl
  | .nil, b, i, j, ha, hb, h => by
    have h1 := (intL_get b j hb).1
    rw [← h] at h1
    exact (UD.len_nil h1.symm).symm
  | a, .nil, i, j, ha, hb, h => by
    have h1 := (intL_get a i ha).1
    rw [h] at h1
    exact UD.len_nil h1.symm
  | .p v r, .p v' r', i, j, ha, hb, h => by
    obtain ⟨⟨f, hf, hv⟩, h2⟩ := ha
    obtain ⟨⟨f', hf', hv'⟩, h2'⟩ := hb
    have e1 : f = .i .i64 := by
      have : (i % (uE 1).length) = 0 := by show i % 1 = 0; omega
      rw [this] at hf; exact (Option.some.inj hf).symm
    have e2 : f' = .i .i64 := by
      have : (j % (uE 1).length) = 0 := by show j % 1 = 0; omega
      rw [this] at hf'; exact (Option.some.inj hf').symm
    subst e1 e2
    obtain ⟨s, rfl, _⟩ := hv
    obtain ⟨s', rfl, _⟩ := hv'
    obtain ⟨rfl, h3⟩ := List.cons.inj (show s :: intL r = s' :: intL r' from h)
    rw [intL_inj r r' (i + 1) (j + 1) h2 h2' h3]
  | .l k n cs r, _, i, _, ha, _, _ => by
    obtain ⟨⟨t, hf, _⟩, _⟩ := ha
    have : (i % (uE 1).length) = 0 := by show i % 1 = 0; omega
    rw [this] at hf
    cases hf
  | _, .l k n cs r, _, j, _, hb, _ => by
    obtain ⟨⟨t, hf, _⟩, _⟩ := hb
    have : (j % (uE 1).length) = 0 := by show j % 1 = 0; omega
    rw [this] at hf
    cases hf
theorem intL_len {n : Nat} {c : UD} (h : tyS 1 n c 1) : (intL c).length = n := by rw [(intL_get c 0 h.2.2.2.2).1, h.2.2.2.1, Nat.mul_one]
/-- a row of numbers in memory -/
theorem int_at {w : World} {lo hi n : Nat} {c : UD} {b off cap : Nat} (ht : tyS 1 n c 1) (h : uS w lo hi 1 n c (.slice (some ⟨b, off, none⟩) n cap)) (j : Nat) (hj : j < (intL c).length) : w.cell? ⟨b, off + j, none⟩ = some (.int .i64 ((intL c)[j]'hj)) := by
  have hl := intL_len ht
  obtain ⟨b', off', e, _, hm⟩ := h.cells (by omega)
  cases e
  obtain ⟨c', q1, q2⟩ := hm.get j _ ((intL_get c 0 ht.2.2.2.2).2 j hj).1
  rw [q1, show c' = _ from q2]
theorem int_in {n : Nat} {c : UD} (ht : tyS 1 n c 1) (j : Nat) (hj : j < (intL c).length) : -9223372036854775808 ≤ (intL c)[j]'hj ∧ (intL c)[j]'hj ≤ 9223372036854775807 := ((intL_get c 0 ht.2.2.2.2).2 j hj).2
theorem cntU_int : ∀ (c : UD) (i : Nat), tyU c (uE 1) i → cnt c = c.len
  | .nil, _, _ => rfl
  | .p v r, i, h => by rw [UD.len_p]; show 1 + cnt r = _; rw [cntU_int r (i + 1) h.2]; omega
  | .l k n cs r, i, h => by
    obtain ⟨⟨t, hf, _⟩, _⟩ := h
    have : (i % (uE 1).length) = 0 := by show i % 1 = 0; omega
    rw [this] at hf
    cases hf
theorem cnt_int {n : Nat} {c : UD} (h : tyS 1 n c 1) : cnt c = n := by rw [cntU_int c 0 h.2.2.2.2, h.2.2.2.1, Nat.mul_one]
/-- the cells of a row of numbers -/
def ofInts : List Int → UD
  | [] => .nil
  | z :: r => .p (.int .i64 z) (ofInts r)
theorem intL_of : ∀ l : List Int, intL (ofInts l) = l
  | [] => rfl
  | z :: r => by show z :: intL (ofInts r) = _; rw [intL_of r]
theorem ofInts_len : ∀ l : List Int, (ofInts l).len = l.length
  | [] => rfl
  | z :: r => by show (UD.p _ (ofInts r)).len = _; rw [UD.len_p, ofInts_len r]; rfl
theorem ofInts_ty : ∀ (l : List Int) (i : Nat), (∀ z ∈ l, inK .i64 z) → tyU (ofInts l) (uE 1) i
  | [], _, _ => trivial
  | z :: r, i, h => ⟨⟨.i .i64, by have : (i % (uE 1).length) = 0 := by show i % 1 = 0; omega
                                  rw [this]; rfl, z, rfl, h z (by simp)⟩, ofInts_ty r (i + 1) (fun x hx => h x (by simp [hx]))⟩
theorem ofInts_tyS {l : List Int} (h : ∀ z ∈ l, inK .i64 z) (hl : l.length ≤ maxLen) : tyS 1 l.length (ofInts l) 1 := ⟨by decide, rfl, hl, by rw [ofInts_len, Nat.mul_one], ofInts_ty l 0 h⟩
theorem wt_ofInts : ∀ l : List Int, wt (ofInts l) = 0
  | [] => rfl
  | z :: r => by show wtP _ + wt (ofInts r) = 0; rw [wt_ofInts r]; rfl
theorem cnt_ofInts : ∀ l : List Int, cnt (ofInts l) = l.length
  | [] => rfl
  | z :: r => by show 1 + cnt (ofInts r) = _; rw [cnt_ofInts r, List.length_cons]; omega
theorem ofInts_own {w : World} : ∀ l : List Int, oH w (ofInts l) (l.map (Value.int .i64)) []
  | [] => ⟨rfl, rfl⟩
  | z :: r => ⟨_, rfl, ofInts_own r⟩
theorem Try.infoDInt : (Try.prog.info? 3).map (fun i => (i.zero, i.size, i.bytes)) = some (some (.int .i64 0), 1, 8) := by kernel_rfl
theorem infoD {P : Program} {t : TypeId} {z : Value} {k b : Nat} (h : (P.info? t).map (fun i => (i.zero, i.size, i.bytes)) = some (some z, k, b)) : ∃ i, P.info? t = some i ∧ i.zero = some z ∧ i.size = k ∧ i.bytes = b := by
  cases e : P.info? t with
  | none => rw [e] at h; cases h
  | some i => rw [e] at h; simp at h; exact ⟨i, rfl, h.1, h.2.1, h.2.2⟩
end Go.Proofs.Ytdnodaoeflbfkaa
/- Islands and wants: their data, and where they lie. -/
namespace Go.Proofs.Ytdnodaoeflbfkaa
open Go.RowKit Go.BigFrame
set_option linter.unusedVariables false

theorem list_of {α : Type} (P : Nat → α → Prop) : ∀ n, (∀ i, i < n → ∃ x, P i x) → ∃ l : List α, l.length = n ∧ ∀ i (h : i < l.length), P i (l[i]'h) := by
  intro n
  induction n with
  | zero => exact fun _ => ⟨[], rfl, fun i h => by cases h⟩
  | succ n ih =>
    intro h
    obtain ⟨l, h1, h2⟩ := ih (fun i hi => h i (by omega))
    obtain ⟨x, hx⟩ := h n (by omega)
    refine ⟨l ++ [x], by simp [h1], fun i hi => ?_⟩
    by_cases e : i < l.length
    · rw [List.getElem_append_left e]; exact h2 i e
    · have : i = n := by simp at hi; omega
      subst this
      rw [List.getElem_append_right (by omega)]
      simpa [h1] using hx
abbrev WgD := ByteArray × Int
abbrev IsD := ByteArray × List (ByteArray × ByteArray) × List ByteArray × Int
abbrev WaD := Int × List TD × List ByteArray × List WgD

def wgAt (w : World) (b o : Nat) (x : WgD) : Prop := w.cell? ⟨b, o, none⟩ = some (.string x.1) ∧ w.cell? ⟨b, o + 1, none⟩ = some (.int .i64 x.2)
def wgsOf (w : World) (a : Option Addr) (l : List WgD) : Prop := 0 < l.length → ∃ b off, a = some ⟨b, off, none⟩ ∧ ∀ i (h : i < l.length), wgAt w b (off + i * 2) (l[i]'h)
theorem wgAt.below {w w' : World} {b o : Nat} {x : WgD} (h : wgAt w b o x) (hb : Below w.heap.size w w') : wgAt w' b o x :=
  have hbb := World.block_lt_of_cell? _ _ h.1
  ⟨(hb.cell (p := ⟨b, o, none⟩) hbb).trans h.1, (hb.cell (p := ⟨b, o + 1, none⟩) hbb).trans h.2⟩
theorem wgsOf.below {w w' : World} {a : Option Addr} {l : List WgD} (h : wgsOf w a l) (hb : Below w.heap.size w w') : wgsOf w' a l := fun hl => by
  obtain ⟨b, off, e, h⟩ := h hl
  exact ⟨b, off, e, fun i hi => (h i hi).below hb⟩
def okWg (x : WgD) : Prop := x.1.size ≤ maxLen ∧ inK .i64 x.2
def okWgs (l : List WgD) : Prop := l.length ≤ maxLen ∧ ∀ x ∈ l, okWg x
theorem rowOf_below {w w' : World} {a : Option Addr} {ls : List (ByteArray × ByteArray)} (h : rowOf w a ls) (hb : Below w.heap.size w w') : rowOf w' a ls := fun hl => by
  obtain ⟨b, off, e, h⟩ := h hl
  refine ⟨b, off, e, fun i hi => ?_⟩
  have hbb := World.block_lt_of_cell? _ _ (h i hi).1
  exact ⟨(hb.cell (p := ⟨b, off + i * 2, none⟩) hbb).trans (h i hi).1, (hb.cell (p := ⟨b, off + i * 2 + 1, none⟩) hbb).trans (h i hi).2⟩

/-- the cells of an island -/
def isC (w : World) (I : IsD) (c1 c2 : Value) : Prop := (∃ a p, c1 = .slice a I.2.1.length p ∧ rowOf w a I.2.1) ∧ ∃ a p, c2 = .slice a I.2.2.1.length p ∧ strOf w a I.2.2.1
theorem isC.below {w w' : World} {I : IsD} {c1 c2 : Value} (h : isC w I c1 c2) (hb : Below w.heap.size w w') : isC w' I c1 c2 := by
  obtain ⟨⟨a, p, e, h⟩, a', p', e', h'⟩ := h
  exact ⟨⟨a, p, e, rowOf_below h hb⟩, a', p', e', h'.below hb⟩
def isH (w : World) (I : IsD) (xs : List Value) : Prop := ∃ c1 c2, xs = [.string I.1, c1, c2, .int .i64 I.2.2.2] ∧ isC w I c1 c2
theorem isH.below {w w' : World} {I : IsD} {xs : List Value} (h : isH w I xs) (hb : Below w.heap.size w w') : isH w' I xs := by
  obtain ⟨c1, c2, e, h⟩ := h
  exact ⟨c1, c2, e, h.below hb⟩
def isAt (w : World) (b o : Nat) (I : IsD) : Prop := ∃ c1 c2, w.cell? ⟨b, o, none⟩ = some (.string I.1) ∧ w.cell? ⟨b, o + 1, none⟩ = some c1 ∧ w.cell? ⟨b, o + 2, none⟩ = some c2 ∧ w.cell? ⟨b, o + 3, none⟩ = some (.int .i64 I.2.2.2) ∧ isC w I c1 c2
theorem isAt.below {w w' : World} {b o : Nat} {I : IsD} (h : isAt w b o I) (hb : Below w.heap.size w w') : isAt w' b o I := by
  obtain ⟨c1, c2, h0, h1, h2, h3, h⟩ := h
  have hbb := World.block_lt_of_cell? _ _ h0
  exact ⟨c1, c2, (hb.cell (p := ⟨b, o, none⟩) hbb).trans h0, (hb.cell (p := ⟨b, o + 1, none⟩) hbb).trans h1, (hb.cell (p := ⟨b, o + 2, none⟩) hbb).trans h2, (hb.cell (p := ⟨b, o + 3, none⟩) hbb).trans h3, h.below hb⟩
def isS (w : World) (c : Value) (l : List IsD) : Prop := ∃ a p, c = .slice a l.length p ∧ (0 < l.length → ∃ b off, a = some ⟨b, off, none⟩ ∧ ∀ i (h : i < l.length), isAt w b (off + i * 4) (l[i]'h))
theorem isS.below {w w' : World} {c : Value} {l : List IsD} (h : isS w c l) (hb : Below w.heap.size w w') : isS w' c l := by
  obtain ⟨a, p, e, h⟩ := h
  refine ⟨a, p, e, fun hl => ?_⟩
  obtain ⟨b, off, e, h⟩ := h hl
  exact ⟨b, off, e, fun i hi => (h i hi).below hb⟩
def okIs1 (I : IsD) : Prop := I.1.size ≤ maxLen ∧ (I.2.1.length ≤ maxLen ∧ okSizes I.2.1) ∧ (I.2.2.1.length ≤ maxLen ∧ okStrs I.2.2.1) ∧ inK .i64 I.2.2.2
/-- the cells of a want -/
def waC (w : World) (W : WaD) (c1 c2 c3 : Value) : Prop := (∃ a p, c1 = .slice a W.2.1.length p ∧ termsOf w a W.2.1) ∧ (∃ a p, c2 = .slice a W.2.2.1.length p ∧ strOf w a W.2.2.1) ∧ ∃ a p, c3 = .slice a W.2.2.2.length p ∧ wgsOf w a W.2.2.2
theorem waC.below {w w' : World} {W : WaD} {c1 c2 c3 : Value} (h : waC w W c1 c2 c3) (hb : Below w.heap.size w w') : waC w' W c1 c2 c3 := by
  obtain ⟨⟨a, p, e, h⟩, ⟨a', p', e', h'⟩, a2, p2, e2, h2⟩ := h
  exact ⟨⟨a, p, e, h.below hb⟩, ⟨a', p', e', h'.below hb⟩, a2, p2, e2, h2.below hb⟩
def waH (w : World) (W : WaD) (xs : List Value) : Prop := ∃ c1 c2 c3, xs = [.int .i64 W.1, c1, c2, c3] ∧ waC w W c1 c2 c3
theorem waH.below {w w' : World} {W : WaD} {xs : List Value} (h : waH w W xs) (hb : Below w.heap.size w w') : waH w' W xs := by
  obtain ⟨c1, c2, c3, e, h⟩ := h
  exact ⟨c1, c2, c3, e, h.below hb⟩
def waAt (w : World) (b o : Nat) (W : WaD) : Prop := ∃ c1 c2 c3, w.cell? ⟨b, o, none⟩ = some (.int .i64 W.1) ∧ w.cell? ⟨b, o + 1, none⟩ = some c1 ∧ w.cell? ⟨b, o + 2, none⟩ = some c2 ∧ w.cell? ⟨b, o + 3, none⟩ = some c3 ∧ waC w W c1 c2 c3
theorem waAt.below {w w' : World} {b o : Nat} {W : WaD} (h : waAt w b o W) (hb : Below w.heap.size w w') : waAt w' b o W := by
  obtain ⟨c1, c2, c3, h0, h1, h2, h3, h⟩ := h
  have hbb := World.block_lt_of_cell? _ _ h0
  exact ⟨c1, c2, c3, (hb.cell (p := ⟨b, o, none⟩) hbb).trans h0, (hb.cell (p := ⟨b, o + 1, none⟩) hbb).trans h1, (hb.cell (p := ⟨b, o + 2, none⟩) hbb).trans h2, (hb.cell (p := ⟨b, o + 3, none⟩) hbb).trans h3, h.below hb⟩
def waS (w : World) (c : Value) (l : List WaD) : Prop := ∃ a p, c = .slice a l.length p ∧ (0 < l.length → ∃ b off, a = some ⟨b, off, none⟩ ∧ ∀ i (h : i < l.length), waAt w b (off + i * 4) (l[i]'h))
theorem waS.below {w w' : World} {c : Value} {l : List WaD} (h : waS w c l) (hb : Below w.heap.size w w') : waS w' c l := by
  obtain ⟨a, p, e, h⟩ := h
  refine ⟨a, p, e, fun hl => ?_⟩
  obtain ⟨b, off, e, h⟩ := h hl
  exact ⟨b, off, e, fun i hi => (h i hi).below hb⟩
def okWa (W : WaD) : Prop := inK .i64 W.1 ∧ (W.2.1.length ≤ maxLen ∧ okTerms W.2.1) ∧ (W.2.2.1.length ≤ maxLen ∧ okStrs W.2.2.1) ∧ okWgs W.2.2.2

-- out of cells
theorem labs_of {n : Nat} {c : UD} (ht : tyS 2 n c 4) : ∃ l : List (ByteArray × ByteArray), l.length = n ∧ okSizes l ∧ ∀ (w : World) (lo hi : Nat) (v : Value), uS w lo hi 2 n c v → ∃ a p, v = .slice a n p ∧ rowOf w a l := by
  obtain ⟨l, h1, h2⟩ := list_of (fun i (x : ByteArray × ByteArray) => rowU c 2 i = .p (.string x.1) (.p (.string x.2) .nil) ∧ x.1.size ≤ maxLen ∧ x.2.size ≤ maxLen) n (fun i hi => by
    obtain ⟨z0, z1, e, g0, g1⟩ := partsLabel (ht.row hi)
    exact ⟨(z0, z1), e, g0, g1⟩)
  subst h1
  refine ⟨l, rfl, fun x hx => ?_, fun w lo hi v h => ?_⟩
  · obtain ⟨i, hi, rfl⟩ := List.getElem_of_mem hx
    exact (h2 i hi).2
  · obtain ⟨a, p, rfl, g⟩ := h
    refine ⟨a, p, rfl, fun hp => ?_⟩
    obtain ⟨b, off, e, -, hm⟩ := (show uS w lo hi 2 l.length c (.slice a l.length p) from ⟨a, p, rfl, g⟩).cells hp
    refine ⟨b, off, e, fun i hi => ?_⟩
    have := hm.row 2 i
    rw [(h2 i hi).1] at this
    exact ⟨this.1, this.2.1⟩
theorem strs_of {n : Nat} {c : UD} (ht : tyS 1 n c 0) : ∃ l : List ByteArray, l.length = n ∧ okStrs l ∧ ∀ (w : World) (lo hi : Nat) (v : Value), uS w lo hi 1 n c v → ∃ a p, v = .slice a n p ∧ strOf w a l ∧ n ≤ p ∧ (a = none → p = 0) := by
  obtain ⟨l, h1, h2⟩ := list_of (fun i (x : ByteArray) => rowU c 1 i = .p (.string x) .nil ∧ x.size ≤ maxLen) n (fun i hi => by
    obtain ⟨z0, e, g0⟩ := partsString (ht.row hi)
    exact ⟨z0, e, g0⟩)
  subst h1
  refine ⟨l, rfl, fun x hx => ?_, fun w lo hi v h => ?_⟩
  · obtain ⟨i, hi, rfl⟩ := List.getElem_of_mem hx
    exact (h2 i hi).2
  · obtain ⟨a, p, rfl, g⟩ := h
    refine ⟨a, p, rfl, fun hp => ?_, g.1.1, g.1.2.1⟩
    obtain ⟨b, off, e, -, hm⟩ := (show uS w lo hi 1 l.length c (.slice a l.length p) from ⟨a, p, rfl, g⟩).cells hp
    refine ⟨b, off, e, fun i hi => ?_⟩
    have := hm.row 1 i
    rw [(h2 i hi).1, Nat.mul_one] at this
    exact this.1
theorem wgs_of {n : Nat} {c : UD} (ht : tyS 2 n c 15) : ∃ l : List WgD, l.length = n ∧ okWgs l ∧ ∀ (w : World) (lo hi : Nat) (v : Value), uS w lo hi 2 n c v → ∃ a p, v = .slice a n p ∧ wgsOf w a l := by
  obtain ⟨l, h1, h2⟩ := list_of (fun i (x : WgD) => rowU c 2 i = .p (.string x.1) (.p (.int .i64 x.2) .nil) ∧ okWg x) n (fun i hi => by
    obtain ⟨z0, z1, e, g0, g1⟩ := partsWeigh (ht.row hi)
    exact ⟨(z0, z1), e, g0, g1⟩)
  subst h1
  refine ⟨l, rfl, ⟨ht.2.2.1, fun x hx => ?_⟩, fun w lo hi v h => ?_⟩
  · obtain ⟨i, hi, rfl⟩ := List.getElem_of_mem hx
    exact (h2 i hi).2
  · obtain ⟨a, p, rfl, g⟩ := h
    refine ⟨a, p, rfl, fun hp => ?_⟩
    obtain ⟨b, off, e, -, hm⟩ := (show uS w lo hi 2 l.length c (.slice a l.length p) from ⟨a, p, rfl, g⟩).cells hp
    refine ⟨b, off, e, fun i hi => ?_⟩
    have := hm.row 2 i
    rw [(h2 i hi).1] at this
    exact ⟨this.1, this.2.1⟩
theorem terms_of {n : Nat} {c : UD} (ht : tyS 3 n c 5) : ∃ l : List TD, l.length = n ∧ okTerms l ∧ ∀ (w : World) (lo hi : Nat) (v : Value), uS w lo hi 3 n c v → ∃ a p, v = .slice a n p ∧ termsOf w a l := by
  obtain ⟨l, h1, h2⟩ := list_of (fun i (x : TD) => okTerm x ∧ ∀ (w : World) (lo hi b o : Nat), uM w lo hi (rowU c 3 i) b o → termAt w b o x) n (fun i hi => by
    obtain ⟨z0, z1, n2, c2, e, g0, g1, g2⟩ := partsTerm (ht.row hi)
    obtain ⟨l, k1, k2, k3⟩ := strs_of g2
    refine ⟨(z0, z1, l), ⟨g1, by rw [k1]; exact g2.2.2.1, k2⟩, fun w lo hi b o h => ?_⟩
    rw [e] at h
    obtain ⟨h0, h1, ⟨a, p, h2, h3⟩, -⟩ := h
    obtain ⟨a', p', e', q1, q2, q3⟩ := k3 w lo hi _ ⟨a, p, rfl, h3⟩
    cases e'
    exact ⟨h0, h1, a, p, by rw [k1]; exact h2, q1, by rw [k1]; exact q2, q3⟩)
  subst h1
  refine ⟨l, rfl, fun x hx => ?_, fun w lo hi v h => ?_⟩
  · obtain ⟨i, hi, rfl⟩ := List.getElem_of_mem hx
    exact (h2 i hi).1
  · obtain ⟨a, p, rfl, g⟩ := h
    refine ⟨a, p, rfl, fun hp => ?_⟩
    obtain ⟨b, off, e, -, hm⟩ := (show uS w lo hi 3 l.length c (.slice a l.length p) from ⟨a, p, rfl, g⟩).cells hp
    exact ⟨b, off, e, fun i hj => (h2 i hj).2 w lo hi b _ (hm.row 3 i)⟩
theorem is_of {d : UD} (ht : tyL d (uE 14)) : ∃ I : IsD, okIs1 I ∧ ∀ (w : World) (lo hi : Nat) (xs : List Value), uH w lo hi d xs → isH w I xs := by
  obtain ⟨z0, n1, c1, n2, c2, z3, rfl, g0, g1, g2, g3⟩ := partsIsland ht
  obtain ⟨l1, k1, k2, k3⟩ := labs_of g1
  obtain ⟨l2, q1, q2, q3⟩ := strs_of g2
  refine ⟨(z0, l1, l2, z3), ⟨g0, ⟨by rw [k1]; exact g1.2.2.1, k2⟩, ⟨by rw [q1]; exact g2.2.2.1, q2⟩, g3⟩, fun w lo hi xs h => ?_⟩
  obtain ⟨_, rfl, ⟨v1, _, rfl, s1, ⟨v2, _, rfl, s2, ⟨_, rfl, rfl⟩⟩⟩⟩ := h
  obtain ⟨a, p, e, h⟩ := k3 w lo hi _ s1
  obtain ⟨a', p', e', h', -⟩ := q3 w lo hi _ s2
  exact ⟨v1, v2, rfl, ⟨a, p, by rw [k1]; exact e, h⟩, a', p', by rw [q1]; exact e', h'⟩
theorem wa_of {d : UD} (ht : tyL d (uE 16)) : ∃ W : WaD, okWa W ∧ ∀ (w : World) (lo hi : Nat) (xs : List Value), uH w lo hi d xs → waH w W xs := by
  obtain ⟨z0, n1, c1, n2, c2, n3, c3, rfl, g0, g1, g2, g3⟩ := partsWant ht
  obtain ⟨l1, k1, k2, k3⟩ := terms_of g1
  obtain ⟨l2, q1, q2, q3⟩ := strs_of g2
  obtain ⟨l3, r1, r2, r3⟩ := wgs_of g3
  refine ⟨(z0, l1, l2, l3), ⟨g0, ⟨by rw [k1]; exact g1.2.2.1, k2⟩, ⟨by rw [q1]; exact g2.2.2.1, q2⟩, r2⟩, fun w lo hi xs h => ?_⟩
  obtain ⟨_, rfl, ⟨v1, _, rfl, s1, ⟨v2, _, rfl, s2, ⟨v3, _, rfl, s3, rfl⟩⟩⟩⟩ := h
  obtain ⟨a, p, e, h⟩ := k3 w lo hi _ s1
  obtain ⟨a', p', e', h', -⟩ := q3 w lo hi _ s2
  obtain ⟨a2, p2, e2, h2⟩ := r3 w lo hi _ s3
  exact ⟨v1, v2, v3, rfl, ⟨a, p, by rw [k1]; exact e, h⟩, ⟨a', p', by rw [q1]; exact e', h'⟩, a2, p2, by rw [r1]; exact e2, h2⟩
theorem hand_at {w : World} {lo hi b o : Nat} {d : UD} (h : uM w lo hi d b o) : ∃ xs, uH w lo hi d xs ∧ ∀ j c, xs[j]? = some c → w.cell? ⟨b, o + j, none⟩ = some c := h.hand
theorem iss_of {n : Nat} {c : UD} (ht : tyS 4 n c 14) : ∃ l : List IsD, l.length = n ∧ (∀ I ∈ l, okIs1 I) ∧ ∀ (w : World) (lo hi : Nat) (v : Value), uS w lo hi 4 n c v → isS w v l := by
  obtain ⟨l, h1, h2⟩ := list_of (fun i (I : IsD) => okIs1 I ∧ ∀ (w : World) (lo hi : Nat) (xs : List Value), uH w lo hi (rowU c 4 i) xs → isH w I xs) n (fun i hi => is_of (ht.row hi))
  subst h1
  refine ⟨l, rfl, fun x hx => ?_, fun w lo hi v h => ?_⟩
  · obtain ⟨i, hi, rfl⟩ := List.getElem_of_mem hx
    exact (h2 i hi).1
  · obtain ⟨a, p, rfl, g⟩ := h
    refine ⟨a, p, rfl, fun hp => ?_⟩
    obtain ⟨b, off, e, -, hm⟩ := (show uS w lo hi 4 l.length c (.slice a l.length p) from ⟨a, p, rfl, g⟩).cells hp
    refine ⟨b, off, e, fun i hi => ?_⟩
    obtain ⟨xs, k1, k2⟩ := (hm.row 4 i).hand
    obtain ⟨c1, c2, rfl, hc⟩ := (h2 i hi).2 w _ _ xs k1
    exact ⟨c1, c2, k2 0 _ rfl, k2 1 _ rfl, k2 2 _ rfl, k2 3 _ rfl, hc⟩
theorem was_of {n : Nat} {c : UD} (ht : tyS 4 n c 16) : ∃ l : List WaD, l.length = n ∧ (∀ W ∈ l, okWa W) ∧ ∀ (w : World) (lo hi : Nat) (v : Value), uS w lo hi 4 n c v → waS w v l := by
  obtain ⟨l, h1, h2⟩ := list_of (fun i (W : WaD) => okWa W ∧ ∀ (w : World) (lo hi : Nat) (xs : List Value), uH w lo hi (rowU c 4 i) xs → waH w W xs) n (fun i hi => wa_of (ht.row hi))
  subst h1
  refine ⟨l, rfl, fun x hx => ?_, fun w lo hi v h => ?_⟩
  · obtain ⟨i, hi, rfl⟩ := List.getElem_of_mem hx
    exact (h2 i hi).1
  · obtain ⟨a, p, rfl, g⟩ := h
    refine ⟨a, p, rfl, fun hp => ?_⟩
    obtain ⟨b, off, e, -, hm⟩ := (show uS w lo hi 4 l.length c (.slice a l.length p) from ⟨a, p, rfl, g⟩).cells hp
    refine ⟨b, off, e, fun i hi => ?_⟩
    obtain ⟨xs, k1, k2⟩ := (hm.row 4 i).hand
    obtain ⟨c1, c2, c3, rfl, hc⟩ := (h2 i hi).2 w _ _ xs k1
    exact ⟨c1, c2, c3, k2 0 _ rfl, k2 1 _ rfl, k2 2 _ rfl, k2 3 _ rfl, hc⟩
end Go.Proofs.Ytdnodaoeflbfkaa
/- A frame by blocks: outside a range of blocks all is as it was. -/
namespace Go.Proofs.Ytdnodaoeflbfkaa
open Go.RowKit
set_option linter.unusedVariables false

/-- terms that a call made: the row, and each one's strings, in blocks of their own from lo on, apart from one another -/
def termOwn (w : World) (lo : Nat) (xs : List Value) (V : Nat → Value) (g j : Nat) (t : TD) : Prop :=
  xs[j * 3]? = some (.int .i64 t.1) ∧ xs[j * 3 + 1]? = some (.string t.2.1) ∧ xs[j * 3 + 2]? = some (V j) ∧ w.ownsRow lo 9 1 (V j) t.2.2.length (strVs t.2.2) ∧ (V j).ownBlock ≠ some g
def apart (V : Nat → Value) (n : Nat) : Prop := ∀ i j, i < n → j < n → i ≠ j → ∀ b, (V i).ownBlock = some b → (V j).ownBlock ≠ some b
def ownTs (w : World) (lo g cap : Nat) (ts : List TD) : Prop := ∃ xs V, w.ownsRow lo 199 3 (.slice (some ⟨g, 0, none⟩) ts.length cap) ts.length xs ∧ (∀ j (hj : j < ts.length), termOwn w lo xs V g j ts[j]) ∧ apart V ts.length
theorem ownTs.row {w : World} {lo g cap : Nat} {ts : List TD} (h : ownTs w lo g cap ts) : termsOf w (some ⟨g, 0, none⟩) ts := by
  obtain ⟨xs, V, h1, h2, _⟩ := h
  intro _
  refine ⟨g, 0, rfl, fun i hi => ?_⟩
  obtain ⟨a0, a1, a2, a3, _⟩ := h2 i hi
  obtain ⟨a, c, e, s1, s2, s3⟩ := strOf_own a3 rfl
  rw [Nat.zero_add]
  exact ⟨(h1.cellAt _ (by omega)).trans a0, (h1.cellAt _ (by omega)).trans a1, a, c, ((h1.cellAt _ (by omega)).trans a2).trans (by rw [e]), s1, s2, s3⟩
theorem ownTs.below {w w' : World} {lo g cap : Nat} {ts : List TD} (h : ownTs w lo g cap ts) (hb : Below w.heap.size w w') : ownTs w' lo g cap ts := by
  obtain ⟨xs, V, h1, h2, h3⟩ := h
  refine ⟨xs, V, owns_below h1 hb, fun j hj => ?_, h3⟩
  obtain ⟨a0, a1, a2, a3, a4⟩ := h2 j hj
  exact ⟨a0, a1, a2, owns_out a3 (Out.of_below (lo := 0) (hi := 0) hb) (fun _ _ => .inr (Nat.zero_le _)), a4⟩
theorem ownTs.blk {w : World} {lo g cap : Nat} {ts : List TD} (h : ownTs w lo g cap ts) : lo ≤ g ∧ g < w.heap.size := by
  obtain ⟨xs, V, h1, _⟩ := h
  exact owns_blk h1 rfl
end Go.Proofs.Ytdnodaoeflbfkaa
namespace Go.Proofs.Ytdnodaoeflbfkaa
open Go.RowKit Go.BigFrame
set_option linter.unusedVariables false
/-! the draws: a cursor -/
theorem i64_and255 (n : Int) : bits .and .i64 n 255 = n % 256 := by
  have h255 : (BitVec.ofInt 64 255).toNat = 2 ^ 8 - 1 := by decide
  have key : (BitVec.ofInt 64 n &&& BitVec.ofInt 64 255).toNat = (n % ((2 ^ 64 : Nat) : Int)).toNat % 2 ^ 8 := by
    rw [BitVec.toNat_and, BitVec.toNat_ofInt, h255, Nat.and_two_pow_sub_one_eq_mod]
  show IntKind.i64.wrap ((BitVec.ofInt 64 n &&& BitVec.ofInt 64 255).toNat : Nat) = n % 256
  rw [key, IntKind.wrap_i64]
  omega
/-- the bytes of a code -/
def codeAt (w : World) (a : Option Addr) (n d : Nat) : Prop := ∀ j, j < n → ∃ b off x, a = some ⟨b, off, none⟩ ∧ b ≠ d ∧ w.cell? ⟨b, off + j, none⟩ = some (.int .u8 x) ∧ 0 ≤ x ∧ x < 256
/-- a cursor in the block d -/
structure CurAt (w : World) (d : Nat) (a : Option Addr) (n cap : Nat) (i : Nat) (h : Int) : Prop where
  le : i ≤ n
  c0 : w.cell? ⟨d, 0, none⟩ = some (.slice a n cap)
  c1 : w.cell? ⟨d, 1, none⟩ = some (.int .i64 i)
  c2 : w.cell? ⟨d, 2, none⟩ = some (.int .i64 h)
  f1 : w.frozen? ⟨d, 1, none⟩ = false
  f2 : w.frozen? ⟨d, 2, none⟩ = false
  code : codeAt w a n d
theorem CurAt.put2 {w : World} {d : Nat} {a : Option Addr} {n cap i : Nat} {h : Int} (c : CurAt w d a n cap i h) (H : Int) : CurAt (w.setCell ⟨d, 2, none⟩ (.int .i64 H)) d a n cap i H := by
  refine ⟨c.le, ?_, ?_, World.cell?_setCell_same _ _ _ c.c2, ?_, ?_, ?_⟩
  · rw [World.cell?_setCell_other _ _ _ _ (by simp)]; exact c.c0
  · rw [World.cell?_setCell_other _ _ _ _ (by simp)]; exact c.c1
  · rw [World.frozen?_setCell _ _ _ _]; exact c.f1
  · rw [World.frozen?_setCell _ _ _ _]; exact c.f2
  · intro j hj
    obtain ⟨b, off, x, h1, h2, h3, h4⟩ := c.code j hj
    exact ⟨b, off, x, h1, h2, by rw [World.cell?_setCell_other _ _ _ _ (by intro e; injection e with e1; exact h2 e1.symm)]; exact h3, h4⟩
theorem CurAt.put1 {w : World} {d : Nat} {a : Option Addr} {n cap i : Nat} {h : Int} (c : CurAt w d a n cap i h) (k : Nat) (hk : k ≤ n) : CurAt (w.setCell ⟨d, 1, none⟩ (.int .i64 k)) d a n cap k h := by
  refine ⟨hk, ?_, World.cell?_setCell_same _ _ _ c.c1, ?_, ?_, ?_, ?_⟩
  · rw [World.cell?_setCell_other _ _ _ _ (by simp)]; exact c.c0
  · rw [World.cell?_setCell_other _ _ _ _ (by simp)]; exact c.c2
  · rw [World.frozen?_setCell _ _ _ _]; exact c.f1
  · rw [World.frozen?_setCell _ _ _ _]; exact c.f2
  · intro j hj
    obtain ⟨b, off, x, h1, h2, h3, h4⟩ := c.code j hj
    exact ⟨b, off, x, h1, h2, by rw [World.cell?_setCell_other _ _ _ _ (by intro e; injection e with e1; exact h2 e1.symm)]; exact h3, h4⟩
theorem CurAt.drew {w : World} {d : Nat} {a : Option Addr} {n cap i : Nat} {h : Int} (c : CurAt w d a n cap i h) : CurAt w.drew d a n cap i h := ⟨c.le, c.c0, c.c1, c.c2, c.f1, c.f2, c.code⟩
theorem CurAt.lt {w : World} {d : Nat} {a : Option Addr} {n cap i : Nat} {h : Int} (c : CurAt w d a n cap i h) : d < w.heap.size := World.block_lt_of_cell? _ _ c.c0
/-- in a later world whose block d is as it was -/
theorem CurAt.later {w w' : World} {d : Nat} {a : Option Addr} {n cap i : Nat} {h : Int} (c : CurAt w d a n cap i h) (hb : Below w.heap.size w w') : CurAt w' d a n cap i h :=
  ⟨c.le, (hb.cell (p := ⟨d, 0, none⟩) c.lt).trans c.c0, (hb.cell (p := ⟨d, 1, none⟩) c.lt).trans c.c1, (hb.cell (p := ⟨d, 2, none⟩) c.lt).trans c.c2,
    (World.frozen?_of_block (w := w) (a := ⟨d, 1, none⟩) (hb.block d c.lt)).trans c.f1, (World.frozen?_of_block (w := w) (a := ⟨d, 2, none⟩) (hb.block d c.lt)).trans c.f2,
    fun j hj => by
      obtain ⟨b, off, x, h1, h2, h3, h4⟩ := c.code j hj
      exact ⟨b, off, x, h1, h2, (hb.cell (p := ⟨b, off + j, none⟩) (World.block_lt_of_cell? _ _ h3)).trans h3, h4⟩⟩
theorem Out.drew {lo hi : Nat} {a w : World} (h : Out lo hi a w) : Out lo hi a w.drew := h.trans ⟨rfl, rfl, rfl, Nat.le_refl _, fun _ _ _ => rfl⟩
set_option maxHeartbeats 800000 in
theorem l1Byte_any (d n cap i : Nat) (h : Int) (a : Option Addr) (w : World) (hn : n ≤ 1048576) (hc : CurAt w d a n cap i h) :
    Calls Try.prog 172 #[.pointer (some ⟨d, 0, none⟩)] w fun e w' => ∃ (x i' : Nat) (h' : Int), x < 256 ∧ e = .returned (.int .i64 x) ∧ CurAt w' d a n cap i' h' ∧ Out d (d + 1) w w' := by
  have Hcur := hide hc
  obtain ⟨hle, c0, c1, c2, f1, f2, hcode⟩ := hc
  have Hc := hide hcode
  clear hcode
  go_enter Try.func172, Try.ntmps172
  go_wp2
  go_region
  have hX : ∃ k : Nat, k < 256 ∧ bits BinOp.and IntKind.i64 (bits BinOp.xor IntKind.i64 (wrap64 (wrap64 (h * 6364136223846793005) + 1442695040888963407) / 8589934592) (wrap64 (wrap64 (h * 6364136223846793005) + 1442695040888963407) / 140737488355328)) 255 = (k : Int) := ⟨(bits BinOp.xor IntKind.i64 (wrap64 (wrap64 (h * 6364136223846793005) + 1442695040888963407) / 8589934592) (wrap64 (wrap64 (h * 6364136223846793005) + 1442695040888963407) / 140737488355328) % 256).toNat, by omega, by rw [i64_and255]; omega⟩
  obtain ⟨X, hX1, hX2⟩ := hX
  rw [hX2]
  clear hX2
  generalize wrap64 (wrap64 (h * 6364136223846793005) + 1442695040888963407) = H at *
  go_wp2
  go_region
  by_cases hlt : i < n
  · obtain ⟨b, off, x, rfl, hbd, hx, hx0, hx1⟩ := Hc.out i hlt
    go_wp2
    go_region
    go_wp2
    go_ret
    refine ⟨((X + x) % 256).toNat, i + 1, H, by omega, ?_, ((Hcur.out.put2 H).put1 (i + 1) (by omega)).drew.drew.drew, ((((Out.refl d (d + 1) w).setCell (p := ⟨d, 2, none⟩) (Nat.le_refl _) (Nat.lt_succ_self _) _).setCell (p := ⟨d, 1, none⟩) (Nat.le_refl _) (Nat.lt_succ_self _) _).drew.drew.drew)⟩
    show Ending.returned (Value.int .i64 (bits BinOp.and IntKind.i64 (X + x) 255)) = _
    rw [i64_and255]
    exact ret_int (by omega)
  · go_wp2
    go_ret
    exact ⟨X, i, H, hX1, rfl, (Hcur.out.put2 H).drew.drew, ((Out.refl d (d + 1) w).setCell (p := ⟨d, 2, none⟩) (Nat.le_refl _) (Nat.lt_succ_self _) _).drew.drew⟩
def CurIn (w : World) (d : Nat) (a : Option Addr) (n cap : Nat) : Prop := ∃ (i : Nat) (h : Int), CurAt w d a n cap i h
theorem CurIn.later {w w' : World} {d : Nat} {a : Option Addr} {n cap : Nat} (c : CurIn w d a n cap) (hb : Below w.heap.size w w') : CurIn w' d a n cap := by
  obtain ⟨i, h, c⟩ := c
  exact ⟨i, h, c.later hb⟩
theorem CurIn.drew {w : World} {d : Nat} {a : Option Addr} {n cap : Nat} (c : CurIn w d a n cap) : CurIn w.drew d a n cap := by
  obtain ⟨i, h, c⟩ := c
  exact ⟨i, h, c.drew⟩
theorem l1Byte_in (d n cap : Nat) (a : Option Addr) (w : World) (hn : n ≤ 1048576) (hc : CurIn w d a n cap) :
    Calls Try.prog 172 #[.pointer (some ⟨d, 0, none⟩)] w fun e w' => ∃ x : Nat, x < 256 ∧ e = .returned (.int .i64 x) ∧ Hid (CurIn w' d a n cap) ∧ Out d (d + 1) w w' := by
  obtain ⟨i, h, hc⟩ := hc
  exact (l1Byte_any d n cap i h a w hn hc).mono fun e w' ⟨x, i', h', h1, h2, h3, h4⟩ => ⟨x, h1, h2, hide ⟨i', h', h3⟩, h4⟩
set_option maxHeartbeats 800000 in
theorem l1Below_any (d n cap m : Nat) (a : Option Addr) (w : World) (hn : n ≤ 1048576) (hm : m ≤ 1048576) (hc : CurIn w d a n cap) :
    Calls Try.prog 97 #[.pointer (some ⟨d, 0, none⟩), .int .i64 m] w fun e w' => ∃ x : Nat, (0 < m → x < m) ∧ e = .returned (.int .i64 x) ∧ Hid (CurIn w' d a n cap) ∧ Out d (d + 1) w w' := by
  have Hc := hide hc
  clear hc
  go_enter Try.func97, Try.ntmps97
  by_cases h0 : m = 0
  · subst h0
    go_wp2
    go_ret
    exact ⟨0, by omega, rfl, Hc, Out.refl _ _ _⟩
  · by_cases h1 : m ≤ 256
    · go_wp2_with (go_at_call 172; refine (l1Byte_in d n cap a _ hn Hc.out).mono ?_; rintro e w2 ⟨x, hx, rfl, hc2, ho2⟩)
      go_wp2
      go_ret
      refine ⟨x % m, fun _ => Nat.mod_lt _ (by omega), ?_, hc2, ho2⟩
      exact ret_int (by omega)
    · go_wp2_with (go_at_call 172; refine (l1Byte_in d n cap a _ hn Hc.out).mono ?_; rintro e w2 ⟨x, hx, rfl, hc2, ho2⟩)
      go_wp2_with (go_at_call 172; refine (l1Byte_in d n cap a _ hn hc2.out).mono ?_; rintro e w3 ⟨y, hy, rfl, hc3, ho3⟩)
      go_wp2_with (go_at_call 172; refine (l1Byte_in d n cap a _ hn hc3.out).mono ?_; rintro e w4 ⟨z, hz, rfl, hc4, ho4⟩)
      go_wp2
      go_ret
      refine ⟨(x * 65536 + y * 256 + z) % m, fun _ => Nat.mod_lt _ (by omega), ?_, hc4, (ho2.trans ho3).trans ho4⟩
      exact ret_int (by simp only [Int.natCast_emod, Int.natCast_add, Int.natCast_mul]; rfl)
theorem l1Once_any (d n cap m : Nat) (a : Option Addr) (w : World) (hn : n ≤ 1048576) (hm : m ≤ 1048576) (hc : CurIn w d a n cap) :
    Calls Try.prog 99 #[.pointer (some ⟨d, 0, none⟩), .int .i64 m] w fun e w' => ∃ o : Bool, e = .returned (.bool o) ∧ Hid (CurIn w' d a n cap) ∧ Out d (d + 1) w w' := by
  have Hc := hide hc
  clear hc
  go_enter Try.func99, Try.ntmps99
  go_wp2_with (go_at_call 97; refine (l1Below_any d n cap m a _ hn hm Hc.out).mono ?_; rintro e w2 ⟨x, hx, rfl, hc2, ho2⟩)
  go_wp2
  go_ret
  exact ⟨_, rfl, hc2, ho2⟩
set_option maxHeartbeats 800000 in
theorem l1Str_any (d n cap b off sc : Nat) (a : Option Addr) (ss : List ByteArray) (w : World) (hn : n ≤ 1048576) (hl : ss.length ≤ 1048576) (h0 : 0 < ss.length) (hc : CurIn w d a n cap) (hs : strAt w b off ss) (hbd : b ≠ d) :
    Calls Try.prog 116 #[.pointer (some ⟨d, 0, none⟩), .slice (some ⟨b, off, none⟩) ss.length sc] w fun e w' => ∃ s, s ∈ ss ∧ e = .returned (.string s) ∧ Hid (CurIn w' d a n cap) ∧ Out d (d + 1) w w' := by
  have Hc := hide hc
  have Hs := hide hs
  clear hc hs
  go_enter Try.func116, Try.ntmps116
  go_wp2_with (go_at_call 97; refine (l1Below_any d n cap ss.length a _ hn hl (by first | exact Hc.out | exact Hc.out.drew)).mono ?_; rintro e w2 ⟨x, hx, rfl, hc2, ho2⟩; have hx' := hx h0; have hq := (ho2.cell (p := ⟨b, off + x, none⟩) (World.block_lt_of_cell? _ _ (Hs.out x hx')) (by show b < d ∨ d + 1 ≤ b; omega)).trans (Hs.out x hx'))
  go_wp2
  go_ret
  exact ⟨_, List.getElem_mem _, rfl, hc2, ho2⟩
end Go.Proofs.Ytdnodaoeflbfkaa
namespace Go.Proofs.Ytdnodaoeflbfkaa
open Go.RowKit Go.BigFrame
set_option linter.unusedVariables false
/-- the names that are drawn -/
def drawnNames : List ByteArray := [⟨#[97]⟩, ⟨#[98]⟩, ⟨#[99]⟩, ⟨#[122, 111, 110, 101]⟩, ⟨#[116, 105, 101, 114]⟩, ⟨#[103, 111, 108, 100]⟩, ⟨#[101, 97, 115, 116]⟩, ⟨#[120, 45, 49]⟩, ⟨#[97, 98, 99, 100, 101, 102, 103, 104, 105, 106, 107, 108, 109, 110, 111, 112, 113, 114, 115, 116]⟩]
def drawnOdd : List ByteArray := [⟨#[]⟩, ⟨#[45, 97]⟩, ⟨#[97, 45]⟩, ⟨#[65]⟩, ⟨#[97, 32, 98]⟩, ⟨#[97, 98, 99, 100, 101, 102, 103, 104, 105, 106, 107, 108, 109, 110, 111, 112, 113, 114, 115, 116, 117]⟩, ⟨#[255]⟩, ⟨#[97, 61, 98]⟩]
theorem strAt_lit (w : World) (t : TypeId) (ss : List ByteArray) : strAt (w.alloc (.cells (ss.map Value.string).toArray t)) w.heap.size 0 ss := by
  intro i hi
  refine (World.cell?_alloc_at _ _ _ _ rfl).trans ?_
  simp [hi]
theorem l1Str_lit (d n cap : Nat) (a : Option Addr) (ss : List ByteArray) (w : World) (hn : n ≤ 1048576) (hl : ss.length ≤ 1048576) (h0 : 0 < ss.length) (hd : d < w.heap.size) (hc : CurIn w d a n cap) :
    Calls Try.prog 116 #[.pointer (some ⟨d, 0, none⟩), .slice (some ⟨w.heap.size, 0, none⟩) ss.length ss.length] (w.alloc (.cells (ss.map Value.string).toArray 9)) fun e w' => ∃ s, s ∈ ss ∧ e = .returned (.string s) ∧ Hid (CurIn w' d a n cap) ∧ Out d (d + 1) w w' :=
  (l1Str_any d n cap w.heap.size 0 ss.length a ss _ hn hl h0 (hc.later ((Below.refl _ _).alloc (Nat.le_refl _) _)) (strAt_lit w 9 ss) (by omega)).mono fun e w' ⟨s, h1, h2, h3, h4⟩ => ⟨s, h1, h2, h3, (Out.of_below ((Below.refl _ _).alloc (Nat.le_refl _) _)).trans h4⟩
set_option maxHeartbeats 800000 in
theorem l1Name_any (d n cap : Nat) (a : Option Addr) (w : World) (hn : n ≤ 1048576) (hd : d < w.heap.size) (hc : CurIn w d a n cap) :
    Calls Try.prog 107 #[.pointer (some ⟨d, 0, none⟩)] w fun e w' => ∃ s, s ∈ drawnNames ∧ e = .returned (.string s) ∧ Hid (CurIn w' d a n cap) ∧ Out d (d + 1) w w' := by
  have Hs := hide (l1Str_lit d n cap a drawnNames w hn (by decide) (by decide) hd hc)
  clear hc
  go_enter Try.func107, Try.ntmps107
  go_wp2_with (go_at_call 116; refine Hs.out.mono ?_; rintro e w2 ⟨s, hs, rfl, hc2, ho2⟩)
  go_wp2
  go_ret
  exact ⟨s, hs, rfl, hc2, ho2⟩
theorem CurIn.lt {w : World} {d : Nat} {a : Option Addr} {n cap : Nat} (c : CurIn w d a n cap) : d < w.heap.size := by
  obtain ⟨i, h, c⟩ := c
  exact c.lt
set_option maxHeartbeats 800000 in
theorem l1NameAny_any (d n cap : Nat) (a : Option Addr) (w : World) (hn : n ≤ 1048576) (hc : CurIn w d a n cap) :
    Calls Try.prog 175 #[.pointer (some ⟨d, 0, none⟩)] w fun e w' => ∃ s, s ∈ drawnNames ++ drawnOdd ∧ e = .returned (.string s) ∧ Hid (CurIn w' d a n cap) ∧ Out d (d + 1) w w' := by
  have Hc := hide hc
  clear hc
  go_enter Try.func175, Try.ntmps175
  go_wp2_with (go_at_call 99; refine (l1Once_any d n cap 8 a _ hn (by decide) Hc.out).mono ?_; rintro e w2 ⟨o, rfl, hc2, ho2⟩; have Hs := hide (l1Str_lit d n cap a drawnOdd w2 hn (by decide) (by decide) hc2.out.lt hc2.out); have Hn := hide (l1Name_any d n cap a w2 hn hc2.out.lt hc2.out); cases o)
  · go_wp2_with (go_at_call 107; refine Hn.out.mono ?_; rintro e w3 ⟨s, hs, rfl, hc3, ho3⟩)
    go_wp2
    go_ret
    exact ⟨s, List.mem_append_left _ hs, rfl, hc3, ho2.trans ho3⟩
  · go_wp2_with (go_at_call 116; refine Hs.out.mono ?_; rintro e w3 ⟨s, hs, rfl, hc3, ho3⟩)
    go_wp2
    go_ret
    exact ⟨s, List.mem_append_right _ hs, rfl, hc3, ho2.trans ho3⟩
end Go.Proofs.Ytdnodaoeflbfkaa
namespace Go.Proofs.Ytdnodaoeflbfkaa
open Go.RowKit Go.BigFrame
set_option linter.unusedVariables false
set_option maxRecDepth 40000
theorem frozen_new (wr : World) (c : Array Value) (t : TypeId) (i : Nat) : (wr.alloc (.cells c t)).frozen? ⟨wr.heap.size, i, none⟩ = false := by
  have e : (wr.alloc (.cells c t)).heap[wr.heap.size]? = some (.cells c t) := Array.getElem?_push_size
  unfold World.frozen?
  simp only [e]
  simp
theorem curNew {w wr : World} {n cap : Nat} {a : Option Addr} (H : Int) (t : TypeId) (hc : codeAt w a n w.heap.size) (hb : Below w.heap.size w wr) : CurIn (wr.alloc (.cells #[.slice a n cap, .int .i64 0, .int .i64 H] t)) wr.heap.size a n cap := by
  refine ⟨0, H, Nat.zero_le _, (World.cell?_alloc_at _ _ _ _ rfl).trans rfl, (World.cell?_alloc_at _ _ _ _ rfl).trans rfl, (World.cell?_alloc_at _ _ _ _ rfl).trans rfl, ?_, ?_, ?_⟩
  · exact frozen_new _ _ _ _
  · exact frozen_new _ _ _ _
  · intro j hj
    obtain ⟨b, off, x, h1, h2, h3, h4⟩ := hc j hj
    have hlt := World.block_lt_of_cell? _ _ h3
    have hs := hb.size
    exact ⟨b, off, x, h1, by simp only at hlt; omega, ((hb.alloc hb.size _).cell (p := ⟨b, off + j, none⟩) hlt).trans h3, h4⟩
set_option maxHeartbeats 800000 in
theorem l1New_any (n cap : Nat) (a : Option Addr) (w : World) (hn : n ≤ 1048576) (hc : codeAt w a n w.heap.size) :
    Calls Try.prog 96 #[.slice a n cap] w fun e w' => ∃ d, w.heap.size ≤ d ∧ e = .returned (.pointer (some ⟨d, 0, none⟩)) ∧ Hid (CurIn w' d a n cap) ∧ Below w.heap.size w w' := by
  have Hc := hide hc
  clear hc
  go_enter Try.func96, Try.ntmps96
  go_wp2
  go_loopw [3, 4] (fun h i wr => ∃ (k : Nat) (H : Int), k ≤ n ∧ i = .int .i64 k ∧ h = .int .i64 H ∧ Below w.heap.size w wr) (fun _ i _ => n - (intOf i).toNat)
  case atStart => exact ⟨0, _, Nat.zero_le _, rfl, rfl, Below.refl _ _⟩
  case round =>
    obtain ⟨k, H, hk, rfl, rfl, hbw⟩ := hrel
    by_cases hlt : k < n ∧ k < 4000
    · obtain ⟨hlt, h4⟩ := hlt
      obtain ⟨b, off, x, rfl, hbd, hx, hx0, hx1⟩ := Hc.out k hlt
      have hx' := (hbw.cell (p := ⟨b, off + k, none⟩) (World.block_lt_of_cell? _ _ hx)).trans hx
      go_wp2
      go_roundw
      case rel => exact ⟨k + 1, _, by omega, by go_num, rfl, by repeat (first | exact hbw | refine Below.drew ?_ | refine below_drewN ?_ _)⟩
      case measure => simp [intOf]; omega
    · have e : k = n ∨ 4000 ≤ k := by omega
      go_wp2
      all_goals (
        go_ret
        exact ⟨_, hbw.size, rfl, hide (curNew H _ Hc.out hbw), hbw.alloc hbw.size _⟩)
end Go.Proofs.Ytdnodaoeflbfkaa
namespace Go.Proofs.Ytdnodaoeflbfkaa
open Go.RowKit Go.BigFrame

def keyAt (ls : List (ByteArray × ByteArray)) (i : Nat) : ByteArray := (ls[i]?.getD (ByteArray.empty, ByteArray.empty)).1
def valAt (ls : List (ByteArray × ByteArray)) (i : Nat) : ByteArray := (ls[i]?.getD (ByteArray.empty, ByteArray.empty)).2
def okAt (ls : List (ByteArray × ByteArray)) (i : Nat) : Prop := nameB (keyAt ls i) = true ∧ nameB (valAt ls i) = true ∧ (0 < i → ltS (keyAt ls (i - 1)) (keyAt ls i) = true)
def labelsB (ls : List (ByteArray × ByteArray)) : Bool := decide (ls.length ≤ 8 ∧ ∀ i, i < ls.length → nameB (keyAt ls i) = true ∧ nameB (valAt ls i) = true ∧ (0 < i → ltS (keyAt ls (i - 1)) (keyAt ls i) = true))
theorem labelsB_bad {ls : List (ByteArray × ByteArray)} {k : Nat} (hk : k < ls.length) (h : ¬ okAt ls k) : labelsB ls = false := by
  unfold labelsB; rw [decide_eq_false_iff_not]; exact fun g => h (g.2 k hk)
theorem labelsB_end {ls : List (ByteArray × ByteArray)} (h : ∀ i, i < ls.length → okAt ls i) : labelsB ls = decide (ls.length ≤ 8) := by
  unfold labelsB; rw [decide_eq_decide]; exact ⟨fun g => g.1, fun g => ⟨g, h⟩⟩
theorem ok_succ {ls : List (ByteArray × ByteArray)} {k : Nat} (h : ∀ i, i < k → okAt ls i) (hk : okAt ls k) : ∀ i, i < k + 1 → okAt ls i := by
  intro i hi
  by_cases e : i = k
  · rw [e]; exact hk
  · exact h i (by omega)
/-- the cells, by place -/
def cellsOf (w : World) (b off : Nat) (ls : List (ByteArray × ByteArray)) : Prop := ∀ i, i < ls.length → w.cell? ⟨b, off + i * 2, none⟩ = some (.string (keyAt ls i)) ∧ w.cell? ⟨b, off + i * 2 + 1, none⟩ = some (.string (valAt ls i))
theorem cellsOf_of {w : World} {b off : Nat} {ls : List (ByteArray × ByteArray)} (h : labsAt w b off ls) : cellsOf w b off ls := by
  intro i hi
  have := h i hi
  unfold keyAt valAt
  rw [List.getElem?_eq_getElem hi]
  exact this
def strsOk (ls : List (ByteArray × ByteArray)) : Prop := ∀ i, (keyAt ls i).size ≤ maxLen ∧ (valAt ls i).size ≤ maxLen
theorem strsOk_of {ls : List (ByteArray × ByteArray)} (h : okSizes ls) : strsOk ls := by
  intro i
  unfold keyAt valAt
  by_cases hi : i < ls.length
  · rw [List.getElem?_eq_getElem hi]; exact h _ (List.getElem_mem hi)
  · rw [List.getElem?_eq_none (by omega)]; exact ⟨Nat.zero_le _, Nat.zero_le _⟩

theorem drew_more {w wr : World} (h : ∃ n, wr = w.drewN n) (m : Nat) : ∃ n, wr.drewN m = w.drewN n := by
  obtain ⟨n, hn⟩ := h
  exact ⟨n + m, by rw [hn, World.drewN_drewN]⟩
/-- one label, and the key ahead of it: what both loops ask -/
theorem ok_cases (ls : List (ByteArray × ByteArray)) (k : Nat) :
    (nameB (keyAt ls k) = false ∧ Hid (¬ okAt ls k)) ∨ (nameB (keyAt ls k) = true ∧ nameB (valAt ls k) = false ∧ Hid (¬ okAt ls k)) ∨
    (nameB (keyAt ls k) = true ∧ nameB (valAt ls k) = true ∧ Hid (k = 0) ∧ Hid (okAt ls k)) ∨
    (nameB (keyAt ls k) = true ∧ nameB (valAt ls k) = true ∧ 0 < k ∧ Op.bytesLess (keyAt ls (k - 1)).toList (keyAt ls k).toList = true ∧ Hid (okAt ls k)) ∨
    (nameB (keyAt ls k) = true ∧ nameB (valAt ls k) = true ∧ 0 < k ∧ Op.bytesLess (keyAt ls (k - 1)).toList (keyAt ls k).toList = false ∧ Hid (¬ okAt ls k)) := by
  have hd : okAt ls k ↔ nameB (keyAt ls k) = true ∧ nameB (valAt ls k) = true ∧ (0 < k → Op.bytesLess (keyAt ls (k - 1)).toList (keyAt ls k).toList = true) := Iff.rfl
  unfold Hid
  rw [hd]
  rcases Bool.eq_false_or_eq_true (nameB (keyAt ls k)) with h1 | h1
  · rcases Bool.eq_false_or_eq_true (nameB (valAt ls k)) with h2 | h2
    · by_cases h3 : 0 < k
      · rcases Bool.eq_false_or_eq_true (Op.bytesLess (keyAt ls (k - 1)).toList (keyAt ls k).toList) with h4 | h4
        · exact .inr (.inr (.inr (.inl ⟨h1, h2, h3, h4, h1, h2, fun _ => h4⟩)))
        · refine .inr (.inr (.inr (.inr ⟨h1, h2, h3, h4, fun g => ?_⟩)))
          have := g.2.2 h3
          rw [h4] at this; cases this
      · exact .inr (.inr (.inl ⟨h1, h2, by omega, h1, h2, fun h => absurd h h3⟩))
    · refine .inr (.inl ⟨h1, h2, fun g => ?_⟩)
      rw [h2] at g; cases g.2.1
  · refine .inl ⟨h1, fun g => ?_⟩
    rw [h1] at g; cases g.1

set_option maxHeartbeats 800000 in
theorem slabelsOk_any (a : Option Addr) (cap : Nat) (ls : List (ByteArray × ByteArray)) (w : World) (hl : ls.length ≤ maxLen) (hz : okSizes ls) (hrow : rowOf w a ls) :
    Calls Try.prog 110 #[.slice a ls.length cap] w fun e w' => e = .returned (.bool (labelsB ls)) ∧ ∃ n, w' = w.drewN n := by
  unfold maxLen at hl
  have Hr : Hid (rowOf w a ls) := hrow
  have Hz : Hid (strsOk ls) := strsOk_of hz
  clear hrow hz
  go_enter Try.func110, Try.ntmps110
  go_wp2
  go_loopw [3] (fun i wr => ∃ (k : Nat), k ≤ ls.length ∧ i = .int .i64 k ∧ Hid (∀ j, j < k → okAt ls j) ∧ Hid (∃ n, wr = w.drewN n)) (fun i _ => ls.length - (intOf i).toNat)
  case atStart => exact ⟨0, Nat.zero_le _, rfl, fun j hj => by omega, ⟨0, rfl⟩⟩
  case round =>
    obtain ⟨k, hk, rfl, Hx, Hw⟩ := hrel
    have Hcell : Hid (∀ p, wr.cell? p = w.cell? p) := by obtain ⟨n, hn⟩ := Hw.out; rw [hn]; exact fun _ => rfl
    by_cases hlt : k < ls.length
    · obtain ⟨b, off, rfl, hat⟩ := Hr.out (by omega)
      have hc := cellsOf_of hat
      have c0 := (Hcell.out _).trans (hc k hlt).1
      have c2 := (Hcell.out _).trans (hc k hlt).2
      have cp : 0 < k → wr.cell? ⟨b, off + (k - 1) * 2, none⟩ = some (.string (keyAt ls (k - 1))) := fun h => (Hcell.out _).trans (hc (k - 1) (by omega)).1
      have hzK := (Hz.out k).1
      have hzV := (Hz.out k).2
      have Hs : Hid (okAt ls k → ∀ j, j < k + 1 → okAt ls j) := fun h => ok_succ Hx.out h
      have Hb : Hid (¬ okAt ls k → labelsB ls = false) := fun h => labelsB_bad hlt h
      have hcs := ok_cases ls k
      clear hat hc Hx
      generalize keyAt ls k = K at *
      generalize valAt ls k = V at *
      generalize keyAt ls (k - 1) = P at *
      have hK := fun wx => (sname_any K wx hzK)
      have hV := fun wx => (sname_any V wx hzV)
      clear hzK hzV
      rcases hcs with ⟨h1, hok⟩ | ⟨h1, h2, hok⟩ | ⟨h1, h2, h3, hok⟩ | ⟨h1, h2, h3, h4, hok⟩ | ⟨h1, h2, h3, h4, hok⟩
      · rw [h1] at hK
        have HK := hide hK
        have HV := hide hV
        clear hK hV h1 cp c2
        have Hn := hide (Hb.out hok.out)
        clear Hs Hb Hz Hr Hcell
        go_wp2
        go_quiet (first | (go_at_call_of 64 K; exact Calls.quiet_of_same (HK.out _)) | (go_at_call_of 64 V; exact Calls.quiet_of_same (HV.out _)))
        go_wp2
        go_ret
        exact ⟨ret_bool Hn.out.symm, drew_more Hw.out _⟩
      · rw [h1] at hK
        rw [h2] at hV
        have HK := hide hK
        have HV := hide hV
        clear hK hV h1 h2 cp
        have Hn := hide (Hb.out hok.out)
        clear Hs Hb Hz Hr Hcell
        go_wp2
        go_quiet (first | (go_at_call_of 64 K; exact Calls.quiet_of_same (HK.out _)) | (go_at_call_of 64 V; exact Calls.quiet_of_same (HV.out _)))
        go_wp2
        go_ret
        exact ⟨ret_bool Hn.out.symm, drew_more Hw.out _⟩
      · rw [h1] at hK
        rw [h2] at hV
        have HK := hide hK
        have HV := hide hV
        have hk0 : k = 0 := h3.out
        have h3' : decide ((0 : Int) < (k : Int)) = false := by rw [decide_eq_false_iff_not]; omega
        have h3'' : decide (0 < k) = false := by rw [decide_eq_false_iff_not]; omega
        have h3a : (k : Int) ≤ 0 := by omega
        clear hK hV h1 h2 cp h3 hk0
        have Hn := hide (Hs.out hok.out)
        clear Hs Hb Hz Hr Hcell
        go_wp2
        go_quiet (first | (go_at_call_of 64 K; exact Calls.quiet_of_same (HK.out _)) | (go_at_call_of 64 V; exact Calls.quiet_of_same (HV.out _)))
        go_wp2
        go_roundw
        case rel => exact ⟨k + 1, by omega, by go_num, Hn, drew_more Hw.out _⟩
        case measure => simp [intOf]; omega
      · rw [h1] at hK
        rw [h2] at hV
        have HK := hide hK
        have HV := hide hV
        have cp := cp h3
        have h3' : (0 : Int) < (k : Int) := by omega
        clear hK hV h1 h2
        have Hn := hide (Hs.out hok.out)
        clear Hs Hb Hz Hr Hcell
        go_wp2
        go_quiet (first | (go_at_call_of 64 K; exact Calls.quiet_of_same (HK.out _)) | (go_at_call_of 64 V; exact Calls.quiet_of_same (HV.out _)))
        go_wp2
        go_roundw
        case rel => exact ⟨k + 1, by omega, by go_num, Hn, drew_more Hw.out _⟩
        case measure => simp [intOf]; omega
      · rw [h1] at hK
        rw [h2] at hV
        have HK := hide hK
        have HV := hide hV
        have cp := cp h3
        have h3' : (0 : Int) < (k : Int) := by omega
        clear hK hV h1 h2
        have Hn := hide (Hb.out hok.out)
        clear Hs Hb Hz Hr Hcell
        go_wp2
        go_quiet (first | (go_at_call_of 64 K; exact Calls.quiet_of_same (HK.out _)) | (go_at_call_of 64 V; exact Calls.quiet_of_same (HV.out _)))
        go_wp2
        go_ret
        exact ⟨ret_bool Hn.out.symm, drew_more Hw.out _⟩
    · have e : k = ls.length := by omega
      subst e
      have Hn := hide (labelsB_end Hx.out)
      clear Hx Hcell Hr Hz
      go_wp2
      go_ret
      exact ⟨ret_bool (by rw [Hn.out, Bool.eq_iff_iff]; simp; omega), Hw.out⟩
end Go.Proofs.Ytdnodaoeflbfkaa
namespace Go.Proofs.Ytdnodaoeflbfkaa
open Go.RowKit Go.BigFrame

/-- what a round knows of its worlds: the row that came in, and the copy of the element -/
def InLoop (w : World) (B b off k : Nat) (K V P : ByteArray) (wx : World) : Prop :=
  Below w.heap.size w wx ∧ wx.cell? ⟨B, 0, none⟩ = some (.string K) ∧ wx.cell? ⟨B, 1, none⟩ = some (.string V) ∧ (0 < k → wx.cell? ⟨b, off + (k - 1) * 2, none⟩ = some (.string P)) ∧ B < wx.heap.size ∧ b < w.heap.size
theorem InLoop.step {w : World} {B b off k : Nat} {K V P : ByteArray} {wx w' : World} (h : InLoop w B b off k K V P wx) (hb : Below wx.heap.size wx w') : InLoop w B b off k K V P w' := by
  obtain ⟨h1, h2, h3, h4, h5, h6⟩ := h
  refine ⟨h1.trans (hb.mono h1.size), (hb.cell (p := ⟨B, 0, none⟩) h5).trans h2, (hb.cell (p := ⟨B, 1, none⟩) h5).trans h3, fun hk => (hb.cell (p := ⟨b, off + (k - 1) * 2, none⟩) ?_).trans (h4 hk), Nat.lt_of_lt_of_le h5 hb.size, h6⟩
  exact Nat.lt_of_lt_of_le h6 h1.size
theorem labelsB_long {ls : List (ByteArray × ByteArray)} (h : 8 < ls.length) : labelsB ls = false := by
  unfold labelsB; rw [decide_eq_false_iff_not]; omega

set_option maxHeartbeats 800000 in
theorem ilabelsOk_any (a : Option Addr) (cap : Nat) (ls : List (ByteArray × ByteArray)) (w : World) (hl : ls.length ≤ maxLen) (hrow : rowOf w a ls) :
    Calls Try.prog 109 #[.slice a ls.length cap] w fun e w' => e = .returned (.bool (labelsB ls)) ∧ Below w.heap.size w w' := by
  unfold maxLen at hl
  have Hr : Hid (rowOf w a ls) := hrow
  clear hrow
  by_cases hbig : 8 < ls.length
  · have Hn := hide (labelsB_long hbig)
    have hbig' : (8 : Int) < (ls.length : Int) := by omega
    clear hbig Hr
    go_enter Try.func109, Try.ntmps109
    go_wp2
    go_ret
    exact ⟨ret_bool Hn.out.symm, Below.refl _ _⟩
  have hbig' : ¬ (8 : Int) < (ls.length : Int) := by omega
  go_enter Try.func109, Try.ntmps109
  go_wp2
  go_loopw [10] (fun i wr => ∃ (k : Nat), k ≤ ls.length ∧ i = .int .i64 k ∧ Hid (∀ j, j < k → okAt ls j) ∧ Below w.heap.size w wr) (fun i _ => ls.length - (intOf i).toNat)
  case atStart => exact ⟨0, Nat.zero_le _, rfl, fun j hj => by omega, Below.refl _ _⟩
  case round =>
    obtain ⟨k, hk, rfl, Hx, hbw⟩ := hrel
    by_cases hlt : k < ls.length
    · obtain ⟨b, off, rfl, hat⟩ := Hr.out (by omega)
      have hc := cellsOf_of hat
      have hbb : b < w.heap.size := World.block_lt_of_cell? _ _ (hat k hlt).1
      have c0 := (hbw.cell (p := ⟨b, off + k * 2, none⟩) hbb).trans (hc k hlt).1
      have c2 := (hbw.cell (p := ⟨b, off + k * 2 + 1, none⟩) hbb).trans (hc k hlt).2
      have cp : 0 < k → wr.cell? ⟨b, off + (k - 1) * 2, none⟩ = some (.string (keyAt ls (k - 1))) := fun h => (hbw.cell (p := ⟨b, off + (k - 1) * 2, none⟩) hbb).trans (hc (k - 1) (by omega)).1
      have Hs : Hid (okAt ls k → ∀ j, j < k + 1 → okAt ls j) := fun h => ok_succ Hx.out h
      have Hb : Hid (¬ okAt ls k → labelsB ls = false) := fun h => labelsB_bad hlt h
      have hcs := ok_cases ls k
      clear hat hc Hx
      generalize keyAt ls k = K at *
      generalize valAt ls k = V at *
      generalize keyAt ls (k - 1) = P at *
      have hS0 : InLoop w wr.heap.size b off k K V P (wr.alloc (.cells #[.string K, .string V] 212)) :=
        ⟨hbw.alloc hbw.size _, by simp, by simp, fun h => by rw [World.cell?_alloc_past _ _ _ (Nat.lt_of_lt_of_le hbb hbw.size)]; exact cp h, by simp, hbb⟩
      have HS0 := hide hS0
      have hK : ∀ wx, InLoop w wr.heap.size b off k K V P wx → Calls Try.prog 108 #[.string K] wx fun e w' => e = .returned (.bool (nameB K)) ∧ Hid (InLoop w wr.heap.size b off k K V P w') := fun wx hx => (iname_any K wx).mono fun e w' h => ⟨h.1, hx.step h.2⟩
      have hV : ∀ wx, InLoop w wr.heap.size b off k K V P wx → Calls Try.prog 108 #[.string V] wx fun e w' => e = .returned (.bool (nameB V)) ∧ Hid (InLoop w wr.heap.size b off k K V P w') := fun wx hx => (iname_any V wx).mono fun e w' h => ⟨h.1, hx.step h.2⟩
      clear cp hS0
      rcases hcs with ⟨h1, hok⟩ | ⟨h1, h2, hok⟩ | ⟨h1, h2, h3, hok⟩ | ⟨h1, h2, h3, h4, hok⟩ | ⟨h1, h2, h3, h4, hok⟩
      · rw [h1] at hK
        have HK := hide hK
        have HV := hide hV
        clear hK hV h1
        have Hn := hide (Hb.out hok.out)
        clear Hs Hb Hr
        go_wp2_with (first | (go_at_call_of 108 K; refine (HK.out _ HS0.out).mono ?_; rintro e w2 ⟨rfl, hS2⟩; have x0 := hS2.out.2.1; have x1 := hS2.out.2.2.1) | (go_at_call_of 108 V; refine (HV.out _ hS2.out).mono ?_; rintro e w3 ⟨rfl, hS3⟩; have x2 := hS3.out.2.1; have x3 := hS3.out.2.2.1))
        go_ret
        exact ⟨ret_bool Hn.out.symm, hS2.out.1⟩
      · rw [h1] at hK
        rw [h2] at hV
        have HK := hide hK
        have HV := hide hV
        clear hK hV h1 h2
        have Hn := hide (Hb.out hok.out)
        clear Hs Hb Hr
        go_wp2_with (first | (go_at_call_of 108 K; refine (HK.out _ HS0.out).mono ?_; rintro e w2 ⟨rfl, hS2⟩; have x0 := hS2.out.2.1; have x1 := hS2.out.2.2.1) | (go_at_call_of 108 V; refine (HV.out _ hS2.out).mono ?_; rintro e w3 ⟨rfl, hS3⟩; have x2 := hS3.out.2.1; have x3 := hS3.out.2.2.1))
        go_ret
        exact ⟨ret_bool Hn.out.symm, hS3.out.1⟩
      · rw [h1] at hK
        rw [h2] at hV
        have HK := hide hK
        have HV := hide hV
        have hk0 : k = 0 := h3.out
        have h3' : decide ((0 : Int) < (k : Int)) = false := by rw [decide_eq_false_iff_not]; omega
        have h3'' : decide (0 < k) = false := by rw [decide_eq_false_iff_not]; omega
        have h3a : (k : Int) ≤ 0 := by omega
        clear h3 hk0
        clear hK hV h1 h2
        have Hn := hide (Hs.out hok.out)
        clear Hs Hb Hr
        go_wp2_with (first | (go_at_call_of 108 K; refine (HK.out _ HS0.out).mono ?_; rintro e w2 ⟨rfl, hS2⟩; have x0 := hS2.out.2.1; have x1 := hS2.out.2.2.1) | (go_at_call_of 108 V; refine (HV.out _ hS2.out).mono ?_; rintro e w3 ⟨rfl, hS3⟩; have x2 := hS3.out.2.1; have x3 := hS3.out.2.2.1))
        go_quiet (fail)
        go_wp2
        go_roundw
        case rel => exact ⟨k + 1, by omega, by go_num, Hn, below_drewN hS3.out.1 _⟩
        case measure => simp [intOf]; omega
      · rw [h1] at hK
        rw [h2] at hV
        have HK := hide hK
        have HV := hide hV
        have h3' : (0 : Int) < (k : Int) := by omega
        clear hK hV h1 h2
        have Hn := hide (Hs.out hok.out)
        clear Hs Hb Hr
        go_wp2_with (first | (go_at_call_of 108 K; refine (HK.out _ HS0.out).mono ?_; rintro e w2 ⟨rfl, hS2⟩; have x0 := hS2.out.2.1; have x1 := hS2.out.2.2.1) | (go_at_call_of 108 V; refine (HV.out _ hS2.out).mono ?_; rintro e w3 ⟨rfl, hS3⟩; have x2 := hS3.out.2.1; have x3 := hS3.out.2.2.1; have cp3 := hS3.out.2.2.2.1 h3))
        go_quiet (fail)
        go_wp2
        go_roundw
        case rel => exact ⟨k + 1, by omega, by go_num, Hn, below_drewN hS3.out.1 _⟩
        case measure => simp [intOf]; omega
      · rw [h1] at hK
        rw [h2] at hV
        have HK := hide hK
        have HV := hide hV
        have h3' : (0 : Int) < (k : Int) := by omega
        clear hK hV h1 h2
        have Hn := hide (Hb.out hok.out)
        clear Hs Hb Hr
        go_wp2_with (first | (go_at_call_of 108 K; refine (HK.out _ HS0.out).mono ?_; rintro e w2 ⟨rfl, hS2⟩; have x0 := hS2.out.2.1; have x1 := hS2.out.2.2.1) | (go_at_call_of 108 V; refine (HV.out _ hS2.out).mono ?_; rintro e w3 ⟨rfl, hS3⟩; have x2 := hS3.out.2.1; have x3 := hS3.out.2.2.1; have cp3 := hS3.out.2.2.2.1 h3))
        go_quiet (fail)
        go_wp2
        go_ret
        exact ⟨ret_bool Hn.out.symm, below_drewN hS3.out.1 _⟩
    · have e : k = ls.length := by omega
      subst e
      have Hn : Hid (labelsB ls = true) := by show _ = _; rw [labelsB_end Hx.out, decide_eq_true_eq]; omega
      clear Hx Hr
      go_wp2
      go_ret
      exact ⟨ret_bool Hn.out.symm, hbw⟩
end Go.Proofs.Ytdnodaoeflbfkaa
namespace Go.Proofs.Ytdnodaoeflbfkaa
open Go.RowKit Go.BigFrame
open Go.ChangeShapes Go.WideShapes Go.ChangeAt

theorem labsAt.below {w w' : World} {b off : Nat} {ls : List (ByteArray × ByteArray)} (h : labsAt w b off ls) (hb : Below w.heap.size w w') : labsAt w' b off ls := by
  intro i hi
  have h0 := (h i hi).1
  have hbb : b < w.heap.size := World.block_lt_of_cell? _ _ h0
  exact ⟨(hb.cell (p := ⟨b, off + i * 2, none⟩) hbb).trans h0, (hb.cell (p := ⟨b, off + i * 2 + 1, none⟩) hbb).trans (h i hi).2⟩
theorem rowOf.below {w w' : World} {a : Option Addr} {ls : List (ByteArray × ByteArray)} (h : rowOf w a ls) (hb : Below w.heap.size w w') : rowOf w' a ls := by
  intro hl
  obtain ⟨b, off, e, h⟩ := h hl
  exact ⟨b, off, e, h.below hb⟩
theorem row_of_owns {w : World} {base g n cap : Nat} {e : TypeId} {ls : List (ByteArray × ByteArray)} (h : w.ownsRow base e 2 (.slice (some ⟨g, 0, none⟩) n cap) n (flat ls)) : rowOf w (some ⟨g, 0, none⟩) ls := by
  intro _
  refine ⟨g, 0, rfl, fun i hi => ?_⟩
  have hn : n * 2 = ls.length * 2 := by rw [← flat_length, h.1]
  have hf := flat_get ls i hi
  rw [← hf.1, ← hf.2, Nat.zero_add]
  exact ⟨h.cellAt _ (by omega), h.cellAt _ (by omega)⟩
theorem toLabelS_row (a : Option Addr) (cap : Nat) (ls : List (ByteArray × ByteArray)) (w : World) (hl : ls.length ≤ 1048576) (hrow : rowOf w a ls) :
    Calls Try.prog 80 #[.slice a ls.length cap] w fun e w' => ∃ g, e = .returned (.slice (some ⟨g, 0, none⟩) ls.length ls.length) ∧ rowOf w' (some ⟨g, 0, none⟩) ls ∧ Below w.heap.size w w' :=
  (toLabelS_any a cap ls w hl hrow).mono fun _ _ ⟨g, h1, h2, h3⟩ => ⟨g, h1, row_of_owns h2, h3⟩

theorem open_labs {H : Type} {enc : TypeId × Value → H} {w : World} {base : Nat} {spare : Nat → Bool} {held : Bool} {a : Option Addr} {len cap : Nat} {fuel : Nat} {x : DataW H × List MemPlace}
    (h : DataW.trod enc Try.prog w base spare held fuel 47 [.slice a len cap] = some x) :
    ∃ ls : List (ByteArray × ByteArray), len = ls.length ∧ ls.length ≤ maxLen ∧ okSizes ls ∧ rowOf w a ls := by
  rcases Go.Deep.open_slice_pairs Try.underlying47 Try.underlying210 (by kernel_rfl) rfl rfl (by kernel_rfl) (by kernel_rfl) h with ⟨hcs, _⟩ | ⟨a', len', cap', m, n, V0, V1, D0, D1, P0, P1, hcs, _, hl, hm, hmm, _, hx⟩
  · simp at hcs
    obtain ⟨rfl, rfl, rfl⟩ := hcs
    exact ⟨[], rfl, Nat.zero_le _, fun p hp => by simp at hp, fun h => by simp at h⟩
  · simp at hcs
    obtain ⟨rfl, rfl, rfl⟩ := hcs
    have each : ∀ i, i < len → ∃ q : ByteArray × ByteArray, V0 i = .string q.1 ∧ V1 i = .string q.2 ∧ q.1.size ≤ maxLen ∧ q.2.size ≤ maxLen := fun i hi => by
      have hi' : i < m := by rw [hmm]; split <;> omega
      obtain ⟨s, h1, _, h3⟩ := DataW.trod_string Try.underlying9 (hx i hi').2.2.1
      obtain ⟨t, g1, _, g3⟩ := DataW.trod_string Try.underlying9 (hx i hi').2.2.2
      exact ⟨(s, t), by simpa using h1, by simpa using g1, h3, g3⟩
    obtain ⟨q, hq⟩ := Go.Deep.choose_lt each
    refine ⟨(List.range len).map q, by simp, by simp; omega, ?_, ?_⟩
    · intro p hp
      obtain ⟨i, hi, rfl⟩ := List.mem_map.1 hp
      exact (hq i (List.mem_range.1 hi)).2.2
    · intro h0
      simp only [List.length_map, List.length_range] at h0
      obtain ⟨b, off, spot⟩ := a'
      have hc := (hx 0 (by rw [hmm]; split <;> omega)).1
      have hspot : spot = none := by simpa [Addr.add] using World.cell?_spot hc
      subst hspot
      refine ⟨b, off, rfl, fun i hi => ?_⟩
      simp only [List.length_map, List.length_range] at hi
      have hi' : i < m := by rw [hmm]; split <;> omega
      have e0 := (hx i hi').1
      have e1 := (hx i hi').2.1
      rw [(hq i hi).1] at e0
      rw [(hq i hi).2.1] at e1
      simp only [List.getElem_map, List.getElem_range]
      rw [Go.WideShapes.add_plain] at e0 e1
      exact ⟨e0, by rw [Nat.add_assoc]; exact e1⟩

theorem szOne_ok {k v : Nat} {l : Int} (h : ¬ szOne k v l < 0) : szOne k v l = l - k - v := by
  unfold szOne at *
  split at h
  · omega
  · split at h
    · omega
    · rw [if_neg (by assumption), if_neg (by assumption)]
def lenSum (ls : List (ByteArray × ByteArray)) : Nat := (ls.map fun p => p.1.size + p.2.size).sum
theorem szAll_ok : ∀ (ls : List (ByteArray × ByteArray)) (l : Int), 0 ≤ l → ¬ szAll ls l < 0 → (lenSum ls : Int) ≤ l
  | [], l, h0, _ => by simpa [lenSum] using h0
  | p :: r, l, h0, h => by
    unfold szAll at h
    split at h
    · omega
    · rename_i hn
      have e := szOne_ok hn
      have := szAll_ok r _ (by omega) h
      have e2 : lenSum (p :: r) = p.1.size + p.2.size + lenSum r := by simp [lenSum]
      rw [e2, Int.natCast_add, Int.natCast_add]
      omega
theorem szS_ok {ls : List (ByteArray × ByteArray)} {left : Int} (h : ¬ szS ls left < 0) : (ls.length : Int) + lenSum ls ≤ left := by
  unfold szS at h
  split at h
  · omega
  · have := szAll_ok ls _ (by omega) h
    omega
theorem szS_len' {ls : List (ByteArray × ByteArray)} {l : Int} (h : ¬ szS ls l < 0) (hl : l ≤ 1048576) : ls.length ≤ 1048576 := by have := szS_ok h; omega
theorem szS_len {ls : List (ByteArray × ByteArray)} (h : ¬ szS ls 1048576 < 0) : ls.length ≤ 1048576 := szS_len' h (by omega)
theorem szAll_le : ∀ (ls : List (ByteArray × ByteArray)) (l : Int), szAll ls l ≤ l ∨ szAll ls l = -1
  | [], l => .inl (Int.le_refl _)
  | p :: r, l => by
    unfold szAll
    split
    · exact .inr rfl
    · rcases szAll_le r (szOne p.1.size p.2.size l) with h | h
      · rcases szOne_le p.1.size p.2.size l with h' | h'
        · left; omega
        · left; omega
      · exact .inr h
theorem szS_le (ls : List (ByteArray × ByteArray)) (l : Int) : szS ls l ≤ l ∨ szS ls l = -1 := by
  unfold szS
  split
  · exact .inr rfl
  · rcases szAll_le ls (l - ls.length) with h | h
    · left; omega
    · exact .inr h
end Go.Proofs.Ytdnodaoeflbfkaa
namespace Go.Proofs.Ytdnodaoeflbfkaa
open Go.RowKit Go.BigFrame
set_option linter.unusedVariables false

def getV (ls : List (ByteArray × ByteArray)) (key : ByteArray) : ByteArray := ((ls.find? fun p => decide (p.1 = key)).map (·.2)).getD ByteArray.empty
def getH (ls : List (ByteArray × ByteArray)) (key : ByteArray) : Bool := (ls.find? fun p => decide (p.1 = key)).isSome
def noneTo (ls : List (ByteArray × ByteArray)) (key : ByteArray) (k : Nat) : Prop := ∀ j, j < k → keyAt ls j ≠ key
theorem find_hit : ∀ (ls : List (ByteArray × ByteArray)) (key : ByteArray) (k : Nat), k < ls.length → noneTo ls key k → keyAt ls k = key → ls.find? (fun p => decide (p.1 = key)) = some (keyAt ls k, valAt ls k)
  | [], _, _, h, _, _ => by simp at h
  | p :: r, key, 0, _, _, h2 => by
    obtain ⟨pk, pv⟩ := p
    have : pk = key := h2
    simp [this, keyAt, valAt]
  | p :: r, key, k + 1, h, h1, h2 => by
    have h0 : p.1 ≠ key := h1 0 (by omega)
    rw [List.find?_cons, decide_eq_false h0]
    exact find_hit r key k (by simpa using h) (fun j hj => h1 (j + 1) (by omega)) h2
theorem get_hit {ls : List (ByteArray × ByteArray)} {key : ByteArray} {k : Nat} (h : k < ls.length) (h1 : noneTo ls key k) (h2 : keyAt ls k = key) : getV ls key = valAt ls k ∧ getH ls key = true := by
  unfold getV getH
  rw [find_hit ls key k h h1 h2]
  exact ⟨rfl, rfl⟩
theorem get_none {ls : List (ByteArray × ByteArray)} {key : ByteArray} (h1 : noneTo ls key ls.length) : getV ls key = ByteArray.empty ∧ getH ls key = false := by
  have : ls.find? (fun p => decide (p.1 = key)) = none := by
    rw [List.find?_eq_none]
    intro p hp
    obtain ⟨i, hi, rfl⟩ := List.getElem_of_mem hp
    have := h1 i hi
    unfold keyAt at this
    rw [List.getElem?_eq_getElem hi] at this
    simpa using this
  unfold getV getH
  rw [this]
  exact ⟨rfl, rfl⟩
theorem noneTo_succ {ls : List (ByteArray × ByteArray)} {key : ByteArray} {k : Nat} (h : noneTo ls key k) (hk : keyAt ls k ≠ key) : noneTo ls key (k + 1) := by
  intro j hj
  by_cases e : j = k
  · rw [e]; exact hk
  · exact h j (by omega)
theorem ret_sb {s t : ByteArray} {a b : Bool} (h : s = t ∧ a = b) : Ending.returned (.tuple #[.string s, .bool a]) = .returned (.tuple #[.string t, .bool b]) := by rw [h.1, h.2]

theorem slabelGet_any (a : Option Addr) (cap : Nat) (ls : List (ByteArray × ByteArray)) (key : ByteArray) (w : World) (hl : ls.length ≤ maxLen) (hrow : rowOf w a ls) :
    Calls Try.prog 152 #[.slice a ls.length cap, .string key] w fun e w' => e = .returned (.tuple #[.string (getV ls key), .bool (getH ls key)]) ∧ Below w.heap.size w w' := by
  unfold maxLen at hl
  have Hr : Hid (rowOf w a ls) := hrow
  clear hrow
  go_enter Try.func152, Try.ntmps152
  go_wp2
  go_loopw [6] (fun i wr => ∃ (k : Nat), k ≤ ls.length ∧ i = .int .i64 k ∧ Hid (noneTo ls key k) ∧ Below w.heap.size w wr) (fun i _ => ls.length - (intOf i).toNat)
  case atStart => exact ⟨0, Nat.zero_le _, rfl, fun j hj => by omega, Below.refl _ _⟩
  case round =>
    obtain ⟨k, hk, rfl, Hx, hbw⟩ := hrel
    by_cases hlt : k < ls.length
    · obtain ⟨b, off, rfl, hat⟩ := Hr.out (by omega)
      have hc := cellsOf_of hat
      have hbb : b < w.heap.size := World.block_lt_of_cell? _ _ (hat k hlt).1
      have c0 := (hbw.cell (p := ⟨b, off + k * 2, none⟩) hbb).trans (hc k hlt).1
      have c2 := (hbw.cell (p := ⟨b, off + k * 2 + 1, none⟩) hbb).trans (hc k hlt).2
      have he := beq_str (keyAt ls k) key
      clear hat hc Hr
      by_cases hq : keyAt ls k = key
      · rw [decide_eq_true hq] at he
        have Hn := hide (get_hit hlt Hx.out hq)
        clear Hx hq
        generalize keyAt ls k = K at *
        generalize valAt ls k = V at *
        go_wp2
        go_ret2
        exact ⟨ret_sb ⟨Hn.out.1.symm, Hn.out.2.symm⟩, hbw⟩
      · rw [decide_eq_false hq] at he
        have Hn := hide (noneTo_succ Hx.out hq)
        clear Hx hq
        generalize keyAt ls k = K at *
        generalize valAt ls k = V at *
        go_wp2
        go_roundw
        case rel => exact ⟨k + 1, by omega, by go_num, Hn, hbw⟩
        case measure => simp [intOf]; omega
    · have e : k = ls.length := by omega
      subst e
      have Hn := hide (get_none Hx.out)
      clear Hx Hr
      go_wp2
      go_ret2
      exact ⟨ret_sb ⟨Hn.out.1.symm, Hn.out.2.symm⟩, hbw⟩

theorem ilabelGet_any (a : Option Addr) (cap : Nat) (ls : List (ByteArray × ByteArray)) (key : ByteArray) (w : World) (hl : ls.length ≤ maxLen) (hrow : rowOf w a ls) :
    Calls Try.prog 112 #[.slice a ls.length cap, .string key] w fun e w' => e = .returned (.tuple #[.string (getV ls key), .bool (getH ls key)]) ∧ Below w.heap.size w w' := by
  unfold maxLen at hl
  have Hr : Hid (rowOf w a ls) := hrow
  clear hrow
  go_enter Try.func112, Try.ntmps112
  go_wp2
  go_loopw [10] (fun i wr => ∃ (k : Nat), k ≤ ls.length ∧ i = .int .i64 k ∧ Hid (noneTo ls key k) ∧ Below w.heap.size w wr) (fun i _ => ls.length - (intOf i).toNat)
  case atStart => exact ⟨0, Nat.zero_le _, rfl, fun j hj => by omega, Below.refl _ _⟩
  case round =>
    obtain ⟨k, hk, rfl, Hx, hbw⟩ := hrel
    by_cases hlt : k < ls.length
    · obtain ⟨b, off, rfl, hat⟩ := Hr.out (by omega)
      have hc := cellsOf_of hat
      have hbb : b < w.heap.size := World.block_lt_of_cell? _ _ (hat k hlt).1
      have c0 := (hbw.cell (p := ⟨b, off + k * 2, none⟩) hbb).trans (hc k hlt).1
      have c2 := (hbw.cell (p := ⟨b, off + k * 2 + 1, none⟩) hbb).trans (hc k hlt).2
      have he := beq_str (keyAt ls k) key
      clear hat hc Hr
      by_cases hq : keyAt ls k = key
      · rw [decide_eq_true hq] at he
        have Hn := hide (get_hit hlt Hx.out hq)
        clear Hx hq
        generalize keyAt ls k = K at *
        generalize valAt ls k = V at *
        go_wp2
        go_ret2
        exact ⟨ret_sb ⟨Hn.out.1.symm, Hn.out.2.symm⟩, hbw.alloc hbw.size _⟩
      · rw [decide_eq_false hq] at he
        have Hn := hide (noneTo_succ Hx.out hq)
        clear Hx hq
        generalize keyAt ls k = K at *
        generalize valAt ls k = V at *
        go_wp2
        go_roundw
        case rel => exact ⟨k + 1, by omega, by go_num, Hn, hbw.alloc hbw.size _⟩
        case measure => simp [intOf]; omega
    · have e : k = ls.length := by omega
      subst e
      have Hn := hide (get_none Hx.out)
      clear Hx Hr
      go_wp2
      go_ret2
      exact ⟨ret_sb ⟨Hn.out.1.symm, Hn.out.2.symm⟩, hbw⟩
end Go.Proofs.Ytdnodaoeflbfkaa
namespace Go.Proofs.Ytdnodaoeflbfkaa
open Go.RowKit Go.BigFrame
set_option linter.unusedVariables false

def dropL (ls : List (ByteArray × ByteArray)) (key : ByteArray) : List (ByteArray × ByteArray) := ls.filter fun p => decide (p.1 ≠ key)
theorem take_succ_at (ls : List (ByteArray × ByteArray)) (k : Nat) (h : k < ls.length) : ls.take (k + 1) = ls.take k ++ [(keyAt ls k, valAt ls k)] := by
  rw [List.take_succ_eq_append_getElem h]
  unfold keyAt valAt
  rw [List.getElem?_eq_getElem h]
  rfl
theorem dropL_keep {ls : List (ByteArray × ByteArray)} {key : ByteArray} {k : Nat} (h : k < ls.length) (hq : keyAt ls k ≠ key) : dropL (ls.take (k + 1)) key = dropL (ls.take k) key ++ [(keyAt ls k, valAt ls k)] := by
  rw [take_succ_at ls k h]
  unfold dropL
  rw [List.filter_append]
  simp [hq]
theorem dropL_skip {ls : List (ByteArray × ByteArray)} {key : ByteArray} {k : Nat} (h : k < ls.length) (hq : keyAt ls k = key) : dropL (ls.take (k + 1)) key = dropL (ls.take k) key := by
  rw [take_succ_at ls k h]
  unfold dropL
  rw [List.filter_append]
  simp [hq]
theorem dropL_len (ls : List (ByteArray × ByteArray)) (key : ByteArray) (k : Nat) : (dropL (ls.take k) key).length ≤ k := by
  unfold dropL
  exact Nat.le_trans (List.length_filter_le _ _) (List.length_take_le _ _)
theorem flat_append (a b : List (ByteArray × ByteArray)) : flat (a ++ b) = flat a ++ flat b := by unfold flat; rw [List.flatMap_append]
theorem flat_snoc (ls : List (ByteArray × ByteArray)) (x : ByteArray × ByteArray) : flat (ls ++ [x]) = flat ls ++ [.string x.1, .string x.2] := by rw [flat_append]; rfl

theorem cell_two_new (w : World) (a b : Value) (t : TypeId) : ∀ j u, [a, b][j]? = some u → (w.alloc (.cells #[a, b] t)).cell? ((⟨w.heap.size, 0, none⟩ : Addr).add j) = some u := by
  intro j u hj
  match j, hj with
  | 0, hj => simp at hj; subst hj; simp [Addr.add]
  | 1, hj => simp at hj; subst hj; simp [Addr.add]
  | j + 2, hj => simp at hj
theorem cell_two_at (w : World) (n : Nat) (h : w.heap.size = n) (a b : Value) (t : TypeId) : ∀ j u, [a, b][j]? = some u → (w.alloc (.cells #[a, b] t)).cell? ((⟨n, 0, none⟩ : Addr).add j) = some u := by
  subst h; exact cell_two_new w a b t
end Go.Proofs.Ytdnodaoeflbfkaa
namespace Go.Proofs.Ytdnodaoeflbfkaa
open Go.RowKit Go.BigFrame
set_option linter.unusedVariables false
/-- all but one block is as it was, below a mark -/
structure ExB (B g : Nat) (w w' : World) : Prop where
  os : w'.os = w.os
  tape : w'.tape = w.tape
  output : w'.output = w.output
  size : w.heap.size ≤ w'.heap.size
  block : ∀ k, k < B → k ≠ g → w'.heap[k]? = w.heap[k]?
theorem ExB.refl (B g : Nat) (w : World) : ExB B g w w := ⟨rfl, rfl, rfl, Nat.le_refl _, fun _ _ _ => rfl⟩
theorem ExB.of_below {B g : Nat} {w w' : World} (h : Below B w w') : ExB B g w w' := ⟨h.os, h.tape, h.output, h.size, fun k hk _ => h.block k hk⟩
theorem ExB.trans {B g : Nat} {a b c : World} (h : ExB B g a b) (k : ExB B g b c) : ExB B g a c :=
  ⟨k.os.trans h.os, k.tape.trans h.tape, k.output.trans h.output, Nat.le_trans h.size k.size, fun i hi hg => (k.block i hi hg).trans (h.block i hi hg)⟩
theorem ExB.mono {B B' g : Nat} {w w' : World} (h : ExB B g w w') (hB : B' ≤ B) : ExB B' g w w' := ⟨h.os, h.tape, h.output, h.size, fun k hk => h.block k (Nat.lt_of_lt_of_le hk hB)⟩
theorem ExB.setCell {B g : Nat} {a w : World} (h : ExB B g a w) (o : Nat) (u : Value) : ExB B g a (w.setCell ⟨g, o, none⟩ u) :=
  h.trans (by
    have hb := (Below.refl (w.heap.size) w)
    refine ⟨?_, ?_, ?_, ?_, fun k hk hg => Below.heap_setCell _ _ _ _ hg⟩
    all_goals first | rfl | skip
    simp)
/-- what a block below the mark, another one, says is as it was -/
theorem ExB.below {B g : Nat} {w w' : World} (h : ExB B g w w') (hg : B ≤ g) : Below B w w' := ⟨h.os, h.tape, h.output, h.size, fun k hk => h.block k hk (by omega)⟩
theorem labsAt.ex {B g : Nat} {w w' : World} {b off : Nat} {ls : List (ByteArray × ByteArray)} (h : labsAt w b off ls) (hb : ExB B g w w') (h1 : b < B) (h2 : b ≠ g) : labsAt w' b off ls := by
  intro i hi
  have e := hb.block b h1 h2
  exact ⟨(World.cell?_of_block (w := w) (a := ⟨b, off + i * 2, none⟩) e).trans (h i hi).1, (World.cell?_of_block (w := w) (a := ⟨b, off + i * 2 + 1, none⟩) e).trans (h i hi).2⟩
end Go.Proofs.Ytdnodaoeflbfkaa
namespace Go.Proofs.Ytdnodaoeflbfkaa
open Go.RowKit Go.BigFrame
set_option linter.unusedVariables false
/-! what a block says, carried over a call that writes another one -/
theorem owns_ex {w w' : World} {base g n cap B d : Nat} {e : TypeId} {size : Nat} {xs : List Value} (h : w.ownsRow base e size (.slice (some ⟨g, 0, none⟩) n cap) n xs) (hb : ExB B d w w') (hB : w.heap.size ≤ B) (hg : g ≠ d) :
    w'.ownsRow base e size (.slice (some ⟨g, 0, none⟩) n cap) n xs := by
  obtain ⟨h1, h2⟩ := h
  rcases h2 with ⟨h, _⟩ | ⟨g', cap', cur, h, hbs, hh, r⟩
  · cases h
  · cases h
    refine ⟨h1, .inr ⟨g, cap, cur, rfl, hbs, ?_, r⟩⟩
    rw [hb.block g (by have := (Array.getElem?_eq_some_iff.1 hh).1; omega) hg]
    exact hh
theorem owns_lt {w : World} {base g n cap : Nat} {e : TypeId} {size : Nat} {xs : List Value} (h : w.ownsRow base e size (.slice (some ⟨g, 0, none⟩) n cap) n xs) : base ≤ g ∧ g < w.heap.size := by
  rcases h.2 with ⟨h, _⟩ | ⟨g', cap', cur, h, hbs, hh, r⟩
  · cases h
  · cases h; exact ⟨hbs, (Array.getElem?_eq_some_iff.1 hh).1⟩
/-- an argument's row lies below a mark -/
theorem rowOf.ex {w w' : World} {a : Option Addr} {ls : List (ByteArray × ByteArray)} {B d : Nat} (h : rowOf w a ls) (hb : ExB B d w w') (hB : w.heap.size ≤ B) (hlow : ∀ b off, 0 < ls.length → a = some ⟨b, off, none⟩ → b ≠ d) : rowOf w' a ls := by
  intro hl
  obtain ⟨b, off, e, h⟩ := h hl
  exact ⟨b, off, e, h.ex hb (Nat.lt_of_lt_of_le (World.block_lt_of_cell? _ _ (h 0 hl).1) hB) (hlow b off hl e)⟩
theorem rowOf.low {w : World} {a : Option Addr} {ls : List (ByteArray × ByteArray)} (h : rowOf w a ls) : ∀ b off, 0 < ls.length → a = some ⟨b, off, none⟩ → b < w.heap.size := by
  intro b off hl e
  obtain ⟨b', off', e', h⟩ := h hl
  rw [e] at e'
  cases e'
  exact World.block_lt_of_cell? _ _ (h 0 hl).1
end Go.Proofs.Ytdnodaoeflbfkaa
/- spec.LabelSet: what it answers, and the walk. -/
namespace Go.Proofs.Ytdnodaoeflbfkaa
open Go.RowKit Go.BigFrame
set_option linter.unusedVariables false

/-- one label of the list is passed: the new one goes ahead of the first that is not below it; one of its key goes -/
def setStep (key val : ByteArray) (o : List (ByteArray × ByteArray) × Bool) (x : ByteArray × ByteArray) : List (ByteArray × ByteArray) × Bool :=
  let q := if !o.2 && !(Op.bytesLess x.1.toList key.toList) then (o.1 ++ [(key, val)], true) else o
  if x.1 = key then q else (q.1 ++ [x], q.2)
def setTo (key val : ByteArray) (ls : List (ByteArray × ByteArray)) : List (ByteArray × ByteArray) × Bool := ls.foldl (setStep key val) ([], false)
def setAll (key val : ByteArray) (ls : List (ByteArray × ByteArray)) : List (ByteArray × ByteArray) := if (setTo key val ls).2 then (setTo key val ls).1 else (setTo key val ls).1 ++ [(key, val)]
/-- when it goes -/
def setOk (ls : List (ByteArray × ByteArray)) (key val : ByteArray) : Bool := labelsB ls && nameB key && nameB val && (getH ls key || !(ls.length == 8))
def setR (ls : List (ByteArray × ByteArray)) (key val : ByteArray) : List (ByteArray × ByteArray) × Bool := if setOk ls key val then (setAll key val ls, true) else (ls, false)
theorem setTo_succ {ls : List (ByteArray × ByteArray)} {k : Nat} (key val : ByteArray) (h : k < ls.length) : setTo key val (ls.take (k + 1)) = setStep key val (setTo key val (ls.take k)) (keyAt ls k, valAt ls k) := by
  unfold setTo
  rw [take_succ_at ls k h, List.foldl_append]; rfl
theorem setTo_len (key val : ByteArray) : ∀ (ls : List (ByteArray × ByteArray)) (o : List (ByteArray × ByteArray) × Bool), (ls.foldl (setStep key val) o).1.length ≤ o.1.length + 2 * ls.length
  | [], o => by simp
  | x :: r, o => by
    have ih := setTo_len key val r (setStep key val o x)
    have h : (setStep key val o x).1.length ≤ o.1.length + 2 := by
      unfold setStep
      simp only
      split <;> split <;> simp
    simp only [List.foldl_cons, List.length_cons]
    omega
theorem rows_add {w : World} {b off : Nat} {ls : List (ByteArray × ByteArray)} (h : labsAt w b off ls) : ∀ j u, (flat ls)[j]? = some u → w.cell? ((⟨b, off, none⟩ : Addr).add j) = some u := by
  intro j u hj
  have hlt : j < ls.length * 2 := by rw [← flat_length]; exact (List.getElem?_eq_some_iff.1 hj).1
  have hi : j / 2 < ls.length := by omega
  have hf := flat_get ls (j / 2) hi
  rw [Go.WideShapes.add_plain]
  by_cases e : j % 2 = 0
  · have ej : j = j / 2 * 2 := by omega
    rw [ej] at hj ⊢
    rw [hf.1] at hj
    rw [← hj]
    have e2 : j / 2 * 2 / 2 = j / 2 := by omega
    exact (h (j / 2) hi).1
  · have ej : j = j / 2 * 2 + 1 := by omega
    rw [ej] at hj ⊢
    rw [hf.2] at hj
    rw [← hj]
    exact (h (j / 2) hi).2
theorem flat_cell (ls : List (ByteArray × ByteArray)) : ∀ u ∈ flat ls, u.oneCell' = true := by
  intro u hu
  unfold flat at hu
  obtain ⟨p, _, hp⟩ := List.mem_flatMap.1 hu
  simp at hp
  rcases hp with rfl | rfl <;> rfl

set_option maxHeartbeats 800000 in
theorem copyL_any (b off cap : Nat) (ls : List (ByteArray × ByteArray)) (w : World) (hl : ls.length ≤ 1048576) (hrow : labsAt w b off ls) :
    Calls Try.prog 245 #[.slice (some ⟨b, off, none⟩) ls.length cap] w fun e w' => ∃ g cap', e = .returned (.slice (some ⟨g, 0, none⟩) ls.length cap') ∧
      w'.ownsRow w.heap.size 212 2 (.slice (some ⟨g, 0, none⟩) ls.length cap') ls.length (flat ls) ∧ Below w.heap.size w w' := by
  obtain ⟨i0, hi, hz0, hz1, hz2⟩ := info_parts Try.info44
  have hnews := rows_add (w := w.alloc (.cells #[] 212)) (hrow.below ((Below.refl _ _).alloc (Nat.le_refl _) _))
  have Hn := hide hnews
  have hfl := flat_length ls
  have Hfl := hide hfl
  have hown0 := World.ownsRow_lit (e := 212) (size := 2) w #[] 0 (Nat.le_refl w.heap.size) (by decide) rfl
  have Ho := hide hown0
  clear hnews hfl hown0 hrow
  go_enter Try.func245, Try.ntmps245
  go_wp2_with (at_builtin; refine wpList_append_own _ rfl _ _ 52 rfl w.heap.size 212 i0 _ 2 32 Try.underlying52 hi hz0 hz1 hz2 rfl (by decide) _ _ _ rfl Ho.out ⟨b, off, none⟩ ls.length cap (flat ls) rfl Hfl.out Hn.out (flat_cell ls) (by unfold maxLen; omega) (by omega) (by simp) ?_; intro v' w3 hown' hgrow3 hnil3)
  have hv : ∃ g cap', v' = .slice (some ⟨g, 0, none⟩) ls.length cap' := by
    rcases hown'.2 with ⟨h, _⟩ | ⟨g, cp, cur, h, _⟩
    · have := hnil3.1 h; cases this.1
    · exact ⟨g, cp, by rw [h, Nat.zero_add]⟩
  obtain ⟨g, cp, rfl⟩ := hv
  have Hown := hide hown'
  have Hg := hide hgrow3
  clear hown' hgrow3 hnil3
  go_wp2
  go_ret
  exact ⟨g, cp, rfl, by have := Hown.out; rw [Nat.zero_add] at this; exact this, Below.grown ((Below.refl _ _).alloc (Nat.le_refl _) _) Hg.out (by simp) (fun j hj => by cases hj; exact Nat.le_refl _)⟩

set_option maxRecDepth 1000000 in
set_option maxHeartbeats 1600000 in
/-- the rows behind the tests: the loop over what is there -/
theorem slabelSet_yes (b off cap : Nat) (ls : List (ByteArray × ByteArray)) (key val : ByteArray) (w : World) (hl : ls.length ≤ 1048576) (hz : okSizes ls) (hkz : key.size ≤ maxLen) (hvz : val.size ≤ maxLen) (hrow : labsAt w b off ls) (hok : setOk ls key val = true) :
    Calls Try.prog 223 #[.slice (some ⟨b, off, none⟩) ls.length cap, .string key, .string val] w fun e w' => ∃ g cap', e = .returned (.tuple #[.slice (some ⟨g, 0, none⟩) (setAll key val ls).length cap', .bool true]) ∧
      w'.ownsRow w.heap.size 212 2 (.slice (some ⟨g, 0, none⟩) (setAll key val ls).length cap') (setAll key val ls).length (flat (setAll key val ls)) ∧ Below w.heap.size w w' := by
  obtain ⟨i0, hi, hz0, hz1, hz2⟩ := info_parts Try.info44
  have hok4 : labelsB ls = true ∧ nameB key = true ∧ nameB val = true ∧ (getH ls key = true ∨ getH ls key = false ∧ ((ls.length : Int) == 8) = false) := by
    unfold setOk at hok
    simp only [Bool.and_eq_true, Bool.or_eq_true, Bool.not_eq_true'] at hok
    obtain ⟨⟨⟨h1, h2⟩, h3⟩, h4⟩ := hok
    refine ⟨h1, h2, h3, ?_⟩
    cases hg : getH ls key with
    | true => exact .inl rfl
    | false =>
      right
      rcases h4 with h4 | h4
      · rw [hg] at h4; cases h4
      · exact ⟨rfl, by rw [beq_eq_false_iff_ne] at h4 ⊢; omega⟩
  have hlm : ls.length ≤ maxLen := by unfold maxLen; omega
  have hlab := fun a cap wx => slabelsOk_any a cap ls wx hlm hz
  have hkey := fun wx => sname_any key wx hkz
  have hval := fun wx => sname_any val wx hvz
  have hget := fun a cap wx => slabelGet_any a cap ls key wx hlm
  rw [hok4.1] at hlab
  rw [hok4.2.1] at hkey
  rw [hok4.2.2.1] at hval
  have Hrow : Hid (rowOf w (some ⟨b, off, none⟩) ls) := fun _ => ⟨b, off, rfl, hrow⟩
  have Hlab := hide hlab
  have Hkey := hide hkey
  have Hval := hide hval
  have Hget := hide hget
  have Hcase := hide hok4.2.2.2
  have Hall : Hid (setAll key val ls = if (setTo key val ls).2 then (setTo key val ls).1 else (setTo key val ls).1 ++ [(key, val)]) := rfl
  have Hat := hide hrow
  clear hlab hkey hval hget hok4 hrow hok
  generalize getH ls key = hg at *
  generalize getV ls key = gv at *
  generalize setAll key val ls = R at *
  rcases Hcase.out with hc | ⟨hc, hc8⟩
  all_goals
    subst hc
    go_enter Try.func223, Try.ntmps223
    go_wp2_with fail
    refine (Hget.out _ _ _ Hrow.out).mono ?_
    rintro e w1 ⟨rfl, hb1⟩
    have Hb1 := hide hb1
    have Hrow1 := hide (Hrow.out.below hb1)
    clear hb1
    go_wp2_with fail
    refine (Hlab.out _ _ _ Hrow1.out).mono ?_
    rintro e w2 ⟨rfl, hn2⟩
    have Hb2 : Hid (Below w.heap.size w w2) := by obtain ⟨n, rfl⟩ := hn2; exact below_drewN Hb1.out n
    clear hn2
    go_wp2_with fail
    refine (Hkey.out _).mono ?_
    rintro e w3 ⟨rfl, rfl⟩
    go_wp2_with fail
    refine (Hval.out _).mono ?_
    rintro e w4 ⟨rfl, rfl⟩
    clear Hget Hlab Hkey Hval Hrow Hrow1 Hb1 Hcase
    have hws := Hb2.out.size
    go_wp2
    go_loopw [10, 11, 12] (fun v pv i wr => ∃ (g cap k : Nat) (D : List (ByteArray × ByteArray)) (p : Bool), k ≤ ls.length ∧ i = .int .i64 k ∧ pv = .bool p ∧ v = .slice (some ⟨g, 0, none⟩) D.length cap ∧ D.length ≤ 2 * k ∧
        Hid (wr.ownsRow w.heap.size 212 2 (.slice (some ⟨g, 0, none⟩) D.length cap) D.length (flat D)) ∧ Hid (setTo key val (ls.take k) = (D, p)) ∧ Hid (Below w.heap.size w wr)) (fun _ _ i _ => ls.length - (intOf i).toNat)
    case atStart => exact ⟨_, _, 0, [], false, Nat.zero_le _, rfl, rfl, rfl, Nat.zero_le _, World.ownsRow_lit _ #[] 0 hws (by decide) rfl, rfl, Hb2.out.alloc hws _⟩
    case round =>
      obtain ⟨g, cap, k, D, p, hk, rfl, rfl, rfl, hD, How, Hst, Hbw⟩ := hrel
      clear Hb2 hws
      have hws := Hbw.out.size
      by_cases hlt : k < ls.length
      · have hbb : b < w.heap.size := World.block_lt_of_cell? _ _ (Hat.out k hlt).1
        have hcc := cellsOf_of Hat.out k hlt
        have Hc : Hid (∀ wx, Below w.heap.size w wx → wx.cell? ⟨b, off + k * 2, none⟩ = some (.string (keyAt ls k)) ∧ wx.cell? ⟨b, off + k * 2 + 1, none⟩ = some (.string (valAt ls k))) :=
          fun wx hx => ⟨(hx.cell (p := ⟨b, off + k * 2, none⟩) hbb).trans hcc.1, (hx.cell (p := ⟨b, off + k * 2 + 1, none⟩) hbb).trans hcc.2⟩
        have c0 := (Hc.out _ Hbw.out).1
        have c1 := (Hc.out _ Hbw.out).2
        have Hss := hide (setTo_succ key val hlt)
        have hbe := beq_str (keyAt ls k) key
        clear hcc
        generalize keyAt ls k = K at *
        generalize valAt ls k = V at *
        by_cases heq : K = key
        · rw [decide_eq_true heq] at hbe
          rcases Bool.eq_false_or_eq_true (Op.bytesLess K.toList key.toList) with hless | hless
          · cases p with
            | true =>
              have Hn : Hid (setTo key val (ls.take (k + 1)) = (D, true)) := by
                show _ = _
                rw [Hss.out, Hst.out]
                unfold setStep; simp only; rw [if_pos heq]; simp [hless]
              have hcap : ls.length ≤ 1048576 := hl
              clear heq
              go_wp2
              go_roundw
              case rel => exact ⟨g, cap, k + 1, D, true, by omega, by go_num, rfl, rfl, by omega, How, Hn, Hbw⟩
              case measure => simp [intOf]; omega
            | false =>
              have Hn : Hid (setTo key val (ls.take (k + 1)) = (D, false)) := by
                show _ = _
                rw [Hss.out, Hst.out]
                unfold setStep; simp only; rw [if_pos heq]; simp [hless]
              have hcap : ls.length ≤ 1048576 := hl
              clear heq
              go_wp2
              go_roundw
              case rel => exact ⟨g, cap, k + 1, D, false, by omega, by go_num, rfl, rfl, by omega, How, Hn, Hbw⟩
              case measure => simp [intOf]; omega
          · cases p with
            | true =>
              have Hn : Hid (setTo key val (ls.take (k + 1)) = (D, true)) := by
                show _ = _
                rw [Hss.out, Hst.out]
                unfold setStep; simp only; rw [if_pos heq]; simp [hless]
              have hcap : ls.length ≤ 1048576 := hl
              clear heq
              go_wp2
              go_roundw
              case rel => exact ⟨g, cap, k + 1, D, true, by omega, by go_num, rfl, rfl, by omega, How, Hn, Hbw⟩
              case measure => simp [intOf]; omega
            | false =>
              have Hn : Hid (setTo key val (ls.take (k + 1)) = (D ++ [(key, val)], true)) := by
                show _ = _
                rw [Hss.out, Hst.out]
                unfold setStep; simp only; rw [if_pos heq]; simp [hless]
              have hcap : ls.length ≤ 1048576 := hl
              clear heq
              go_wp2_with (first | (at_builtin; refine wpList_append_lies _ rfl (.tmp 61) (.tmp 65) 52 rfl w.heap.size 212 i0 _ 2 32 Try.underlying52 hi hz0 hz1 hz2 rfl (by decide) _ _ _ rfl (How.out.alloc _) ⟨wr.heap.size, 0, none⟩ 1 1 [.string key, .string val] rfl rfl (cell_two_at _ _ rfl _ _ _) (fun x hx => by simp at hx; rcases hx with rfl | rfl <;> rfl) (by decide) (by unfold maxLen; omega) (by omega) (by simp; omega) _ rfl ?_; intro g3 cap3 w3 hown3 hgrow3 hat3 hlt3; have Hb3 : Hid (Below w.heap.size w w3) := Below.grown (Hbw.out.alloc Hbw.out.size _) hgrow3 (by simp; omega) (fun j hj => (How.out.lt _ hj).1); have c3 := (Hc.out _ Hb3.out).1; have d3 := (Hc.out _ Hb3.out).2; have hsz3 := Hb3.out.size))
              go_roundw
              case rel => exact ⟨g3, cap3, k + 1, D ++ [(key, val)], true, by omega, by go_num, rfl, (by simp), (by simp; omega), (by show World.ownsRow _ _ _ _ _ _ _; rw [flat_snoc, List.length_append]; exact hown3), Hn, Hb3⟩
              case measure => simp [intOf]; omega
        · rw [decide_eq_false heq] at hbe
          rcases Bool.eq_false_or_eq_true (Op.bytesLess K.toList key.toList) with hless | hless
          · cases p with
            | true =>
              have Hn : Hid (setTo key val (ls.take (k + 1)) = (D ++ [(K, V)], true)) := by
                show _ = _
                rw [Hss.out, Hst.out]
                unfold setStep; simp only; rw [if_neg heq]; simp [hless]
              have hcap : ls.length ≤ 1048576 := hl
              clear heq
              go_wp2_with (first | (at_builtin; refine wpList_append_lies _ rfl (.tmp 74) (.tmp 79) 52 rfl w.heap.size 212 i0 _ 2 32 Try.underlying52 hi hz0 hz1 hz2 rfl (by decide) _ _ _ rfl (How.out.alloc _) ⟨wr.heap.size, 0, none⟩ 1 1 [.string K, .string V] rfl rfl (cell_two_at _ _ rfl _ _ _) (fun x hx => by simp at hx; rcases hx with rfl | rfl <;> rfl) (by decide) (by unfold maxLen; omega) (by omega) (by simp; omega) _ rfl ?_; intro g4 cap4 w4 hown4 hgrow4 hat4 hlt4; have Hb4 : Hid (Below w.heap.size w w4) := Below.grown (Hbw.out.alloc Hbw.out.size _) hgrow4 (by simp; omega) (fun j hj => (How.out.lt _ hj).1); have c4 := (Hc.out _ Hb4.out).1; have d4 := (Hc.out _ Hb4.out).2; have hsz4 := Hb4.out.size))
              go_roundw
              case rel => exact ⟨g4, cap4, k + 1, D ++ [(K, V)], true, by omega, by go_num, rfl, (by simp), (by simp; omega), (by show World.ownsRow _ _ _ _ _ _ _; rw [flat_snoc, List.length_append]; exact hown4), Hn, Hb4⟩
              case measure => simp [intOf]; omega
            | false =>
              have Hn : Hid (setTo key val (ls.take (k + 1)) = (D ++ [(K, V)], false)) := by
                show _ = _
                rw [Hss.out, Hst.out]
                unfold setStep; simp only; rw [if_neg heq]; simp [hless]
              have hcap : ls.length ≤ 1048576 := hl
              clear heq
              go_wp2_with (first | (at_builtin; refine wpList_append_lies _ rfl (.tmp 74) (.tmp 79) 52 rfl w.heap.size 212 i0 _ 2 32 Try.underlying52 hi hz0 hz1 hz2 rfl (by decide) _ _ _ rfl (How.out.alloc _) ⟨wr.heap.size, 0, none⟩ 1 1 [.string K, .string V] rfl rfl (cell_two_at _ _ rfl _ _ _) (fun x hx => by simp at hx; rcases hx with rfl | rfl <;> rfl) (by decide) (by unfold maxLen; omega) (by omega) (by simp; omega) _ rfl ?_; intro g4 cap4 w4 hown4 hgrow4 hat4 hlt4; have Hb4 : Hid (Below w.heap.size w w4) := Below.grown (Hbw.out.alloc Hbw.out.size _) hgrow4 (by simp; omega) (fun j hj => (How.out.lt _ hj).1); have c4 := (Hc.out _ Hb4.out).1; have d4 := (Hc.out _ Hb4.out).2; have hsz4 := Hb4.out.size))
              go_roundw
              case rel => exact ⟨g4, cap4, k + 1, D ++ [(K, V)], false, by omega, by go_num, rfl, (by simp), (by simp; omega), (by show World.ownsRow _ _ _ _ _ _ _; rw [flat_snoc, List.length_append]; exact hown4), Hn, Hb4⟩
              case measure => simp [intOf]; omega
          · cases p with
            | true =>
              have Hn : Hid (setTo key val (ls.take (k + 1)) = (D ++ [(K, V)], true)) := by
                show _ = _
                rw [Hss.out, Hst.out]
                unfold setStep; simp only; rw [if_neg heq]; simp [hless]
              have hcap : ls.length ≤ 1048576 := hl
              clear heq
              go_wp2_with (first | (at_builtin; refine wpList_append_lies _ rfl (.tmp 74) (.tmp 79) 52 rfl w.heap.size 212 i0 _ 2 32 Try.underlying52 hi hz0 hz1 hz2 rfl (by decide) _ _ _ rfl (How.out.alloc _) ⟨wr.heap.size, 0, none⟩ 1 1 [.string K, .string V] rfl rfl (cell_two_at _ _ rfl _ _ _) (fun x hx => by simp at hx; rcases hx with rfl | rfl <;> rfl) (by decide) (by unfold maxLen; omega) (by omega) (by simp; omega) _ rfl ?_; intro g4 cap4 w4 hown4 hgrow4 hat4 hlt4; have Hb4 : Hid (Below w.heap.size w w4) := Below.grown (Hbw.out.alloc Hbw.out.size _) hgrow4 (by simp; omega) (fun j hj => (How.out.lt _ hj).1); have c4 := (Hc.out _ Hb4.out).1; have d4 := (Hc.out _ Hb4.out).2; have hsz4 := Hb4.out.size))
              go_roundw
              case rel => exact ⟨g4, cap4, k + 1, D ++ [(K, V)], true, by omega, by go_num, rfl, (by simp), (by simp; omega), (by show World.ownsRow _ _ _ _ _ _ _; rw [flat_snoc, List.length_append]; exact hown4), Hn, Hb4⟩
              case measure => simp [intOf]; omega
            | false =>
              have Hn : Hid (setTo key val (ls.take (k + 1)) = ((D ++ [(key, val)]) ++ [(K, V)], true)) := by
                show _ = _
                rw [Hss.out, Hst.out]
                unfold setStep; simp only; rw [if_neg heq]; simp [hless]
              have hcap : ls.length ≤ 1048576 := hl
              clear heq
              go_wp2_with (first | (at_builtin; refine wpList_append_lies _ rfl (.tmp 61) (.tmp 65) 52 rfl w.heap.size 212 i0 _ 2 32 Try.underlying52 hi hz0 hz1 hz2 rfl (by decide) _ _ _ rfl (How.out.alloc _) ⟨wr.heap.size, 0, none⟩ 1 1 [.string key, .string val] rfl rfl (cell_two_at _ _ rfl _ _ _) (fun x hx => by simp at hx; rcases hx with rfl | rfl <;> rfl) (by decide) (by unfold maxLen; omega) (by omega) (by simp; omega) _ rfl ?_; intro g3 cap3 w3 hown3 hgrow3 hat3 hlt3; have Hb3 : Hid (Below w.heap.size w w3) := Below.grown (Hbw.out.alloc Hbw.out.size _) hgrow3 (by simp; omega) (fun j hj => (How.out.lt _ hj).1); have c3 := (Hc.out _ Hb3.out).1; have d3 := (Hc.out _ Hb3.out).2; have hsz3 := Hb3.out.size) | (at_builtin; refine wpList_append_lies _ rfl (.tmp 74) (.tmp 79) 52 rfl w.heap.size 212 i0 _ 2 32 Try.underlying52 hi hz0 hz1 hz2 rfl (by decide) _ _ _ rfl (hown3.alloc _) ⟨w3.heap.size, 0, none⟩ 1 1 [.string K, .string V] rfl rfl (cell_two_at _ _ rfl _ _ _) (fun x hx => by simp at hx; rcases hx with rfl | rfl <;> rfl) (by decide) (by unfold maxLen; omega) (by omega) (by simp; omega) _ rfl ?_; intro g4 cap4 w4 hown4 hgrow4 hat4 hlt4; have Hb4 : Hid (Below w.heap.size w w4) := Below.grown (Hb3.out.alloc Hb3.out.size _) hgrow4 (by simp; omega) (fun j hj => (hown3.lt _ hj).1); have c4 := (Hc.out _ Hb4.out).1; have d4 := (Hc.out _ Hb4.out).2; have hsz4 := Hb4.out.size))
              go_roundw
              case rel => exact ⟨g4, cap4, k + 1, (D ++ [(key, val)]) ++ [(K, V)], true, by omega, by go_num, rfl, (by simp), (by simp; omega), (by show World.ownsRow _ _ _ _ _ _ _; rw [flat_snoc, flat_snoc, List.length_append, List.length_append]; exact hown4), Hn, Hb4⟩
              case measure => simp [intOf]; omega
      · have e : k = ls.length := by omega
        subst e
        have Hst' : Hid (setTo key val ls = (D, p)) := by have := Hst.out; rw [List.take_length] at this; exact this
        clear Hst
        cases p with
        | true =>
          have HR : Hid (R = D) := by show _ = _; rw [Hall.out, Hst'.out]; rfl
          clear Hst' Hat
          go_wp2
          go_ret2
          rw [HR.out]
          exact ⟨g, cap, rfl, How.out, Hbw.out⟩
        | false =>
          have HR : Hid (R = D ++ [(key, val)]) := by show _ = _; rw [Hall.out, Hst'.out]; rfl
          clear Hst' Hat
          go_wp2_with (at_builtin; refine wpList_append_lies _ rfl (.tmp 83) (.tmp 87) 52 rfl w.heap.size 212 i0 _ 2 32 Try.underlying52 hi hz0 hz1 hz2 rfl (by decide) _ _ _ rfl (How.out.alloc _) ⟨wr.heap.size, 0, none⟩ 1 1 [.string key, .string val] rfl rfl (cell_two_at _ _ rfl _ _ _) (fun x hx => by simp at hx; rcases hx with rfl | rfl <;> rfl) (by decide) (by unfold maxLen; omega) (by omega) (by simp; omega) _ rfl ?_; intro g3 cap3 w3 hown3 hgrow3 hat3 hlt3; have Hb3 : Hid (Below w.heap.size w w3) := Below.grown (Hbw.out.alloc Hbw.out.size _) hgrow3 (by simp; omega) (fun j hj => (How.out.lt _ hj).1); have hsz3 := Hb3.out.size)
          go_ret2
          rw [HR.out, flat_snoc, List.length_append]
          exact ⟨g3, cap3, rfl, hown3, Hb3.out⟩

theorem owns_base {w : World} {base base' g n cap : Nat} {e : TypeId} {size : Nat} {xs : List Value} (h : w.ownsRow base e size (.slice (some ⟨g, 0, none⟩) n cap) n xs) (hb : base' ≤ base) :
    w.ownsRow base' e size (.slice (some ⟨g, 0, none⟩) n cap) n xs := by
  obtain ⟨h1, h2⟩ := h
  rcases h2 with h2 | ⟨g', cap', cur, h, hg, r⟩
  · exact ⟨h1, .inl h2⟩
  · exact ⟨h1, .inr ⟨g', cap', cur, h, Nat.le_trans hb hg, r⟩⟩
set_option maxRecDepth 1000000 in
set_option maxHeartbeats 1600000 in
/-- where a test says no: a copy of what came in -/
theorem slabelSet_no (b off cap : Nat) (ls : List (ByteArray × ByteArray)) (key val : ByteArray) (w : World) (hl : ls.length ≤ 1048576) (hz : okSizes ls) (hkz : key.size ≤ maxLen) (hvz : val.size ≤ maxLen) (hrow : labsAt w b off ls) (hok : setOk ls key val = false) :
    Calls Try.prog 223 #[.slice (some ⟨b, off, none⟩) ls.length cap, .string key, .string val] w fun e w' => ∃ g cap', e = .returned (.tuple #[.slice (some ⟨g, 0, none⟩) ls.length cap', .bool false]) ∧
      w'.ownsRow w.heap.size 212 2 (.slice (some ⟨g, 0, none⟩) ls.length cap') ls.length (flat ls) ∧ Below w.heap.size w w' := by
  have hok4 : labelsB ls = false ∨ labelsB ls = true ∧ nameB key = false ∨ labelsB ls = true ∧ nameB key = true ∧ nameB val = false ∨ labelsB ls = true ∧ nameB key = true ∧ nameB val = true ∧ getH ls key = false ∧ ((ls.length : Int) == 8) = true := by
    unfold setOk at hok
    cases h1 : labelsB ls with
    | false => exact .inl rfl
    | true =>
      cases h2 : nameB key with
      | false => exact .inr (.inl ⟨rfl, rfl⟩)
      | true =>
        cases h3 : nameB val with
        | false => exact .inr (.inr (.inl ⟨rfl, rfl, rfl⟩))
        | true =>
          rw [h1, h2, h3] at hok
          simp only [Bool.true_and, Bool.or_eq_false_iff, Bool.not_eq_false'] at hok
          exact .inr (.inr (.inr ⟨rfl, rfl, rfl, hok.1, by have := hok.2; rw [beq_iff_eq] at this ⊢; omega⟩))
  have hlm : ls.length ≤ maxLen := by unfold maxLen; omega
  have hlab := fun a cap wx => slabelsOk_any a cap ls wx hlm hz
  have hkey := fun wx => sname_any key wx hkz
  have hval := fun wx => sname_any val wx hvz
  have hget := fun a cap wx => slabelGet_any a cap ls key wx hlm
  have Hrow : Hid (rowOf w (some ⟨b, off, none⟩) ls) := fun _ => ⟨b, off, rfl, hrow⟩
  have Hat := hide hrow
  clear hrow hok
  generalize getH ls key = hg at *
  generalize getV ls key = gv at *
  rcases hok4 with h1 | ⟨h1, h2⟩ | ⟨h1, h2, h3⟩ | ⟨h1, h2, h3, h4, h5⟩
  · rw [h1] at hlab
    have Hlab := hide hlab
    have Hget := hide hget
    clear hlab hkey hval hget h1
    go_enter Try.func223, Try.ntmps223
    go_wp2_with fail
    refine (Hget.out _ _ _ Hrow.out).mono ?_
    rintro e w1 ⟨rfl, hb1⟩
    have Hb1 := hide hb1
    have Hrow1 := hide (Hrow.out.below hb1)
    clear hb1
    go_wp2_with fail
    refine (Hlab.out _ _ _ Hrow1.out).mono ?_
    rintro e w2 ⟨rfl, hn2⟩
    have Hb2 : Hid (Below w.heap.size w w2) := by obtain ⟨n, rfl⟩ := hn2; exact below_drewN Hb1.out n
    have Hat2 : Hid (labsAt w2 b off ls) := Hat.out.below Hb2.out
    clear hn2
    go_wp2_with fail
    refine (copyL_any b off cap ls _ hl Hat2.out).mono ?_
    rintro e w5 ⟨g, cap5, rfl, ho5, hb5⟩
    have Ho5 := hide ho5
    have Hb5 := hide (Hb2.out.trans (hb5.mono Hb2.out.size))
    clear ho5 hb5
    go_wp2
    go_ret2
    exact ⟨g, cap5, rfl, owns_base Ho5.out Hb2.out.size, Hb5.out⟩
  · rw [h1] at hlab
    rw [h2] at hkey
    have Hlab := hide hlab
    have Hget := hide hget
    have Hkey := hide hkey
    clear hlab hkey hval hget h1 h2
    go_enter Try.func223, Try.ntmps223
    go_wp2_with fail
    refine (Hget.out _ _ _ Hrow.out).mono ?_
    rintro e w1 ⟨rfl, hb1⟩
    have Hb1 := hide hb1
    have Hrow1 := hide (Hrow.out.below hb1)
    clear hb1
    go_wp2_with fail
    refine (Hlab.out _ _ _ Hrow1.out).mono ?_
    rintro e w2 ⟨rfl, hn2⟩
    have Hb2 : Hid (Below w.heap.size w w2) := by obtain ⟨n, rfl⟩ := hn2; exact below_drewN Hb1.out n
    have Hat2 : Hid (labsAt w2 b off ls) := Hat.out.below Hb2.out
    clear hn2
    go_wp2_with fail
    refine (Hkey.out _).mono ?_
    rintro e w3 ⟨rfl, rfl⟩
    go_wp2_with fail
    refine (copyL_any b off cap ls _ hl Hat2.out).mono ?_
    rintro e w5 ⟨g, cap5, rfl, ho5, hb5⟩
    have Ho5 := hide ho5
    have Hb5 := hide (Hb2.out.trans (hb5.mono Hb2.out.size))
    clear ho5 hb5
    go_wp2
    go_ret2
    exact ⟨g, cap5, rfl, owns_base Ho5.out Hb2.out.size, Hb5.out⟩
  · rw [h1] at hlab
    rw [h2] at hkey
    rw [h3] at hval
    have Hlab := hide hlab
    have Hget := hide hget
    have Hkey := hide hkey
    have Hval := hide hval
    clear hlab hkey hval hget h1 h2 h3
    go_enter Try.func223, Try.ntmps223
    go_wp2_with fail
    refine (Hget.out _ _ _ Hrow.out).mono ?_
    rintro e w1 ⟨rfl, hb1⟩
    have Hb1 := hide hb1
    have Hrow1 := hide (Hrow.out.below hb1)
    clear hb1
    go_wp2_with fail
    refine (Hlab.out _ _ _ Hrow1.out).mono ?_
    rintro e w2 ⟨rfl, hn2⟩
    have Hb2 : Hid (Below w.heap.size w w2) := by obtain ⟨n, rfl⟩ := hn2; exact below_drewN Hb1.out n
    have Hat2 : Hid (labsAt w2 b off ls) := Hat.out.below Hb2.out
    clear hn2
    go_wp2_with fail
    refine (Hkey.out _).mono ?_
    rintro e w3 ⟨rfl, rfl⟩
    go_wp2_with fail
    refine (Hval.out _).mono ?_
    rintro e w4 ⟨rfl, rfl⟩
    go_wp2_with fail
    refine (copyL_any b off cap ls _ hl Hat2.out).mono ?_
    rintro e w5 ⟨g, cap5, rfl, ho5, hb5⟩
    have Ho5 := hide ho5
    have Hb5 := hide (Hb2.out.trans (hb5.mono Hb2.out.size))
    clear ho5 hb5
    go_wp2
    go_ret2
    exact ⟨g, cap5, rfl, owns_base Ho5.out Hb2.out.size, Hb5.out⟩
  · rw [h1] at hlab
    rw [h2] at hkey
    rw [h3] at hval
    subst h4
    have Hlab := hide hlab
    have Hget := hide hget
    have Hkey := hide hkey
    have Hval := hide hval
    clear hlab hkey hval hget h1 h2 h3
    go_enter Try.func223, Try.ntmps223
    go_wp2_with fail
    refine (Hget.out _ _ _ Hrow.out).mono ?_
    rintro e w1 ⟨rfl, hb1⟩
    have Hb1 := hide hb1
    have Hrow1 := hide (Hrow.out.below hb1)
    clear hb1
    go_wp2_with fail
    refine (Hlab.out _ _ _ Hrow1.out).mono ?_
    rintro e w2 ⟨rfl, hn2⟩
    have Hb2 : Hid (Below w.heap.size w w2) := by obtain ⟨n, rfl⟩ := hn2; exact below_drewN Hb1.out n
    have Hat2 : Hid (labsAt w2 b off ls) := Hat.out.below Hb2.out
    clear hn2
    go_wp2_with fail
    refine (Hkey.out _).mono ?_
    rintro e w3 ⟨rfl, rfl⟩
    go_wp2_with fail
    refine (Hval.out _).mono ?_
    rintro e w4 ⟨rfl, rfl⟩
    go_wp2_with fail
    refine (copyL_any b off cap ls _ hl Hat2.out).mono ?_
    rintro e w5 ⟨g, cap5, rfl, ho5, hb5⟩
    have Ho5 := hide ho5
    have Hb5 := hide (Hb2.out.trans (hb5.mono Hb2.out.size))
    clear ho5 hb5
    go_wp2
    go_ret2
    exact ⟨g, cap5, rfl, owns_base Ho5.out Hb2.out.size, Hb5.out⟩

theorem slabelSet_any (b off cap : Nat) (ls : List (ByteArray × ByteArray)) (key val : ByteArray) (w : World) (hl : ls.length ≤ 1048576) (hz : okSizes ls) (hkz : key.size ≤ maxLen) (hvz : val.size ≤ maxLen) (hrow : labsAt w b off ls) :
    Calls Try.prog 223 #[.slice (some ⟨b, off, none⟩) ls.length cap, .string key, .string val] w fun e w' => ∃ g cap', e = .returned (.tuple #[.slice (some ⟨g, 0, none⟩) (setR ls key val).1.length cap', .bool (setR ls key val).2]) ∧
      w'.ownsRow w.heap.size 212 2 (.slice (some ⟨g, 0, none⟩) (setR ls key val).1.length cap') (setR ls key val).1.length (flat (setR ls key val).1) ∧ Below w.heap.size w w' := by
  unfold setR
  rcases Bool.eq_false_or_eq_true (setOk ls key val) with h | h
  · rw [if_pos h]
    exact slabelSet_yes b off cap ls key val w hl hz hkz hvz hrow h
  · rw [if_neg (by rw [h]; decide)]
    exact slabelSet_no b off cap ls key val w hl hz hkz hvz hrow h
end Go.Proofs.Ytdnodaoeflbfkaa
