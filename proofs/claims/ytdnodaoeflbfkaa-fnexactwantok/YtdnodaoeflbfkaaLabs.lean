import Derived.Test.YtdnodaoeflbfkaaChecked
import Derived.Test.YtdnodaoeflbfkaaNames
import Derived.Test.YtdnodaoeflbfkaaBas
import Derived.Outline
namespace Go.Proofs.Ytdnodaoeflbfkaa
open Go.RowKit

/-- rows of labels: slot 2i holds the key, slot 2i+1 the value -/
def labsAt (w : World) (b off : Nat) (ls : List (ByteArray × ByteArray)) : Prop :=
  ∀ i (h : i < ls.length), w.cell? ⟨b, off + i * 2, none⟩ = some (.string (ls[i]'h).1) ∧ w.cell? ⟨b, off + i * 2 + 1, none⟩ = some (.string (ls[i]'h).2)

def szOne (k v : Nat) (left : Int) : Int := if left - k < 0 then -1 else if left - k - v < 0 then -1 else left - k - v

theorem szLabel_any (k v : ByteArray) (left : Int) (w : World) (hk : k.size ≤ maxLen) (hv : v.size ≤ maxLen) (h0 : 0 ≤ left) (h1 : left ≤ 1048576) :
    Calls Try.prog 151 #[.agg #[.string k, .string v], .int .i64 left] w fun e w' => e = .returned (.int .i64 (szOne k.size v.size left)) ∧ Below w.heap.size w w' := by
  unfold maxLen at hk hv
  by_cases c1 : left - (k.size : Int) < 0
  · have E : Hid (szOne k.size v.size left = -1) := by unfold Hid szOne; rw [if_pos c1]
    go_enter Try.func151, Try.ntmps151
    go_wp2
    go_ret
    exact ⟨ret_int E.out.symm, (Below.refl _ _).alloc (Nat.le_refl _) _⟩
  by_cases c2 : left - (k.size : Int) - (v.size : Int) < 0
  · have E : Hid (szOne k.size v.size left = -1) := by unfold Hid szOne; rw [if_neg c1, if_pos c2]
    go_enter Try.func151, Try.ntmps151
    go_wp2
    go_ret
    exact ⟨ret_int E.out.symm, (Below.refl _ _).alloc (Nat.le_refl _) _⟩
  · have E : Hid (szOne k.size v.size left = left - k.size - v.size) := by unfold Hid szOne; rw [if_neg c1, if_neg c2]
    go_enter Try.func151, Try.ntmps151
    go_wp2
    go_ret
    exact ⟨ret_int E.out.symm, (Below.refl _ _).alloc (Nat.le_refl _) _⟩

theorem eqLabel_any (k v k' v' : ByteArray) (w : World) :
    Calls Try.prog 158 #[.agg #[.string k, .string v], .agg #[.string k', .string v']] w fun e w' => e = .returned (.bool (decide ((k, v) = (k', v')))) ∧ Below w.heap.size w w' := by
  have e1 := beq_str k k'
  have e2 := beq_str v v'
  by_cases c1 : k = k'
  · by_cases c2 : v = v'
    · have E : Hid (decide ((k, v) = (k', v')) = true) := by simp [Hid, c1, c2]
      rw [decide_eq_true c1] at e1
      rw [decide_eq_true c2] at e2
      clear c1 c2
      go_enter Try.func158, Try.ntmps158
      go_wp2
      go_ret
      exact ⟨ret_bool E.out.symm, ((Below.refl _ _).alloc (Nat.le_refl _) _).alloc (by simp) _⟩
    · have E : Hid (decide ((k, v) = (k', v')) = false) := by simp [Hid, c2]
      rw [decide_eq_true c1] at e1
      rw [decide_eq_false c2] at e2
      clear c1 c2
      go_enter Try.func158, Try.ntmps158
      go_wp2
      go_ret
      exact ⟨ret_bool E.out.symm, ((Below.refl _ _).alloc (Nat.le_refl _) _).alloc (by simp) _⟩
  · have E : Hid (decide ((k, v) = (k', v')) = false) := by simp [Hid, c1]
    rw [decide_eq_false c1] at e1
    clear c1 e2
    go_enter Try.func158, Try.ntmps158
    go_wp2
    go_ret
    exact ⟨ret_bool E.out.symm, ((Below.refl _ _).alloc (Nat.le_refl _) _).alloc (by simp) _⟩

theorem toLabel_any (k v : ByteArray) (w : World) :
    Calls Try.prog 154 #[.agg #[.string k, .string v]] w fun e w' => e = .returned (.agg #[.string k, .string v]) ∧ Below w.heap.size w w' := by
  go_enter Try.func154, Try.ntmps154
  go_wp2
  exact bodyPost_ret (v := .agg #[.string k, .string v]) (by simp [results, Try.results154, go_sem]) rfl ⟨rfl, (((Below.refl _ _).alloc (Nat.le_refl _) _).alloc (by simp) _).alloc (by simp; omega) _⟩

def szAll : List (ByteArray × ByteArray) → Int → Int
  | [], l => l
  | p :: r, l => if szOne p.1.size p.2.size l < 0 then -1 else szAll r (szOne p.1.size p.2.size l)
def szS (ls : List (ByteArray × ByteArray)) (left : Int) : Int := if left - ls.length < 0 then -1 else szAll ls (left - ls.length)
def okSizes (ls : List (ByteArray × ByteArray)) : Prop := ∀ p ∈ ls, p.1.size ≤ maxLen ∧ p.2.size ≤ maxLen
theorem szOne_le (k v : Nat) (l : Int) : szOne k v l ≤ l ∨ szOne k v l = -1 := by unfold szOne; split; exact .inr rfl; split; exact .inr rfl; left; omega
theorem szAll_drop (ls : List (ByteArray × ByteArray)) (k : Nat) (h : k < ls.length) (l : Int) : szAll (ls.drop k) l = if szOne (ls[k]'h).1.size (ls[k]'h).2.size l < 0 then -1 else szAll (ls.drop (k + 1)) (szOne (ls[k]'h).1.size (ls[k]'h).2.size l) := by
  rw [List.drop_eq_getElem_cons h]; rfl

theorem szLabelS_any (a : Option Addr) (cap : Nat) (ls : List (ByteArray × ByteArray)) (left : Int) (w : World) (hl : ls.length ≤ maxLen) (hz : okSizes ls) (h0 : 0 ≤ left) (h1 : left ≤ 1048576)
    (hrow : 0 < ls.length → ∃ b off, a = some ⟨b, off, none⟩ ∧ labsAt w b off ls) :
    Calls Try.prog 77 #[.slice a ls.length cap, .int .i64 left] w fun e w' => e = .returned (.int .i64 (szS ls left)) ∧ Below w.heap.size w w' := by
  unfold maxLen at hl
  by_cases c1 : left - (ls.length : Int) < 0
  · have E : Hid (szS ls left = -1) := by unfold Hid szS; rw [if_pos c1]
    clear hrow hz
    go_enter Try.func77, Try.ntmps77
    go_wp2
    go_ret
    exact ⟨ret_int E.out.symm, Below.refl _ _⟩
  have E : Hid (szS ls left = szAll ls (left - ls.length)) := by unfold Hid szS; rw [if_neg c1]
  have hrow' := hrow
  have Hr : Hid (0 < ls.length → ∃ b off, a = some ⟨b, off, none⟩ ∧ labsAt w b off ls) := hrow'
  have Hz : Hid (okSizes ls) := hz
  clear hrow hrow' hz
  go_enter Try.func77, Try.ntmps77
  go_wp2
  go_loopw [1, 5] (fun l i wr => ∃ (k : Nat) (x : Int), k ≤ ls.length ∧ i = .int .i64 k ∧ l = .int .i64 x ∧ 0 ≤ x ∧ x ≤ 1048576 ∧ Hid (szAll (ls.drop k) x = szAll ls (left - ls.length)) ∧ Below w.heap.size w wr) (fun _ i _ => ls.length - (intOf i).toNat)
  case atStart => exact ⟨0, _, Nat.zero_le _, rfl, rfl, by omega, by omega, rfl, Below.refl _ _⟩
  case round =>
    obtain ⟨k, x, hk, rfl, rfl, hx0, hx1, hsz, hbw⟩ := hrel
    by_cases hlt : k < ls.length
    · obtain ⟨b, off, rfl, hat⟩ := Hr.out (by omega)
      have hbb : b < w.heap.size := World.block_lt_of_cell? _ _ (hat k hlt).1
      have c0 := (hbw.cell (p := ⟨b, off + k * 2, none⟩) hbb).trans (hat k hlt).1
      have c2 := (hbw.cell (p := ⟨b, off + k * 2 + 1, none⟩) hbb).trans (hat k hlt).2
      have hz := (Hz.out _ (List.getElem_mem hlt))
      have hn := szAll_drop ls k hlt x
      obtain ⟨K, V, hkv⟩ : ∃ K V, ls[k]'hlt = (K, V) := ⟨_, _, rfl⟩
      rw [hkv] at c0 c2 hz hn
      clear hkv
      simp only at c0 c2 hz hn
      have hs := szOne_le K.size V.size x
      by_cases hneg : szOne K.size V.size x < 0
      · have hr : Hid (szAll ls (left - ls.length) = -1) := by rw [← hsz.out, hn, if_pos hneg]; rfl
        clear hn hat hsz
        go_wp2_with (go_at_call 151; refine (szLabel_any _ _ _ _ hz.1 hz.2 hx0 hx1).mono ?_; rintro e w' ⟨rfl, hb⟩)
        go_ret
        exact ⟨ret_int (by rw [E.out, hr.out]), hbw.trans (hb.mono hbw.size)⟩
      · have hr : Hid (szAll (ls.drop (k + 1)) (szOne K.size V.size x) = szAll ls (left - ls.length)) := by rw [← hsz.out, hn, if_neg hneg]; rfl
        clear hn hat hsz
        go_wp2_with (go_at_call 151; refine (szLabel_any _ _ _ _ hz.1 hz.2 hx0 hx1).mono ?_; rintro e w' ⟨rfl, hb⟩)
        go_roundw
        case rel => exact ⟨k + 1, _, by omega, by go_num, rfl, by omega, by omega, hr, hbw.trans (hb.mono hbw.size)⟩
        case measure => simp [intOf]; omega
    · have e : k = ls.length := by omega
      subst e
      have hr : Hid (szAll ls (left - ls.length) = x) := by rw [← hsz.out, List.drop_length]; rfl
      clear hsz
      go_wp2
      go_ret
      exact ⟨ret_int (by rw [E.out, hr.out]), hbw⟩

theorem Try.info44 : (Try.prog.info? 212).map (fun i => (i.zero, i.size, i.bytes)) = some (some (.agg #[.string ByteArray.empty, .string ByteArray.empty]), 2, 32) := by kernel_rfl
def flat (ls : List (ByteArray × ByteArray)) : List Value := ls.flatMap fun p => [.string p.1, .string p.2]
theorem flat_length (ls : List (ByteArray × ByteArray)) : (flat ls).length = ls.length * 2 := by
  induction ls with
  | nil => rfl
  | cons p r ih => simp only [flat, List.flatMap_cons, List.length_append, List.length_cons, List.length_nil] at *; omega
theorem flat_get (ls : List (ByteArray × ByteArray)) : ∀ (i : Nat) (h : i < ls.length), (flat ls)[i * 2]? = some (.string (ls[i]'h).1) ∧ (flat ls)[i * 2 + 1]? = some (.string (ls[i]'h).2) := by
  induction ls with
  | nil => intro i h; simp at h
  | cons p r ih =>
    intro i h
    have e : flat (p :: r) = .string p.1 :: .string p.2 :: flat r := rfl
    cases i with
    | zero => simp [e]
    | succ i =>
      have := ih i (by simpa using h)
      rw [e, show (i + 1) * 2 = i * 2 + 1 + 1 from by omega]
      simpa using this

theorem owns_below {w w' : World} {base g n cap : Nat} {e : TypeId} {size : Nat} {xs : List Value} (h : w.ownsRow base e size (.slice (some ⟨g, 0, none⟩) n cap) n xs) (hb : Below w.heap.size w w') :
    w'.ownsRow base e size (.slice (some ⟨g, 0, none⟩) n cap) n xs := by
  obtain ⟨h1, h2⟩ := h
  rcases h2 with ⟨h, _⟩ | ⟨g', cap', cur, h, hg, hh, r⟩
  · cases h
  · cases h
    refine ⟨h1, .inr ⟨g, cap, cur, rfl, hg, ?_, r⟩⟩
    rw [hb.block g (Array.getElem?_eq_some_iff.1 hh).1]
    exact hh

theorem toLabelS_any (a : Option Addr) (cap : Nat) (ls : List (ByteArray × ByteArray)) (w : World) (hl : ls.length ≤ 1048576)
    (hrow : 0 < ls.length → ∃ b off, a = some ⟨b, off, none⟩ ∧ labsAt w b off ls) :
    Calls Try.prog 80 #[.slice a ls.length cap] w fun e w' => ∃ g, e = .returned (.slice (some ⟨g, 0, none⟩) ls.length ls.length) ∧
      w'.ownsRow w.heap.size 212 2 (.slice (some ⟨g, 0, none⟩) ls.length ls.length) ls.length (flat ls) ∧ Below w.heap.size w w' := by
  obtain ⟨i0, hi, hz0, hz1, hz2⟩ := info_parts Try.info44
  have Hr : Hid (0 < ls.length → ∃ b off, a = some ⟨b, off, none⟩ ∧ labsAt w b off ls) := hrow
  clear hrow
  go_enter Try.func80, Try.ntmps80
  go_wp2_with (at_make; refine wpList_make_full _ rfl _ _ 52 rfl w.heap.size 212 i0 _ 2 Try.underlying52 hi hz0 hz1 _ _ _ _ ls.length rfl rfl rfl rfl (by rw [hz2]; omega) (by unfold maxLen; omega) (Nat.le_refl _) ?_; intro w1 hown hgrow)
  go_loopw [4] (fun i wr => ∃ (k : Nat) (xs : List Value), k ≤ ls.length ∧ i = .int .i64 k ∧ wr.ownsRow w.heap.size 212 2 (.slice (some ⟨w.heap.size, 0, none⟩) ls.length ls.length) ls.length xs ∧
      Hid (∀ j, j < k * 2 → xs[j]? = (flat ls)[j]?) ∧ Below w.heap.size w wr) (fun i _ => ls.length - (intOf i).toNat)
  case atStart => exact ⟨0, _, Nat.zero_le _, rfl, hown, fun j hj => by omega, Below.grown (Below.refl _ _) hgrow (Nat.le_refl _) (fun k hk => by cases hk)⟩
  case round =>
    obtain ⟨k, xs, hk, rfl, how, Hx, hbw⟩ := hrel
    clear hown hgrow
    by_cases hlt : k < ls.length
    · obtain ⟨b, off, rfl, hat⟩ := Hr.out (by omega)
      have hbb : b < w.heap.size := World.block_lt_of_cell? _ _ (hat k hlt).1
      have c0 := (hbw.cell (p := ⟨b, off + k * 2, none⟩) hbb).trans (hat k hlt).1
      have c2 := (hbw.cell (p := ⟨b, off + k * 2 + 1, none⟩) hbb).trans (hat k hlt).2
      have hf := flat_get ls k hlt
      obtain ⟨K, V, hkv⟩ : ∃ K V, ls[k]'hlt = (K, V) := ⟨_, _, rfl⟩
      rw [hkv] at c0 c2 hf
      clear hkv hat
      simp only at c0 c2 hf
      have Hf : Hid ((flat ls)[k * 2]? = some (.string K) ∧ (flat ls)[k * 2 + 1]? = some (.string V)) := hf
      have How : Hid (wr.ownsRow w.heap.size 212 2 (.slice (some ⟨w.heap.size, 0, none⟩) ls.length ls.length) ls.length xs) := how
      have hxl : xs.length = ls.length * 2 := how.1
      have g0 : xs[k * 2]? = some (xs[k * 2]'(by omega)) := List.getElem?_eq_getElem _
      have g1 : xs[k * 2 + 1]? = some (xs[k * 2 + 1]'(by omega)) := List.getElem?_eq_getElem _
      obtain ⟨o0, ho0⟩ : ∃ o, o = (xs[k * 2]'(by omega)) := ⟨_, rfl⟩
      obtain ⟨o1, ho1⟩ : ∃ o, o = (xs[k * 2 + 1]'(by omega)) := ⟨_, rfl⟩
      rw [← ho0] at g0
      rw [← ho1] at g1
      have G0 : Hid (xs[k * 2]? = some o0) := g0
      have G1 : Hid (xs[k * 2 + 1]? = some o1) := g1
      have Hxl : Hid (xs.length = ls.length * 2) := hxl
      clear hf how g0 g1 ho0 ho1 hxl
      go_wp2_with (go_at_call 154; refine (toLabel_any _ _ _).mono ?_; rintro e w2 ⟨rfl, hb2⟩; have q0 : w2.cell? ⟨w.heap.size, k * 2, none⟩ = some o0 := ((owns_below How.out hb2).cellAt _ (by omega)).trans G0.out; have q1 : w2.cell? ⟨w.heap.size, k * 2 + 1, none⟩ = some o1 := ((owns_below How.out hb2).cellAt _ (by omega)).trans G1.out; have f0 := (owns_below How.out hb2).frozenAt (k * 2); have f1 := (owns_below How.out hb2).frozenAt (k * 2 + 1))
      all_goals
        have how2 := owns_below How.out hb2
        have s1 := how2.stored (k * 2) (.string K)
        have s2 := s1.1.stored (k * 2 + 1) (.string V)
      all_goals go_roundw
      case rel => exact ⟨k + 1, _, by omega, by go_num, s2.1, (by
          intro j hj
          have hl := Hxl.out
          by_cases e1 : j = k * 2 + 1
          · subst e1; rw [List.getElem?_set_self (by simp; omega)]; exact Hf.out.2.symm
          by_cases e0 : j = k * 2
          · subst e0; rw [List.getElem?_set_ne (by omega), List.getElem?_set_self (by omega)]; exact Hf.out.1.symm
          · rw [List.getElem?_set_ne (by omega), List.getElem?_set_ne (by omega)]; exact Hx.out j (by omega)), ((hbw.trans (hb2.mono hbw.size)).setCell (Nat.le_refl _) _).setCell (Nat.le_refl _) _⟩
      case measure => simp [intOf]; omega
    · have e : k = ls.length := by omega
      subst e
      have hx : xs = flat ls := by
        apply List.ext_getElem?
        intro j
        by_cases hj : j < ls.length * 2
        · exact Hx.out j hj
        · rw [List.getElem?_eq_none (by have := how.1; omega), List.getElem?_eq_none (by rw [flat_length]; omega)]
      subst hx
      go_wp2
      go_ret
      exact ⟨_, rfl, how, hbw⟩
end Go.Proofs.Ytdnodaoeflbfkaa
