/- Rows of strings: where a slice of strings leads; the three helpers of the laws over them. -/
import Derived.Test.YtdnodaoeflbfkaaBas
namespace Go.Proofs.Ytdnodaoeflbfkaa
open Go.RowKit
set_option linter.unusedVariables false

/-- rows of strings: one cell each -/
def strAt (w : World) (b off : Nat) (ss : List ByteArray) : Prop := ∀ i (h : i < ss.length), w.cell? ⟨b, off + i, none⟩ = some (.string (ss[i]'h))
def strOf (w : World) (a : Option Addr) (ss : List ByteArray) : Prop := 0 < ss.length → ∃ b off, a = some ⟨b, off, none⟩ ∧ strAt w b off ss
theorem strAt.below {w w' : World} {b off : Nat} {ss : List ByteArray} (h : strAt w b off ss) (hb : Below w.heap.size w w') : strAt w' b off ss := fun i hi => by
  have h0 := h i hi
  exact (hb.cell (p := ⟨b, off + i, none⟩) (World.block_lt_of_cell? _ _ h0)).trans h0
theorem strOf.below {w w' : World} {a : Option Addr} {ss : List ByteArray} (h : strOf w a ss) (hb : Below w.heap.size w w') : strOf w' a ss := by
  intro hl
  obtain ⟨b, off, e, h⟩ := h hl
  exact ⟨b, off, e, h.below hb⟩
theorem strOf.below' {w w1 w' : World} {a : Option Addr} {ss : List ByteArray} (h : strOf w a ss) (hb : Below w.heap.size w1 w') (h1 : Below w.heap.size w w1) : strOf w' a ss := h.below (h1.trans hb)

def szStrs : List ByteArray → Int → Int
  | [], l => l
  | s :: r, l => if l - s.size < 0 then -1 else szStrs r (l - s.size)
def szSS (ss : List ByteArray) (left : Int) : Int := if left - ss.length < 0 then -1 else szStrs ss (left - ss.length)
theorem szStrs_drop (ss : List ByteArray) (k : Nat) (h : k < ss.length) (l : Int) : szStrs (ss.drop k) l = if l - (ss[k]'h).size < 0 then -1 else szStrs (ss.drop (k + 1)) (l - (ss[k]'h).size) := by
  rw [List.drop_eq_getElem_cons h]; rfl
def okStrs (ss : List ByteArray) : Prop := ∀ s ∈ ss, s.size ≤ maxLen

theorem szStringS_any (a : Option Addr) (cap : Nat) (ss : List ByteArray) (left : Int) (w : World) (hl : ss.length ≤ maxLen) (hz : okStrs ss) (h0 : 0 ≤ left) (h1 : left ≤ 1048576) (hrow : strOf w a ss) :
    Calls Try.prog 62 #[.slice a ss.length cap, .int .i64 left] w fun e w' => e = .returned (.int .i64 (szSS ss left)) ∧ Below w.heap.size w w' := by
  unfold maxLen at hl
  by_cases c1 : left - (ss.length : Int) < 0
  · have E : Hid (szSS ss left = -1) := by unfold Hid szSS; rw [if_pos c1]
    clear hrow hz
    go_enter Try.func62, Try.ntmps62
    go_wp2
    go_ret
    exact ⟨ret_int E.out.symm, Below.refl _ _⟩
  have E : Hid (szSS ss left = szStrs ss (left - ss.length)) := by unfold Hid szSS; rw [if_neg c1]
  have Hr := hide hrow
  have Hz := hide hz
  clear hrow hz
  go_enter Try.func62, Try.ntmps62
  go_wp2
  go_loopw [1, 5] (fun l i wr => ∃ (k : Nat) (x : Int), k ≤ ss.length ∧ i = .int .i64 k ∧ l = .int .i64 x ∧ 0 ≤ x ∧ x ≤ 1048576 ∧ Hid (szStrs (ss.drop k) x = szStrs ss (left - ss.length)) ∧ Below w.heap.size w wr) (fun _ i _ => ss.length - (intOf i).toNat)
  case atStart => exact ⟨0, _, Nat.zero_le _, rfl, rfl, by omega, by omega, rfl, Below.refl _ _⟩
  case round =>
    obtain ⟨k, x, hk, rfl, rfl, hx0, hx1, hsz, hbw⟩ := hrel
    by_cases hlt : k < ss.length
    · obtain ⟨b, off, rfl, hat⟩ := Hr.out (by omega)
      have hbb : b < w.heap.size := World.block_lt_of_cell? _ _ (hat k hlt)
      have c0 := (hbw.cell (p := ⟨b, off + k, none⟩) hbb).trans (hat k hlt)
      have hz := (Hz.out _ (List.getElem_mem hlt))
      have hn := szStrs_drop ss k hlt x
      generalize ss[k]'hlt = S at *
      unfold maxLen at hz
      by_cases hneg : x - (S.size : Int) < 0
      · have hr : Hid (szStrs ss (left - ss.length) = -1) := by rw [← hsz.out, hn, if_pos hneg]; rfl
        clear hn hat hsz
        go_wp2
        go_ret
        exact ⟨ret_int (by rw [E.out, hr.out]), hbw⟩
      · have hr : Hid (szStrs (ss.drop (k + 1)) (x - S.size) = szStrs ss (left - ss.length)) := by rw [← hsz.out, hn, if_neg hneg]; rfl
        clear hn hat hsz
        go_wp2
        go_roundw
        case rel => exact ⟨k + 1, _, by omega, by go_num, rfl, by omega, by omega, hr, hbw⟩
        case measure => simp [intOf]; omega
    · have e : k = ss.length := by omega
      subst e
      have hr : Hid (szStrs ss (left - ss.length) = x) := by rw [← hsz.out, List.drop_length]; rfl
      clear hsz
      go_wp2
      go_ret
      exact ⟨ret_int (by rw [E.out, hr.out]), hbw⟩

theorem Try.infoStr : (Try.prog.info? 9).map (fun i => (i.zero, i.size, i.bytes)) = some (some (.string ByteArray.empty), 1, 16) := by kernel_rfl
def strVs (ss : List ByteArray) : List Value := ss.map fun s => .string s
theorem strVs_length (ss : List ByteArray) : (strVs ss).length = ss.length := by simp [strVs]
theorem strVs_get {ss : List ByteArray} {k : Nat} (h : k < ss.length) : (strVs ss)[k]? = some (.string ss[k]) := by
  unfold strVs; rw [List.getElem?_map, List.getElem?_eq_getElem h]; rfl
theorem strOf_owns {w : World} {base g n cap : Nat} {e : TypeId} {ss : List ByteArray} (h : w.ownsRow base e 1 (.slice (some ⟨g, 0, none⟩) n cap) n (strVs ss)) : strOf w (some ⟨g, 0, none⟩) ss := by
  intro _
  refine ⟨g, 0, rfl, fun i hi => ?_⟩
  have hn : n * 1 = ss.length := by rw [← strVs_length, h.1]
  rw [← strVs_get hi, Nat.zero_add]
  exact h.cellAt _ (by omega)

theorem toStringS_any (a : Option Addr) (cap : Nat) (ss : List ByteArray) (w : World) (hl : ss.length ≤ 1048576) (hrow : strOf w a ss) :
    Calls Try.prog 69 #[.slice a ss.length cap] w fun e w' => e = .returned (.slice (some ⟨w.heap.size, 0, none⟩) ss.length ss.length) ∧
      w'.ownsRow w.heap.size 9 1 (.slice (some ⟨w.heap.size, 0, none⟩) ss.length ss.length) ss.length (strVs ss) ∧ Below w.heap.size w w' := by
  obtain ⟨i0, hi, hz0, hz1, hz2⟩ := info_parts Try.infoStr
  have Hr := hide hrow
  clear hrow
  go_enter Try.func69, Try.ntmps69
  go_wp2_with (at_make; refine wpList_make_full _ rfl _ _ 25 rfl w.heap.size 9 i0 _ 1 Try.underlying25 hi hz0 hz1 _ _ _ _ ss.length rfl rfl rfl rfl (by rw [hz2]; omega) (by unfold maxLen; omega) (Nat.le_refl _) ?_; intro w1 hown hgrow)
  go_loopw [4] (fun i wr => ∃ (k : Nat) (xs : List Value), k ≤ ss.length ∧ i = .int .i64 k ∧ wr.ownsRow w.heap.size 9 1 (.slice (some ⟨w.heap.size, 0, none⟩) ss.length ss.length) ss.length xs ∧
      Hid (∀ j, j < k → xs[j]? = (strVs ss)[j]?) ∧ Below w.heap.size w wr) (fun i _ => ss.length - (intOf i).toNat)
  case atStart => exact ⟨0, _, Nat.zero_le _, rfl, hown, fun j hj => by omega, Below.grown (Below.refl _ _) hgrow (Nat.le_refl _) (fun k hk => by cases hk)⟩
  case round =>
    obtain ⟨k, xs, hk, rfl, how, Hx, hbw⟩ := hrel
    clear hown hgrow
    by_cases hlt : k < ss.length
    · obtain ⟨b, off, rfl, hat⟩ := Hr.out (by omega)
      have hbb : b < w.heap.size := World.block_lt_of_cell? _ _ (hat k hlt)
      have c0 := (hbw.cell (p := ⟨b, off + k, none⟩) hbb).trans (hat k hlt)
      have Hf : Hid ((strVs ss)[k]? = some (.string ss[k])) := strVs_get hlt
      have hxl : xs.length = ss.length * 1 := how.1
      have Hxl : Hid (xs.length = ss.length * 1) := hxl
      obtain ⟨o0, g0⟩ : ∃ o, xs[k]? = some o := ⟨_, List.getElem?_eq_getElem (by omega)⟩
      have q0 : wr.cell? ⟨w.heap.size, k, none⟩ = some o0 := (how.cellAt _ (by omega)).trans g0
      have f0 := how.frozenAt k
      have How := hide how
      clear how g0 hat hxl
      generalize ss[k]'hlt = S at *
      go_wp2
      have s1 := How.out.stored k (.string S)
      go_roundw
      case rel => exact ⟨k + 1, _, by omega, by go_num, s1.1, (by
          intro j hj
          have hl := Hxl.out
          by_cases e0 : j = k
          · subst e0; rw [List.getElem?_set_self (by omega)]; exact Hf.out.symm
          · rw [List.getElem?_set_ne (by omega)]; exact Hx.out j (by omega)), hbw.setCell (Nat.le_refl _) _⟩
      case measure => simp [intOf]; omega
    · have e : k = ss.length := by omega
      subst e
      have hx : xs = strVs ss := by
        apply List.ext_getElem?
        intro j
        by_cases hj : j < ss.length
        · exact Hx.out j hj
        · rw [List.getElem?_eq_none (by have := how.1; omega), List.getElem?_eq_none (by rw [strVs_length]; omega)]
      subst hx
      go_wp2
      go_ret
      exact ⟨rfl, how, hbw⟩

theorem eqStringS_any (a a' : Option Addr) (cap cap' : Nat) (ls ls' : List ByteArray) (w : World) (hl : ls.length ≤ maxLen) (hl' : ls'.length ≤ maxLen) (hrow : strOf w a ls) (hrow' : strOf w a' ls') :
    Calls Try.prog 52 #[.slice a ls.length cap, .slice a' ls'.length cap'] w fun e w' => e = .returned (.bool (decide (ls = ls'))) ∧ Below w.heap.size w w' := by
  unfold maxLen at hl hl'
  have Hr := hide hrow
  have Hr' := hide hrow'
  clear hrow hrow'
  by_cases hll : ls.length = ls'.length
  · have hb0 : ((ls.length : Int) != (ls'.length : Int)) = false := by rw [bne_eq_false_iff_eq]; omega
    have Hl := hide hll
    have hle : ls.length ≤ ls'.length := by omega
    have hge : ls'.length ≤ ls.length := by omega
    clear hll
    go_enter Try.func52, Try.ntmps52
    go_wp2
    go_loopw [5] (fun i wr => ∃ (k : Nat), k ≤ ls.length ∧ i = .int .i64 k ∧ Hid (∀ j, j < k → ls[j]? = ls'[j]?) ∧ Below w.heap.size w wr) (fun i _ => ls.length - (intOf i).toNat)
    case atStart => exact ⟨0, Nat.zero_le _, rfl, fun j hj => by omega, Below.refl _ _⟩
    case round =>
      obtain ⟨k, hk, rfl, Hx, hbw⟩ := hrel
      by_cases hlt : k < ls.length
      · have hlt' : k < ls'.length := by omega
        obtain ⟨b, off, rfl, hat⟩ := Hr.out (by omega)
        obtain ⟨b', off', rfl, hat'⟩ := Hr'.out (by omega)
        have hbb : b < w.heap.size := World.block_lt_of_cell? _ _ (hat k hlt)
        have hbb' : b' < w.heap.size := World.block_lt_of_cell? _ _ (hat' k hlt')
        have c0 := (hbw.cell (p := ⟨b, off + k, none⟩) hbb).trans (hat k hlt)
        have c0' := (hbw.cell (p := ⟨b', off' + k, none⟩) hbb').trans (hat' k hlt')
        have Hg : Hid (ls[k]? = some ls[k] ∧ ls'[k]? = some ls'[k]) := ⟨List.getElem?_eq_getElem _, List.getElem?_eq_getElem _⟩
        have he := beq_str ls[k] ls'[k]
        generalize ls[k]'hlt = K at *
        generalize ls'[k]'hlt' = K' at *
        clear hat hat'
        by_cases hq : K = K'
        · rw [decide_eq_true hq] at he
          have Hn : Hid (∀ j, j < k + 1 → ls[j]? = ls'[j]?) := by
            intro j hj
            by_cases e : j = k
            · rw [e, Hg.out.1, Hg.out.2, hq]
            · exact Hx.out j (by omega)
          clear hq Hg Hx
          go_wp2
          go_quiet (fail)
          go_wp2
          go_roundw
          case rel => exact ⟨k + 1, by omega, by go_num, Hn, below_drewN hbw _⟩
          case measure => simp [intOf]; omega
        · rw [decide_eq_false hq] at he
          have Hn : Hid (decide (ls = ls') = false) := by
            show _ = _
            rw [decide_eq_false_iff_not]
            rintro rfl
            exact hq (by rw [Hg.out.1] at Hg; exact Option.some.inj Hg.out.2)
          clear hq Hg Hx
          go_wp2
          go_quiet (fail)
          go_wp2
          go_ret
          exact ⟨ret_bool Hn.out.symm, below_drewN hbw _⟩
      · have Hn : Hid (decide (ls = ls') = true) := by
          show _ = _
          rw [decide_eq_true_eq]
          apply List.ext_getElem?
          intro j
          by_cases hj : j < k
          · exact Hx.out j hj
          · rw [List.getElem?_eq_none (by omega), List.getElem?_eq_none (by omega)]
        have e : k = ls.length := by omega
        subst e
        clear Hx
        go_wp2
        go_ret
        exact ⟨ret_bool Hn.out.symm, hbw⟩
  · have hb0 : ((ls.length : Int) != (ls'.length : Int)) = true := by rw [bne_iff_ne]; omega
    have Hn : Hid (decide (ls = ls') = false) := by
      show _ = _
      rw [decide_eq_false_iff_not]
      rintro rfl
      exact hll rfl
    clear hll
    go_enter Try.func52, Try.ntmps52
    go_wp2
    go_ret
    exact ⟨ret_bool Hn.out.symm, Below.refl _ _⟩
end Go.Proofs.Ytdnodaoeflbfkaa
