/- Rows of terms (a number, a string, a slice of strings): where a slice of terms leads; the helpers of the laws over them. -/
import Derived.Test.YtdnodaoeflbfkaaStrs
import Derived.Test.YtdnodaoeflbfkaaOwnB
import Derived.Test.YtdnodaoeflbfkaaLabs
namespace Go.Proofs.Ytdnodaoeflbfkaa
open Go.RowKit
set_option linter.unusedVariables false

abbrev TD := Int × ByteArray × List ByteArray
def termAt (w : World) (b o : Nat) (t : TD) : Prop :=
  w.cell? ⟨b, o, none⟩ = some (.int .i64 t.1) ∧ w.cell? ⟨b, o + 1, none⟩ = some (.string t.2.1) ∧ ∃ a cap, w.cell? ⟨b, o + 2, none⟩ = some (.slice a t.2.2.length cap) ∧ strOf w a t.2.2 ∧ t.2.2.length ≤ cap ∧ (a = none → cap = 0)
def termsAt (w : World) (b off : Nat) (ts : List TD) : Prop := ∀ i (h : i < ts.length), termAt w b (off + i * 3) (ts[i]'h)
def termsOf (w : World) (a : Option Addr) (ts : List TD) : Prop := 0 < ts.length → ∃ b off, a = some ⟨b, off, none⟩ ∧ termsAt w b off ts
theorem termAt.below {w w' : World} {b o : Nat} {t : TD} (h : termAt w b o t) (hb : Below w.heap.size w w') : termAt w' b o t := by
  obtain ⟨h0, h1, a, cap, h2, h3⟩ := h
  have hbb := World.block_lt_of_cell? _ _ h0
  exact ⟨(hb.cell (p := ⟨b, o, none⟩) hbb).trans h0, (hb.cell (p := ⟨b, o + 1, none⟩) hbb).trans h1, a, cap, (hb.cell (p := ⟨b, o + 2, none⟩) hbb).trans h2, h3.1.below hb, h3.2⟩
theorem termsAt.below {w w' : World} {b off : Nat} {ts : List TD} (h : termsAt w b off ts) (hb : Below w.heap.size w w') : termsAt w' b off ts := fun i hi => (h i hi).below hb
theorem termsOf.below {w w' : World} {a : Option Addr} {ts : List TD} (h : termsOf w a ts) (hb : Below w.heap.size w w') : termsOf w' a ts := by
  intro hl
  obtain ⟨b, off, e, h⟩ := h hl
  exact ⟨b, off, e, h.below hb⟩

def szT (t : TD) (l : Int) : Int := if l - t.2.1.size < 0 then -1 else if szSS t.2.2 (l - t.2.1.size) < 0 then -1 else szSS t.2.2 (l - t.2.1.size)
def szTs : List TD → Int → Int
  | [], l => l
  | t :: r, l => if szT t l < 0 then -1 else szTs r (szT t l)
def szTS (ts : List TD) (left : Int) : Int := if left - ts.length < 0 then -1 else szTs ts (left - ts.length)
theorem szStrs_le : ∀ (ss : List ByteArray) (l : Int), szStrs ss l ≤ l ∨ szStrs ss l = -1
  | [], l => .inl (Int.le_refl _)
  | s :: r, l => by
    unfold szStrs
    split
    · exact .inr rfl
    · rcases szStrs_le r (l - s.size) with h | h
      · left; omega
      · exact .inr h
theorem szSS_le (ss : List ByteArray) (l : Int) : szSS ss l ≤ l ∨ szSS ss l = -1 := by
  unfold szSS
  split
  · exact .inr rfl
  · rcases szStrs_le ss (l - ss.length) with h | h
    · left; omega
    · exact .inr h
theorem szT_le (t : TD) (l : Int) : szT t l ≤ l ∨ szT t l = -1 := by
  unfold szT
  split
  · exact .inr rfl
  · split
    · exact .inr rfl
    · rcases szSS_le t.2.2 (l - t.2.1.size) with h | h
      · left; omega
      · exact .inr h
theorem szTs_drop (ts : List TD) (k : Nat) (h : k < ts.length) (l : Int) : szTs (ts.drop k) l = if szT (ts[k]'h) l < 0 then -1 else szTs (ts.drop (k + 1)) (szT (ts[k]'h) l) := by
  rw [List.drop_eq_getElem_cons h]; rfl
def okTerm (t : TD) : Prop := t.2.1.size ≤ maxLen ∧ t.2.2.length ≤ maxLen ∧ okStrs t.2.2
def okTerms (ts : List TD) : Prop := ∀ t ∈ ts, okTerm t

theorem szStrs_ok : ∀ (ss : List ByteArray) (l : Int), 0 ≤ l → ¬ szStrs ss l < 0 → ∀ s ∈ ss, (s.size : Int) ≤ l
  | [], l, _, _, s, hs => by simp at hs
  | x :: r, l, h0, h, s, hs => by
    unfold szStrs at h
    split at h
    · omega
    · rcases List.mem_cons.1 hs with rfl | hs
      · omega
      · have := szStrs_ok r (l - x.size) (by omega) h s hs; omega
theorem szSS_ok {ss : List ByteArray} {l : Int} (h : ¬ szSS ss l < 0) : (ss.length : Int) ≤ l ∧ ∀ s ∈ ss, (s.size : Int) ≤ l := by
  unfold szSS at h
  split at h
  · omega
  · exact ⟨by omega, fun s hs => by have := szStrs_ok ss (l - ss.length) (by omega) h s hs; omega⟩
theorem szT_ok {t : TD} {l : Int} (h : ¬ szT t l < 0) : (t.2.1.size : Int) ≤ l ∧ (t.2.2.length : Int) ≤ l ∧ (∀ s ∈ t.2.2, (s.size : Int) ≤ l) ∧ 0 ≤ szT t l ∧ szT t l ≤ l := by
  have hle := szT_le t l
  have h' := h
  unfold szT at h
  split at h
  · omega
  · split at h
    · omega
    · have h1 := szSS_ok h
      exact ⟨by omega, by omega, fun s hs => by have := h1.2 s hs; omega, by omega, by omega⟩
theorem szTs_ok : ∀ (ts : List TD) (l : Int), ¬ szTs ts l < 0 → ∀ t ∈ ts, (t.2.1.size : Int) ≤ l ∧ (t.2.2.length : Int) ≤ l ∧ (∀ s ∈ t.2.2, (s.size : Int) ≤ l)
  | [], l, _, t, ht => by simp at ht
  | x :: r, l, h, t, ht => by
    unfold szTs at h
    split at h
    · omega
    · rename_i hx
      have h1 := szT_ok hx
      rcases List.mem_cons.1 ht with rfl | ht
      · exact ⟨h1.1, h1.2.1, h1.2.2.1⟩
      · have h2 := szTs_ok r _ h t ht
        exact ⟨by omega, by omega, fun s hs => by have := h2.2.2 s hs; omega⟩
theorem szTS_len {ts : List TD} (h : ¬ szTS ts 1048576 < 0) : ts.length ≤ 1048576 := by unfold szTS at h; split at h <;> omega
theorem szTS_all {ts : List TD} (h : ¬ szTS ts 1048576 < 0) : ∀ t ∈ ts, t.2.1.size ≤ 1048576 ∧ t.2.2.length ≤ 1048576 ∧ ∀ s ∈ t.2.2, s.size ≤ 1048576 := by
  unfold szTS at h
  split at h
  · omega
  · intro t ht
    have := szTs_ok ts _ h t ht
    exact ⟨by omega, by omega, fun s hs => by have := this.2.2 s hs; omega⟩
theorem szTs_le : ∀ (ts : List TD) (l : Int), szTs ts l ≤ l ∨ szTs ts l = -1
  | [], l => .inl (Int.le_refl _)
  | t :: r, l => by
    unfold szTs
    split
    · exact .inr rfl
    · rcases szTs_le r (szT t l) with h | h
      · rcases szT_le t l with h' | h'
        · left; omega
        · left; omega
      · exact .inr h
theorem szTS_le (ts : List TD) (l : Int) : szTS ts l ≤ l ∨ szTS ts l = -1 := by
  unfold szTS
  split
  · exact .inr rfl
  · rcases szTs_le ts (l - ts.length) with h | h
    · left; omega
    · exact .inr h
theorem szTS_len' {ts : List TD} {l : Int} (h : ¬ szTS ts l < 0) (hl : l ≤ 1048576) : ts.length ≤ 1048576 := by unfold szTS at h; split at h <;> omega
theorem szTS_all' {ts : List TD} {l : Int} (h : ¬ szTS ts l < 0) (hl : l ≤ 1048576) : ∀ t ∈ ts, t.2.1.size ≤ 1048576 ∧ t.2.2.length ≤ 1048576 ∧ ∀ s ∈ t.2.2, s.size ≤ 1048576 := by
  unfold szTS at h
  split at h
  · omega
  · intro t ht
    have := szTs_ok ts _ h t ht
    exact ⟨by omega, by omega, fun s hs => by have := this.2.2 s hs; omega⟩
theorem szTS_vals' {ts : List TD} {l : Int} (h : ¬ szTS ts l < 0) (hl : l ≤ 1048576) : ∀ t ∈ ts, t.2.2.length ≤ 1048576 := fun t ht => (szTS_all' h hl t ht).2.1
theorem szTS_vals {ts : List TD} (h : ¬ szTS ts 1048576 < 0) : ∀ t ∈ ts, t.2.2.length ≤ 1048576 := fun t ht => (szTS_all h t ht).2.1

theorem szTerm_any (kd : Int) (key : ByteArray) (ss : List ByteArray) (a : Option Addr) (cap : Nat) (left : Int) (w : World) (hk : key.size ≤ maxLen) (hl : ss.length ≤ maxLen) (hz : okStrs ss) (h0 : 0 ≤ left) (h1 : left ≤ 1048576) (hrow : strOf w a ss) :
    Calls Try.prog 140 #[.agg #[.int .i64 kd, .string key, .slice a ss.length cap], .int .i64 left] w fun e w' => e = .returned (.int .i64 (szT (kd, key, ss) left)) ∧ Below w.heap.size w w' := by
  have hkk := hk
  unfold maxLen at hk
  have Hr := hide hrow
  have Hz := hide hz
  have Hl := hide hl
  clear hrow hz hl
  by_cases c1 : left - (key.size : Int) < 0
  · have E : Hid (szT (kd, key, ss) left = -1) := by show _ = _; unfold szT; rw [if_pos c1]
    go_enter Try.func140, Try.ntmps140
    go_wp2
    go_ret
    exact ⟨ret_int E.out.symm, (Below.refl _ _).alloc (Nat.le_refl _) _⟩
  · have hcon : ∀ wx, Below w.heap.size w wx → Calls Try.prog 62 #[.slice a ss.length cap, .int .i64 (left - key.size)] wx fun e w' => e = .returned (.int .i64 (szSS ss (left - key.size))) ∧ Below w.heap.size w w' :=
      fun wx hx => (szStringS_any a cap ss _ wx Hl.out Hz.out (by omega) (by omega) (Hr.out.below hx)).mono fun e w' h => ⟨h.1, hx.trans (h.2.mono hx.size)⟩
    have Hcon := hide hcon
    clear hcon
    by_cases c2 : szSS ss (left - key.size) < 0
    · have E : Hid (szT (kd, key, ss) left = -1) := by show _ = _; unfold szT; rw [if_neg c1, if_pos c2]
      generalize szSS ss (left - key.size) = x at *
      go_enter Try.func140, Try.ntmps140
      go_wp2_with fail
      refine (Hcon.out _ ((Below.refl _ _).alloc (Nat.le_refl _) _)).mono ?_
      rintro e w1 ⟨rfl, hb1⟩
      go_wp2
      go_ret
      exact ⟨ret_int E.out.symm, hb1⟩
    · have E : Hid (szT (kd, key, ss) left = szSS ss (left - key.size)) := by show _ = _; unfold szT; rw [if_neg c1, if_neg c2]
      generalize szSS ss (left - key.size) = x at *
      go_enter Try.func140, Try.ntmps140
      go_wp2_with fail
      refine (Hcon.out _ ((Below.refl _ _).alloc (Nat.le_refl _) _)).mono ?_
      rintro e w1 ⟨rfl, hb1⟩
      go_wp2
      go_ret
      exact ⟨ret_int E.out.symm, hb1⟩

theorem szTermS_any (a : Option Addr) (cap : Nat) (ts : List TD) (left : Int) (w : World) (hl : ts.length ≤ maxLen) (hz : okTerms ts) (h0 : 0 ≤ left) (h1 : left ≤ 1048576) (hrow : termsOf w a ts) :
    Calls Try.prog 61 #[.slice a ts.length cap, .int .i64 left] w fun e w' => e = .returned (.int .i64 (szTS ts left)) ∧ Below w.heap.size w w' := by
  unfold maxLen at hl
  by_cases c1 : left - (ts.length : Int) < 0
  · have E : Hid (szTS ts left = -1) := by unfold Hid szTS; rw [if_pos c1]
    clear hrow hz
    go_enter Try.func61, Try.ntmps61
    go_wp2
    go_ret
    exact ⟨ret_int E.out.symm, Below.refl _ _⟩
  have E : Hid (szTS ts left = szTs ts (left - ts.length)) := by unfold Hid szTS; rw [if_neg c1]
  have Hr := hide hrow
  have Hz := hide hz
  clear hrow hz
  go_enter Try.func61, Try.ntmps61
  go_wp2
  go_loopw [1, 5] (fun l i wr => ∃ (k : Nat) (x : Int), k ≤ ts.length ∧ i = .int .i64 k ∧ l = .int .i64 x ∧ 0 ≤ x ∧ x ≤ 1048576 ∧ Hid (szTs (ts.drop k) x = szTs ts (left - ts.length)) ∧ Below w.heap.size w wr) (fun _ i _ => ts.length - (intOf i).toNat)
  case atStart => exact ⟨0, _, Nat.zero_le _, rfl, rfl, by omega, by omega, rfl, Below.refl _ _⟩
  case round =>
    obtain ⟨k, x, hk, rfl, rfl, hx0, hx1, hsz, hbw⟩ := hrel
    by_cases hlt : k < ts.length
    · obtain ⟨b, off, rfl, hat⟩ := Hr.out (by omega)
      obtain ⟨h0c, h1c, av, capv, h2c, h3c⟩ := (hat k hlt).below hbw
      have hz := (Hz.out _ (List.getElem_mem hlt))
      have hn := szTs_drop ts k hlt x
      have hs := szT_le ts[k] x
      obtain ⟨KD, KEY, VS, hkv⟩ : ∃ KD KEY VS, ts[k]'hlt = (KD, KEY, VS) := ⟨_, _, _, rfl⟩
      rw [hkv] at h0c h1c h2c h3c hz hn hs
      clear hkv hat
      simp only at h0c h1c h2c h3c
      obtain ⟨z1, z2, z3⟩ := hz
      have Hs3 := hide h3c.1
      have hcon := fun wx hx => szTerm_any KD KEY VS av capv x wx z1 z2 z3 hx0 hx1 hx
      have Hcon := hide hcon
      clear hcon z3 h3c
      by_cases hneg : szT (KD, KEY, VS) x < 0
      · have hr : Hid (szTs ts (left - ts.length) = -1) := by rw [← hsz.out, hn, if_pos hneg]; rfl
        clear hn hsz
        generalize szT (KD, KEY, VS) x = y at *
        go_wp2_with fail
        refine (Hcon.out _ (by exact Hs3.out)).mono ?_
        rintro e w1 ⟨rfl, hb⟩
        go_wp2
        go_ret
        exact ⟨ret_int (by rw [E.out, hr.out]), hbw.trans (hb.mono hbw.size)⟩
      · have hr : Hid (szTs (ts.drop (k + 1)) (szT (KD, KEY, VS) x) = szTs ts (left - ts.length)) := by rw [← hsz.out, hn, if_neg hneg]; rfl
        clear hn hsz
        generalize szT (KD, KEY, VS) x = y at *
        go_wp2_with fail
        refine (Hcon.out _ (by exact Hs3.out)).mono ?_
        rintro e w1 ⟨rfl, hb⟩
        go_wp2
        go_roundw
        case rel => exact ⟨k + 1, _, by omega, by go_num, rfl, by omega, by omega, hr, hbw.trans (hb.mono hbw.size)⟩
        case measure => simp [intOf]; omega
    · have e : k = ts.length := by omega
      subst e
      have hr : Hid (szTs ts (left - ts.length) = x) := by rw [← hsz.out, List.drop_length]; rfl
      clear hsz
      go_wp2
      go_ret
      exact ⟨ret_int (by rw [E.out, hr.out]), hbw⟩

theorem owns_slot {w : World} {B g n cap : Nat} {e : TypeId} {size : Nat} {xs : List Value} (h : w.ownsRow B e size (.slice (some ⟨g, 0, none⟩) n cap) n xs) : g < w.heap.size := by
  rcases h.2 with ⟨h, _⟩ | ⟨g', cap', cur, h, _, hh, _⟩
  · cases h
  · cases h; exact (Array.getElem?_eq_some_iff.1 hh).1
theorem owns_at_set {w : World} {B : Nat} {e : TypeId} {size : Nat} {v : Value} {n : Nat} {xs : List Value} {p : Addr} {u : Value} (h : w.ownsRow B e size v n xs) (hp : p.block < B) : (w.setCell p u).ownsRow B e size v n xs := ownsRow_setCell_below h hp u

theorem toTerm_any (kd : Int) (key : ByteArray) (ss : List ByteArray) (a : Option Addr) (cap : Nat) (w : World) (hl : ss.length ≤ 1048576) (hrow : strOf w a ss) :
    Calls Try.prog 143 #[.agg #[.int .i64 kd, .string key, .slice a ss.length cap]] w fun e w' => ∃ g, w.heap.size ≤ g ∧ e = .returned (.agg #[.int .i64 kd, .string key, .slice (some ⟨g, 0, none⟩) ss.length ss.length]) ∧
      w'.ownsRow w.heap.size 9 1 (.slice (some ⟨g, 0, none⟩) ss.length ss.length) ss.length (strVs ss) ∧ Below w.heap.size w w' := by
  have Hr := hide hrow
  clear hrow
  have hcon : ∀ wx, Below w.heap.size w wx → Calls Try.prog 69 #[.slice a ss.length cap] wx fun e w' => e = .returned (.slice (some ⟨wx.heap.size, 0, none⟩) ss.length ss.length) ∧
      Hid (w'.ownsRow wx.heap.size 9 1 (.slice (some ⟨wx.heap.size, 0, none⟩) ss.length ss.length) ss.length (strVs ss)) ∧ Below wx.heap.size wx w' :=
    fun wx hx => toStringS_any a cap ss wx hl (Hr.out.below hx)
  have Hcon := hide hcon
  clear hcon
  go_enter Try.func143, Try.ntmps143
  go_wp2_with fail
  refine (Hcon.out _ ((((Below.refl _ _).alloc (by simp) _).alloc (by simp) _).alloc (by simp; omega) _)).mono ?_
  rintro e w1 ⟨rfl, ho1, hb1⟩
  have c0 : w1.cell? ⟨w.heap.size + 1 + 1, 0, none⟩ = some (.int .i64 kd) := (hb1.cell (p := ⟨w.heap.size + 1 + 1, 0, none⟩) (by simp)).trans (by simp [go_sem])
  have c1 : w1.cell? ⟨w.heap.size + 1 + 1, 1, none⟩ = some (.string key) := (hb1.cell (p := ⟨w.heap.size + 1 + 1, 1, none⟩) (by simp)).trans (by simp [go_sem])
  have c2 : w1.cell? ⟨w.heap.size + 1 + 1, 2, none⟩ = some (.slice none 0 0) := (hb1.cell (p := ⟨w.heap.size + 1 + 1, 2, none⟩) (by simp)).trans (by simp [go_sem])
  have d0 : w1.cell? ⟨w.heap.size + 1, 0, none⟩ = some (.int .i64 0) := (hb1.cell (p := ⟨w.heap.size + 1, 0, none⟩) (by simp)).trans (by simp [go_sem])
  have e0 : w1.frozen? ⟨w.heap.size + 1, 0, none⟩ = false := (hb1.frozen (p := ⟨w.heap.size + 1, 0, none⟩) (by simp)).trans (by simp [go_sem])
  have d1 : w1.cell? ⟨w.heap.size + 1, 1, none⟩ = some (.string ⟨#[]⟩) := (hb1.cell (p := ⟨w.heap.size + 1, 1, none⟩) (by simp)).trans (by simp [go_sem])
  have e1 : w1.frozen? ⟨w.heap.size + 1, 1, none⟩ = false := (hb1.frozen (p := ⟨w.heap.size + 1, 1, none⟩) (by simp)).trans (by simp [go_sem])
  have d2 : w1.cell? ⟨w.heap.size + 1, 2, none⟩ = some (.slice none 0 0) := (hb1.cell (p := ⟨w.heap.size + 1, 2, none⟩) (by simp)).trans (by simp [go_sem])
  have e2 : w1.frozen? ⟨w.heap.size + 1, 2, none⟩ = false := (hb1.frozen (p := ⟨w.heap.size + 1, 2, none⟩) (by simp)).trans (by simp [go_sem])
  have f2 : w1.frozen? ⟨w.heap.size + 1 + 1, 2, none⟩ = false := (hb1.frozen (p := ⟨w.heap.size + 1 + 1, 2, none⟩) (by simp)).trans (by simp [go_sem])
  have Ho1 := hide ho1.out
  have Hb1 := hide hb1
  clear ho1 hb1
  simp only [World.size_alloc] at Ho1
  go_wp2
  refine bodyPost_ret (v := .agg #[.int .i64 kd, .string key, .slice (some ⟨w.heap.size + 1 + 1 + 1, 0, none⟩) ss.length ss.length]) ?_ rfl ⟨_, ?_, rfl, ?_, ?_⟩
  · simp [results, Try.results143, go_sem, d0, d1, d2]
  · omega
  · exact owns_mono (owns_at_set (owns_at_set (owns_at_set (owns_at_set Ho1.out (by simp)) (by simp)) (by simp)) (by simp)) (by omega)
  · exact ((((((((Below.refl _ _).alloc (by simp) _).alloc (by simp) _).alloc (by simp; omega) _).trans (Hb1.out.mono (by simp; omega))).setCell (by simp; omega) _).setCell (by simp) _).setCell (by simp) _).setCell (by simp) _

theorem Try.infoTerm : (Try.prog.info? 199).map (fun i => (i.zero, i.size, i.bytes)) = some (some (.agg #[.int .i64 0, .string ByteArray.empty, .slice none 0 0]), 3, 48) := by kernel_rfl
/-- place j of a row of cells holds a term whose strings the call owns -/
def termIs (w : World) (B : Nat) (xs : List Value) (j : Nat) (t : TD) : Prop :=
  xs[j * 3]? = some (.int .i64 t.1) ∧ xs[j * 3 + 1]? = some (.string t.2.1) ∧ ∃ g, xs[j * 3 + 2]? = some (.slice (some ⟨g, 0, none⟩) t.2.2.length t.2.2.length) ∧
    w.ownsRow B 9 1 (.slice (some ⟨g, 0, none⟩) t.2.2.length t.2.2.length) t.2.2.length (strVs t.2.2)
theorem termIs.below {w w' : World} {B : Nat} {xs : List Value} {j : Nat} {t : TD} (h : termIs w B xs j t) (hb : Below w.heap.size w w') : termIs w' B xs j t := by
  obtain ⟨h0, h1, g, h2, h3⟩ := h
  exact ⟨h0, h1, g, h2, owns_below h3 hb⟩
theorem termIs.set {w : World} {B : Nat} {xs : List Value} {j : Nat} {t : TD} {p : Addr} {u : Value} (h : termIs w B xs j t) (hp : p.block < B) : termIs (w.setCell p u) B xs j t := by
  obtain ⟨h0, h1, g, h2, h3⟩ := h
  exact ⟨h0, h1, g, h2, owns_at_set h3 hp⟩
theorem termsOf_owns {w : World} {B B' g n cap : Nat} {e : TypeId} {xs : List Value} {ts : List TD} (h : w.ownsRow B e 3 (.slice (some ⟨g, 0, none⟩) n cap) n xs) (hn : n = ts.length) (ht : ∀ j (hj : j < ts.length), termIs w B' xs j ts[j]) : termsOf w (some ⟨g, 0, none⟩) ts := by
  intro _
  refine ⟨g, 0, rfl, fun i hi => ?_⟩
  obtain ⟨h0, h1, g', h2, h3⟩ := ht i hi
  subst hn
  rw [Nat.zero_add]
  exact ⟨(h.cellAt _ (by omega)).trans h0, (h.cellAt _ (by omega)).trans h1, _, _, (h.cellAt _ (by omega)).trans h2, strOf_owns h3, Nat.le_refl _, fun h => by cases h⟩
set_option maxHeartbeats 400000 in
theorem toTermS_any (a : Option Addr) (cap : Nat) (ts : List TD) (w : World) (hl : ts.length ≤ 1048576) (hz : ∀ t ∈ ts, t.2.2.length ≤ 1048576) (hrow : termsOf w a ts) :
    Calls Try.prog 68 #[.slice a ts.length cap] w fun e w' => ∃ xs, e = .returned (.slice (some ⟨w.heap.size, 0, none⟩) ts.length ts.length) ∧
      w'.ownsRow w.heap.size 199 3 (.slice (some ⟨w.heap.size, 0, none⟩) ts.length ts.length) ts.length xs ∧ (∀ j (hj : j < ts.length), termIs w' (w.heap.size + 1) xs j ts[j]) ∧ Below w.heap.size w w' := by
  obtain ⟨i0, hi, hz0, hz1, hz2⟩ := info_parts Try.infoTerm
  have Hr := hide hrow
  have Hz := hide hz
  clear hrow hz
  go_enter Try.func68, Try.ntmps68
  go_wp2_with (at_make; refine wpList_make_full _ rfl _ _ 38 rfl w.heap.size 199 i0 _ 3 Try.underlying38 hi hz0 hz1 _ _ _ _ ts.length rfl rfl rfl rfl (by rw [hz2]; omega) (by unfold maxLen; omega) (Nat.le_refl _) ?_; intro w1 hown hgrow)
  go_loopw [4] (fun i wr => ∃ (k : Nat) (xs : List Value), k ≤ ts.length ∧ i = .int .i64 k ∧ wr.ownsRow w.heap.size 199 3 (.slice (some ⟨w.heap.size, 0, none⟩) ts.length ts.length) ts.length xs ∧
      Hid (∀ j (hj : j < ts.length), j < k → termIs wr (w.heap.size + 1) xs j ts[j]) ∧ Below w.heap.size w wr) (fun i _ => ts.length - (intOf i).toNat)
  case atStart => exact ⟨0, _, Nat.zero_le _, rfl, hown, fun j _ hj => by omega, Below.grown (Below.refl _ _) hgrow (Nat.le_refl _) (fun k hk => by cases hk)⟩
  case round =>
    obtain ⟨k, xs, hk, rfl, how, Hx, hbw⟩ := hrel
    clear hown hgrow
    by_cases hlt : k < ts.length
    · obtain ⟨b, off, rfl, hat⟩ := Hr.out (by omega)
      obtain ⟨h0c, h1c, av, capv, h2c, h3c⟩ := (hat k hlt).below hbw
      have hz := (Hz.out _ (List.getElem_mem hlt))
      obtain ⟨KD, KEY, VS, hkv⟩ : ∃ KD KEY VS, ts[k]'hlt = (KD, KEY, VS) := ⟨_, _, _, rfl⟩
      rw [hkv] at h0c h1c h2c h3c hz
      have Hkv := hide hkv
      clear hat hkv
      simp only at h0c h1c h2c h3c hz
      have hxl : xs.length = ts.length * 3 := how.1
      have Hxl := hide hxl
      have hw0 : w.heap.size < wr.heap.size := owns_slot how
      obtain ⟨o0, g0⟩ : ∃ o, xs[k * 3]? = some o := ⟨_, List.getElem?_eq_getElem (by omega)⟩
      obtain ⟨o1, g1⟩ : ∃ o, xs[k * 3 + 1]? = some o := ⟨_, List.getElem?_eq_getElem (by omega)⟩
      obtain ⟨o2, g2⟩ : ∃ o, xs[k * 3 + 2]? = some o := ⟨_, List.getElem?_eq_getElem (by omega)⟩
      have How := hide how
      have G0 := hide g0
      have G1 := hide g1
      have G2 := hide g2
      have Hs3 := hide h3c.1
      clear how g0 g1 g2 hxl h3c
      go_wp2_with fail
      refine (toTerm_any KD KEY VS av capv _ hz (by exact Hs3.out)).mono ?_
      rintro e w2 ⟨g, hg, rfl, ho2, hb2⟩
      have how2 := owns_below How.out hb2
      have q0 : w2.cell? ⟨w.heap.size, k * 3, none⟩ = some o0 := (how2.cellAt _ (by omega)).trans G0.out
      have q1 : w2.cell? ⟨w.heap.size, k * 3 + 1, none⟩ = some o1 := (how2.cellAt _ (by omega)).trans G1.out
      have q2 : w2.cell? ⟨w.heap.size, k * 3 + 2, none⟩ = some o2 := (how2.cellAt _ (by omega)).trans G2.out
      have f0 := how2.frozenAt (k * 3)
      have f1 := how2.frozenAt (k * 3 + 1)
      have f2 := how2.frozenAt (k * 3 + 2)
      have S0 := hide (((how2.stored (k * 3) (.int .i64 KD)).1.stored (k * 3 + 1) (.string KEY)).1.stored (k * 3 + 2) (.slice (some ⟨g, 0, none⟩) VS.length VS.length)).1
      have Ho2 := hide (owns_mono ho2 (B' := w.heap.size + 1) (by omega))
      have Hb2 := hide hb2
      clear how2 ho2 hb2 hg
      go_wp2
      go_roundw
      case rel => exact ⟨k + 1, _, by omega, by go_num, S0.out, (by
          intro j hj hjk
          have hl := Hxl.out
          by_cases e0 : j = k
          · subst e0
            rw [Hkv.out]
            refine ⟨?_, ?_, g, ?_, owns_at_set (owns_at_set (owns_at_set Ho2.out (by simp)) (by simp)) (by simp)⟩
            · rw [List.getElem?_set_ne (by omega), List.getElem?_set_ne (by omega), List.getElem?_set_self (by omega)]
            · rw [List.getElem?_set_ne (by omega), List.getElem?_set_self (by simp; omega)]
            · rw [List.getElem?_set_self (by simp; omega)]
          · have h := ((((Hx.out j hj (by omega)).below Hb2.out).set (p := ⟨w.heap.size, k * 3, none⟩) (u := .int .i64 KD) (by simp)).set (p := ⟨w.heap.size, k * 3 + 1, none⟩) (u := .string KEY) (by simp)).set (p := ⟨w.heap.size, k * 3 + 2, none⟩) (u := .slice (some ⟨g, 0, none⟩) VS.length VS.length) (by simp)
            obtain ⟨h0, h1, g', h2, h3⟩ := h
            refine ⟨?_, ?_, g', ?_, h3⟩
            · rw [List.getElem?_set_ne (by omega), List.getElem?_set_ne (by omega), List.getElem?_set_ne (by omega)]; exact h0
            · rw [List.getElem?_set_ne (by omega), List.getElem?_set_ne (by omega), List.getElem?_set_ne (by omega)]; exact h1
            · rw [List.getElem?_set_ne (by omega), List.getElem?_set_ne (by omega), List.getElem?_set_ne (by omega)]; exact h2),
        (((hbw.trans (Hb2.out.mono hbw.size)).setCell (Nat.le_refl _) _).setCell (Nat.le_refl _) _).setCell (Nat.le_refl _) _⟩
      case measure => simp [intOf]; omega
    · have e : k = ts.length := by omega
      subst e
      go_wp2
      go_ret
      exact ⟨xs, rfl, how, fun j hj => Hx.out j hj hj, hbw⟩
theorem toTermS_row (a : Option Addr) (cap : Nat) (ts : List TD) (w : World) (hl : ts.length ≤ 1048576) (hz : ∀ t ∈ ts, t.2.2.length ≤ 1048576) (hrow : termsOf w a ts) :
    Calls Try.prog 68 #[.slice a ts.length cap] w fun e w' => ∃ g, e = .returned (.slice (some ⟨g, 0, none⟩) ts.length ts.length) ∧ termsOf w' (some ⟨g, 0, none⟩) ts ∧ Below w.heap.size w w' :=
  (toTermS_any a cap ts w hl hz hrow).mono fun _ _ ⟨xs, h1, h2, h3, h4⟩ => ⟨_, h1, termsOf_owns h2 rfl h3, h4⟩
end Go.Proofs.Ytdnodaoeflbfkaa
