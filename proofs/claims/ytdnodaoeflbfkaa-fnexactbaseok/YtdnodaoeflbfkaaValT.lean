/- Values: trees of a head and kids, by their depth; plain facts of them, no walk. -/
import Derived.Test.YtdnodaoeflbfkaaStrs
namespace Go.Proofs.Ytdnodaoeflbfkaa
open Go.RowKit
set_option linter.unusedVariables false

structure VH where
  kd : Int
  tx : ByteArray
  nm : Int
  ks : List ByteArray
/-- a value's tree, at most n deep -/
def VT : Nat → Type
  | 0 => Empty
  | n + 1 => VH × List (VT n)
def VT.hd {n : Nat} (v : VT (n + 1)) : VH := Prod.fst v
def VT.kids {n : Nat} (v : VT (n + 1)) : List (VT n) := Prod.snd v
def VT.mk {n : Nat} (h : VH) (l : List (VT n)) : VT (n + 1) := (Prod.mk h l : VH × List (VT n))
theorem VT.parts {n : Nat} (v : VT (n + 1)) : ∃ kd tx nm ks kids, v = VT.mk ⟨kd, tx, nm, ks⟩ kids := by
  obtain ⟨⟨a, b, c, d⟩, l⟩ := v
  exact ⟨a, b, c, d, l, rfl⟩
theorem VT.hd_mk {n : Nat} (h : VH) (l : List (VT n)) : (VT.mk h l).hd = h := rfl
theorem VT.kids_mk {n : Nat} (h : VH) (l : List (VT n)) : (VT.mk h l).kids = l := rfl

/-- rows of things of five cells, and of strings, in blocks from B on -/
def row5 {α : Type} (B : Nat) (P : Nat → Nat → α → Prop) (a : Option Addr) (vs : List α) : Prop := 0 < vs.length → ∃ b off, a = some ⟨b, off, none⟩ ∧ B ≤ b ∧ ∀ i (h : i < vs.length), P b (off + i * 5) (vs[i]'h)
def strB (w : World) (B : Nat) (a : Option Addr) (ss : List ByteArray) : Prop := 0 < ss.length → ∃ b off, a = some ⟨b, off, none⟩ ∧ B ≤ b ∧ strAt w b off ss
theorem strB.of {w : World} {B : Nat} {a : Option Addr} {ss : List ByteArray} (h : strB w B a ss) : strOf w a ss := fun hl => by
  obtain ⟨b, off, e, _, hr⟩ := h hl
  exact ⟨b, off, e, hr⟩
theorem strB.zero {w : World} {a : Option Addr} {ss : List ByteArray} (h : strOf w a ss) : strB w 0 a ss := fun hl => by
  obtain ⟨b, off, e, hr⟩ := h hl
  exact ⟨b, off, e, Nat.zero_le _, hr⟩
/-- what a slice is told by beside its cells -/
def fits (a : Option Addr) (n cap : Nat) : Prop := n ≤ cap ∧ (a = none → cap = 0)
def vatAt (w : World) (B : Nat) : (n : Nat) → Nat → Nat → VT n → Prop
  | 0, _, _, _ => False
  | n + 1, b, o, v => w.cell? ⟨b, o, none⟩ = some (.int .i64 v.hd.kd) ∧ w.cell? ⟨b, o + 1, none⟩ = some (.string v.hd.tx) ∧ w.cell? ⟨b, o + 2, none⟩ = some (.int .i64 v.hd.nm) ∧
    (∃ a cap, w.cell? ⟨b, o + 3, none⟩ = some (.slice a v.hd.ks.length cap) ∧ strB w B a v.hd.ks ∧ fits a v.hd.ks.length cap) ∧
    ∃ a cap, w.cell? ⟨b, o + 4, none⟩ = some (.slice a v.kids.length cap) ∧ row5 B (vatAt w B n) a v.kids ∧ fits a v.kids.length cap
def valsOf (w : World) (B n : Nat) (a : Option Addr) (vs : List (VT n)) : Prop := row5 B (vatAt w B n) a vs
/-- a value in hand -/
def valArg (w : World) (B : Nat) : (n : Nat) → Value → VT n → Prop
  | 0, _, _ => False
  | n + 1, x, v => ∃ a cap a' cap', x = .agg #[.int .i64 v.hd.kd, .string v.hd.tx, .int .i64 v.hd.nm, .slice a v.hd.ks.length cap, .slice a' v.kids.length cap'] ∧
    (strB w B a v.hd.ks ∧ fits a v.hd.ks.length cap) ∧ valsOf w B n a' v.kids ∧ fits a' v.kids.length cap'
/-- what two worlds have in common -/
def Keeps (B : Nat) (w w' : World) : Prop := ∀ (b o : Nat) v, B ≤ b → w.cell? ⟨b, o, none⟩ = some v → w'.cell? ⟨b, o, none⟩ = some v
theorem Keeps.below {w w' : World} {B : Nat} (hb : Below w.heap.size w w') : Keeps B w w' := fun b o v _ h => (hb.cell (p := ⟨b, o, none⟩) (World.block_lt_of_cell? _ _ h)).trans h
theorem Keeps.set {w : World} {B : Nat} {p : Addr} (u : Value) (hp : p.block < B) : Keeps B w (w.setCell p u) := fun b o v hB h => by
  rw [← h]; apply World.cell?_setCell_other; rintro rfl; simp only at hp; omega
theorem Keeps.refl (B : Nat) (w : World) : Keeps B w w := fun _ _ _ _ h => h
theorem Keeps.trans {w w' w2 : World} {B : Nat} (h : Keeps B w w') (k : Keeps B w' w2) : Keeps B w w2 := fun b o v hB e => k b o v hB (h b o v hB e)
theorem Keeps.setR {w w' : World} {B : Nat} {p : Addr} {u : Value} (h : Keeps B w w') (hp : p.block < B) : Keeps B w (w'.setCell p u) := h.trans (Keeps.set u hp)
theorem strB.keeps {w w' : World} {B : Nat} {a : Option Addr} {ss : List ByteArray} (h : strB w B a ss) (hk : Keeps B w w') : strB w' B a ss := fun hl => by
  obtain ⟨b, off, e, hB, hr⟩ := h hl
  exact ⟨b, off, e, hB, fun i hi => hk _ _ _ hB (hr i hi)⟩
theorem vatAt.keeps {w w' : World} {B : Nat} (hk : Keeps B w w') : ∀ (n b o : Nat) (v : VT n), B ≤ b → vatAt w B n b o v → vatAt w' B n b o v
  | 0, _, _, _, _, h => h.elim
  | n + 1, b, o, v, hB, ⟨h0, h1, h2, ⟨a, cap, h3, h4, h5⟩, a', cap', h6, h7, h8⟩ =>
    ⟨hk _ _ _ hB h0, hk _ _ _ hB h1, hk _ _ _ hB h2, ⟨a, cap, hk _ _ _ hB h3, h4.keeps hk, h5⟩,
      a', cap', hk _ _ _ hB h6, fun hl => by
        obtain ⟨b', off, e, hB', hr⟩ := h7 hl
        exact ⟨b', off, e, hB', fun i hi => vatAt.keeps hk n _ _ _ hB' (hr i hi)⟩, h8⟩
theorem valsOf.keeps {w w' : World} {B n : Nat} {a : Option Addr} {vs : List (VT n)} (h : valsOf w B n a vs) (hk : Keeps B w w') : valsOf w' B n a vs := by
  intro hl
  obtain ⟨b, off, e, hB, hr⟩ := h hl
  exact ⟨b, off, e, hB, fun i hi => vatAt.keeps hk n _ _ _ hB (hr i hi)⟩
theorem valArg.keeps {w w' : World} {B : Nat} (hk : Keeps B w w') : ∀ {n : Nat} {x : Value} {v : VT n}, valArg w B n x v → valArg w' B n x v
  | 0, _, _, h => h.elim
  | n + 1, x, v, ⟨a, cap, a', cap', e, ⟨h1, h2⟩, h3, h4⟩ => ⟨a, cap, a', cap', e, ⟨h1.keeps hk, h2⟩, h3.keeps hk, h4⟩
theorem vatAt.below {w w' : World} (hb : Below w.heap.size w w') {n b o : Nat} {v : VT n} (h : vatAt w 0 n b o v) : vatAt w' 0 n b o v := vatAt.keeps (Keeps.below hb) n b o v (Nat.zero_le _) h
theorem valsOf.below {w w' : World} {B n : Nat} {a : Option Addr} {vs : List (VT n)} (h : valsOf w B n a vs) (hb : Below w.heap.size w w') : valsOf w' B n a vs := h.keeps (Keeps.below hb)
theorem valArg.below {w w' : World} {B n : Nat} {x : Value} {v : VT n} (h : valArg w B n x v) (hb : Below w.heap.size w w') : valArg w' B n x v := h.keeps (Keeps.below hb)
theorem strB.mono {w : World} {B B' : Nat} {a : Option Addr} {ss : List ByteArray} (h : strB w B a ss) (hB : B' ≤ B) : strB w B' a ss := fun hl => by
  obtain ⟨b, off, e, hb, hr⟩ := h hl
  exact ⟨b, off, e, by omega, hr⟩
theorem vatAt.mono {w : World} {B B' : Nat} (hB : B' ≤ B) : ∀ (n b o : Nat) (v : VT n), vatAt w B n b o v → vatAt w B' n b o v
  | 0, _, _, _, h => h.elim
  | n + 1, b, o, v, ⟨h0, h1, h2, ⟨a, cap, h3, h4, h5⟩, a', cap', h6, h7, h8⟩ =>
    ⟨h0, h1, h2, ⟨a, cap, h3, h4.mono hB, h5⟩, a', cap', h6, fun hl => by
        obtain ⟨b', off, e, hB', hr⟩ := h7 hl
        exact ⟨b', off, e, by omega, fun i hi => vatAt.mono hB n _ _ _ (hr i hi)⟩, h8⟩
theorem valsOf.mono {w : World} {B B' n : Nat} {a : Option Addr} {vs : List (VT n)} (h : valsOf w B n a vs) (hB : B' ≤ B) : valsOf w B' n a vs := by
  intro hl
  obtain ⟨b, off, e, hB', hr⟩ := h hl
  exact ⟨b, off, e, by omega, fun i hi => vatAt.mono hB n _ _ _ (hr i hi)⟩
theorem valArg.mono {w : World} {B B' : Nat} (hB : B' ≤ B) : ∀ {n : Nat} {x : Value} {v : VT n}, valArg w B n x v → valArg w B' n x v
  | 0, _, _, h => h.elim
  | n + 1, x, v, ⟨a, cap, a', cap', e, ⟨h1, h2⟩, h3, h4⟩ => ⟨a, cap, a', cap', e, ⟨h1.mono hB, h2⟩, h3.mono hB, h4⟩

/-- sizes that a machine has -/
def okVT : (n : Nat) → VT n → Prop
  | 0, _ => True
  | n + 1, v => v.hd.tx.size ≤ maxLen ∧ v.hd.ks.length ≤ maxLen ∧ okStrs v.hd.ks ∧ v.kids.length ≤ maxLen ∧ ∀ x ∈ v.kids, okVT n x
def okVTs (n : Nat) (vs : List (VT n)) : Prop := ∀ x ∈ vs, okVT n x
/-- sizes that a law's measure lets -/
def smVT : (n : Nat) → VT n → Prop
  | 0, _ => True
  | n + 1, v => v.hd.tx.size ≤ 1048576 ∧ v.hd.ks.length ≤ 1048576 ∧ (∀ s ∈ v.hd.ks, s.size ≤ 1048576) ∧ v.kids.length ≤ 1048576 ∧ ∀ x ∈ v.kids, smVT n x
def smVTs (n : Nat) (vs : List (VT n)) : Prop := ∀ x ∈ vs, smVT n x
theorem smVT.ok : ∀ (n : Nat) (v : VT n), smVT n v → okVT n v
  | 0, _, _ => trivial
  | n + 1, v, ⟨h0, h1, h2, h3, h4⟩ => ⟨by unfold maxLen; omega, by unfold maxLen; omega, fun s hs => by have := h2 s hs; unfold maxLen; omega, by unfold maxLen; omega, fun x hx => smVT.ok n x (h4 x hx)⟩

/-- what a law measures -/
def szL {α : Type} (f : α → Int → Int) : List α → Int → Int
  | [], l => l
  | t :: r, l => if f t l < 0 then -1 else szL f r (f t l)
def szRow {α : Type} (f : α → Int → Int) (ts : List α) (left : Int) : Int := if left - ts.length < 0 then -1 else szL f ts (left - ts.length)
def szV : (n : Nat) → VT n → Int → Int
  | 0, _, l => l
  | n + 1, v, l => if l - v.hd.tx.size < 0 then -1 else if szSS v.hd.ks (l - v.hd.tx.size) < 0 then -1 else if szRow (szV n) v.kids (szSS v.hd.ks (l - v.hd.tx.size)) < 0 then -1 else szRow (szV n) v.kids (szSS v.hd.ks (l - v.hd.tx.size))
theorem szL_le {α : Type} {f : α → Int → Int} (hf : ∀ x l, f x l ≤ l ∨ f x l = -1) : ∀ (ts : List α) (l : Int), szL f ts l ≤ l ∨ szL f ts l = -1
  | [], l => .inl (Int.le_refl _)
  | t :: r, l => by
    unfold szL
    split
    · exact .inr rfl
    · rcases szL_le hf r (f t l) with h | h
      · rcases hf t l with h' | h'
        · left; omega
        · left; omega
      · exact .inr h
theorem szRow_le {α : Type} {f : α → Int → Int} (hf : ∀ x l, f x l ≤ l ∨ f x l = -1) (ts : List α) (l : Int) : szRow f ts l ≤ l ∨ szRow f ts l = -1 := by
  unfold szRow
  split
  · exact .inr rfl
  · rcases szL_le hf ts (l - ts.length) with h | h
    · left; omega
    · exact .inr h
theorem vszStrs_le : ∀ (ss : List ByteArray) (l : Int), szStrs ss l ≤ l ∨ szStrs ss l = -1
  | [], l => .inl (Int.le_refl _)
  | s :: r, l => by
    unfold szStrs
    split
    · exact .inr rfl
    · rcases vszStrs_le r (l - s.size) with h | h
      · left; omega
      · exact .inr h
theorem vszSS_le (ss : List ByteArray) (l : Int) : szSS ss l ≤ l ∨ szSS ss l = -1 := by
  unfold szSS
  split
  · exact .inr rfl
  · rcases vszStrs_le ss (l - ss.length) with h | h
    · left; omega
    · exact .inr h
theorem szV_le : ∀ (n : Nat) (v : VT n) (l : Int), szV n v l ≤ l ∨ szV n v l = -1
  | 0, v, _ => nomatch v
  | n + 1, v, l => by
    unfold szV
    have h1 := vszSS_le v.hd.ks (l - v.hd.tx.size)
    have h2 := szRow_le (szV_le n) v.kids (szSS v.hd.ks (l - v.hd.tx.size))
    split
    · exact .inr rfl
    · split
      · exact .inr rfl
      · split
        · exact .inr rfl
        · left; omega
theorem szL_drop {α : Type} (f : α → Int → Int) (ts : List α) (k : Nat) (h : k < ts.length) (l : Int) : szL f (ts.drop k) l = if f (ts[k]'h) l < 0 then -1 else szL f (ts.drop (k + 1)) (f (ts[k]'h) l) := by
  rw [List.drop_eq_getElem_cons h]; rfl
theorem vszStrs_ok : ∀ (ss : List ByteArray) (l : Int), 0 ≤ l → ¬ szStrs ss l < 0 → ∀ s ∈ ss, (s.size : Int) ≤ l
  | [], l, _, _, s, hs => by simp at hs
  | x :: r, l, h0, h, s, hs => by
    unfold szStrs at h
    split at h
    · omega
    · rcases List.mem_cons.1 hs with rfl | hs
      · omega
      · have := vszStrs_ok r (l - x.size) (by omega) h s hs; omega
theorem vszSS_ok {ss : List ByteArray} {l : Int} (h : ¬ szSS ss l < 0) : (ss.length : Int) ≤ l ∧ ∀ s ∈ ss, (s.size : Int) ≤ l := by
  unfold szSS at h
  split at h
  · omega
  · exact ⟨by omega, fun s hs => by have := vszStrs_ok ss (l - ss.length) (by omega) h s hs; omega⟩
theorem szL_ok {α : Type} {f : α → Int → Int} {Q : α → Prop} (hle : ∀ x l, f x l ≤ l ∨ f x l = -1) (hf : ∀ x l, l ≤ 1048576 → ¬ f x l < 0 → Q x) : ∀ (ts : List α) (l : Int), l ≤ 1048576 → ¬ szL f ts l < 0 → ∀ x ∈ ts, Q x
  | [], l, _, _, x, hx => by simp at hx
  | t :: r, l, hl, h, x, hx => by
    unfold szL at h
    split at h
    · omega
    · rename_i ht
      rcases List.mem_cons.1 hx with rfl | hx
      · exact hf _ _ hl ht
      · have := hle t l
        exact szL_ok hle hf r _ (by omega) h x hx
theorem szRow_ok {α : Type} {f : α → Int → Int} {Q : α → Prop} (hle : ∀ x l, f x l ≤ l ∨ f x l = -1) (hf : ∀ x l, l ≤ 1048576 → ¬ f x l < 0 → Q x) {ts : List α} {l : Int} (hl : l ≤ 1048576) (h : ¬ szRow f ts l < 0) : ts.length ≤ 1048576 ∧ ∀ x ∈ ts, Q x := by
  unfold szRow at h
  split at h
  · omega
  · exact ⟨by omega, szL_ok hle hf ts _ (by omega) h⟩
theorem szV_ok : ∀ (n : Nat) (v : VT n) (l : Int), l ≤ 1048576 → ¬ szV n v l < 0 → smVT n v
  | 0, v, _, _, _ => nomatch v
  | n + 1, v, l, hl, h => by
    have hle := vszSS_le v.hd.ks (l - v.hd.tx.size)
    unfold szV at h
    split at h
    · omega
    · split at h
      · omega
      · rename_i h1
        have h2 := vszSS_ok h1
        split at h
        · omega
        · have h3 := szRow_ok (szV_le n) (szV_ok n) (by omega) h
          exact ⟨by omega, by omega, fun s hs => by have := h2.2 s hs; omega, h3.1, h3.2⟩
/-- alike, all through -/
def eqL {α : Type} (f : α → α → Bool) : List α → List α → Bool
  | [], [] => true
  | x :: r, y :: s => f x y && eqL f r s
  | _, _ => false
def eqVT : (n : Nat) → VT n → VT n → Bool
  | 0, _, _ => true
  | n + 1, u, v => decide (u.hd.kd = v.hd.kd) && decide (u.hd.tx = v.hd.tx) && decide (u.hd.nm = v.hd.nm) && decide (u.hd.ks = v.hd.ks) && eqL (eqVT n) u.kids v.kids
theorem eqL_refl {α : Type} {f : α → α → Bool} (h : ∀ x, f x x = true) : ∀ l : List α, eqL f l l = true
  | [] => rfl
  | x :: r => by unfold eqL; rw [h x, eqL_refl h r]; rfl
theorem eqVT_refl : ∀ (n : Nat) (v : VT n), eqVT n v v = true
  | 0, v => nomatch v
  | n + 1, v => by unfold eqVT; simp [eqL_refl (eqVT_refl n)]
theorem eqL_len {α : Type} {f : α → α → Bool} : ∀ {l m : List α}, l.length ≠ m.length → eqL f l m = false
  | [], [], h => (h rfl).elim
  | [], _ :: _, _ => rfl
  | _ :: _, [], _ => rfl
  | x :: r, y :: s, h => by unfold eqL; rw [eqL_len (l := r) (m := s) (by simpa using h), Bool.and_false]
theorem eqL_drop {α : Type} {f : α → α → Bool} {l m : List α} {k : Nat} (h : k < l.length) (h' : k < m.length) : eqL f (l.drop k) (m.drop k) = (f (l[k]'h) (m[k]'h') && eqL f (l.drop (k + 1)) (m.drop (k + 1))) := by
  rw [List.drop_eq_getElem_cons h, List.drop_eq_getElem_cons h']; rfl
end Go.Proofs.Ytdnodaoeflbfkaa
