/- Texts of one claim, joined: each in its own section, in build order. -/
import Derived.Below
import Derived.OneCell
import Derived.OwnWalk
import Derived.Deep.AppendLies
import Derived.WideShapes
import Derived.WalkKit
import Derived.Deep.RegionLaw
import Derived.Laws.IdiomCopy
import Derived.Laws.OwnMore
import Derived.Maps.AppendAt
import Derived.Deep.MidRow
import Derived.Test.YtddojjigijfgbaaChecked
import Derived.WalkSpells
import Derived.WalkLawsBesides
import Derived.Lib.OthersKept
import Derived.BigQuiet
import Derived.Deep.QuietTactic
import Derived.Lib.Strings
import Derived.Outline
import Derived.Deep.RegionWith
/- Data as cells: what an argument or an answer of the document's types is in memory: plain cells, and slices of cells. -/
namespace Go.Proofs.Ytddojjigijfgbaa
open Go.RowKit
set_option linter.unusedVariables false

theorem uhide {p : Prop} (h : p) : Hid p := h
/-- outside a range of blocks all is as it was -/
structure OutR (lo hi : Nat) (w w' : World) : Prop where
  os : w'.os = w.os
  tape : w'.tape = w.tape
  output : w'.output = w.output
  size : w.heap.size ≤ w'.heap.size
  block : ∀ k, k < w.heap.size → (k < lo ∨ hi ≤ k) → w'.heap[k]? = w.heap[k]?
theorem OutR.cell {lo hi : Nat} {a b : World} (h : OutR lo hi a b) {p : Addr} (hp : p.block < a.heap.size) (hr : p.block < lo ∨ hi ≤ p.block) : b.cell? p = a.cell? p := World.cell?_of_block (w := a) (h.block p.block hp hr)
theorem OutR.below {lo hi : Nat} {a b : World} (h : OutR lo hi a b) {B : Nat} (hB : B ≤ lo) (hs : B ≤ a.heap.size) : Below B a b := ⟨h.os, h.tape, h.output, h.size, fun k hk => h.block k (by omega) (by omega)⟩
theorem uowns_blk {w : World} {B n : Nat} {v : Value} {e : TypeId} {size : Nat} {xs : List Value} (h : w.ownsRow B e size v n xs) {g : Nat} (hg : v.ownBlock = some g) : B ≤ g ∧ g < w.heap.size := by
  rcases h.2 with ⟨h, _⟩ | ⟨g', cap, cur, h, hb, hh, _⟩
  · rw [h] at hg; cases hg
  · rw [h] at hg; cases hg; exact ⟨hb, (Array.getElem?_eq_some_iff.1 hh).1⟩
/-- the texts of marks -/
def umStep (k : Nat) : ByteArray := ([48 + (k : Int) % 10]).foldl (fun r n => r.push (UInt8.ofNat n.toNat)) ByteArray.empty
def umTo : Nat → Nat → ByteArray → ByteArray
  | 0, _, s => s
  | f + 1, k, s => if k = 0 then s else umTo f (k / 10) (umStep k ++ s)
def umtx (n : Nat) : ByteArray := ⟨#[109]⟩ ++ umTo n n ⟨#[]⟩
theorem umTo_zero (f : Nat) (s : ByteArray) : umTo f 0 s = s := by cases f <;> simp [umTo]
theorem umStep_size (k : Nat) : (umStep k).size = 1 := by simp [umStep, List.foldl]

/-- cells: plain ones, and slices of n things of k cells -/
inductive UD where
  | nil
  | p (v : Value) (r : UD)
  | l (k n : Nat) (cs r : UD)
/-- one cell -/
inductive UE where
  | p (v : Value)
  | l (k n : Nat) (cs : UD)
def UD.toL : UD → List UE
  | .nil => []
  | .p v r => .p v :: r.toL
  | .l k n cs r => .l k n cs :: r.toL
def UE.cons : UE → UD → UD
  | .p v, r => .p v r
  | .l k n cs, r => .l k n cs r
def UD.ofL : List UE → UD
  | [] => .nil
  | e :: r => e.cons (UD.ofL r)
theorem UE.cons_toL (e : UE) (r : UD) : (e.cons r).toL = e :: r.toL := by cases e <;> rfl
theorem UD.toL_ofL : ∀ l : List UE, (UD.ofL l).toL = l
  | [] => rfl
  | e :: r => by unfold UD.ofL; rw [UE.cons_toL, UD.toL_ofL r]
theorem UD.ofL_toL : ∀ d : UD, UD.ofL d.toL = d
  | .nil => rfl
  | .p v r => by unfold UD.toL UD.ofL; rw [UD.ofL_toL r]; rfl
  | .l k n cs r => by unfold UD.toL UD.ofL; rw [UD.ofL_toL r]; rfl
theorem UD.ext {a b : UD} (h : a.toL = b.toL) : a = b := by rw [← UD.ofL_toL a, h, UD.ofL_toL]
def UD.len (d : UD) : Nat := d.toL.length
def UD.at? (d : UD) (i : Nat) : Option UE := d.toL[i]?
def UD.setAt (d : UD) (i : Nat) (e : UE) : UD := UD.ofL (d.toL.set i e)
def UD.app (a b : UD) : UD := UD.ofL (a.toL ++ b.toL)
def UD.takeN (d : UD) (i : Nat) : UD := UD.ofL (d.toL.take i)
def UD.dropN (d : UD) (i : Nat) : UD := UD.ofL (d.toL.drop i)
theorem UD.app_nil (a : UD) : UD.app .nil a = a := UD.ofL_toL a
theorem UD.app_p (v : Value) (a b : UD) : UD.app (.p v a) b = .p v (UD.app a b) := rfl
theorem UD.app_l (k n : Nat) (cs a b : UD) : UD.app (.l k n cs a) b = .l k n cs (UD.app a b) := rfl
theorem UD.app_toL (a b : UD) : (UD.app a b).toL = a.toL ++ b.toL := UD.toL_ofL _
theorem UD.app_take_drop (a : UD) (i : Nat) : UD.app (a.takeN i) (a.dropN i) = a := by apply UD.ext; rw [UD.app_toL]; unfold UD.takeN UD.dropN; rw [UD.toL_ofL, UD.toL_ofL, List.take_append_drop]

def uSl (a : Option Addr) (k n cap m : Nat) : Prop := n ≤ cap ∧ (a = none → cap = 0) ∧ 0 < k ∧ m = n * k
/-- cells in memory, all in blocks lo .. hi -/
def uM (w : World) (lo hi : Nat) : UD → Nat → Nat → Prop
  | .nil, _, _ => True
  | .p v r, b, o => w.cell? ⟨b, o, none⟩ = some v ∧ uM w lo hi r b (o + 1)
  | .l k n cs r, b, o => (∃ a cap, w.cell? ⟨b, o, none⟩ = some (.slice a n cap) ∧ uSl a k n cap cs.len ∧ (0 < n → ∃ b' o', a = some ⟨b', o', none⟩ ∧ lo ≤ b' ∧ b' < hi ∧ uM w lo hi cs b' o')) ∧ uM w lo hi r b (o + 1)
/-- where a slice leads -/
def uS (w : World) (lo hi : Nat) (k n : Nat) (cs : UD) (c : Value) : Prop := ∃ a cap, c = .slice a n cap ∧ uSl a k n cap cs.len ∧ (0 < n → ∃ b' o', a = some ⟨b', o', none⟩ ∧ lo ≤ b' ∧ b' < hi ∧ uM w lo hi cs b' o')
def uC (w : World) (lo hi : Nat) : UE → Value → Prop
  | .p v, c => c = v
  | .l k n cs, c => uS w lo hi k n cs c
/-- data in hand -/
def uH (w : World) (lo hi : Nat) : UD → List Value → Prop
  | .nil, xs => xs = []
  | .p v r, xs => ∃ ys, xs = v :: ys ∧ uH w lo hi r ys
  | .l k n cs r, xs => ∃ c ys, xs = c :: ys ∧ uS w lo hi k n cs c ∧ uH w lo hi r ys

def KP (lo hi : Nat) (w w' : World) : Prop := ∀ (b o : Nat) v, lo ≤ b → b < hi → w.cell? ⟨b, o, none⟩ = some v → w'.cell? ⟨b, o, none⟩ = some v
theorem uM.kp {w w' : World} {lo hi : Nat} (hk : KP lo hi w w') : ∀ (d : UD) (b o : Nat), lo ≤ b → b < hi → uM w lo hi d b o → uM w' lo hi d b o
  | .nil, _, _, _, _, _ => trivial
  | .p v r, b, o, hl, hh, h => ⟨hk _ _ _ hl hh h.1, uM.kp hk r b (o + 1) hl hh h.2⟩
  | .l k n cs r, b, o, hl, hh, ⟨⟨a, cap, h0, h1, h2⟩, h3⟩ => ⟨⟨a, cap, hk _ _ _ hl hh h0, h1, fun hn => by
      obtain ⟨b', o', e, h4, h5, h6⟩ := h2 hn
      exact ⟨b', o', e, h4, h5, uM.kp hk cs b' o' h4 h5 h6⟩⟩, uM.kp hk r b (o + 1) hl hh h3⟩
theorem uS.kp {w w' : World} {lo hi : Nat} (hk : KP lo hi w w') {k n : Nat} {cs : UD} {c : Value} (h : uS w lo hi k n cs c) : uS w' lo hi k n cs c := by
  obtain ⟨a, cap, h0, h1, h2⟩ := h
  refine ⟨a, cap, h0, h1, fun hn => ?_⟩
  obtain ⟨b', o', e, h4, h5, h6⟩ := h2 hn
  exact ⟨b', o', e, h4, h5, uM.kp hk cs b' o' h4 h5 h6⟩
theorem uH.map {w w' : World} {lo hi lo' hi' : Nat} (hf : ∀ k n cs c, uS w lo hi k n cs c → uS w' lo' hi' k n cs c) : ∀ {d : UD} {xs : List Value}, uH w lo hi d xs → uH w' lo' hi' d xs
  | .nil, _, h => h
  | .p v r, _, ⟨ys, e, h⟩ => ⟨ys, e, uH.map hf h⟩
  | .l k n cs r, _, ⟨c, ys, e, h1, h2⟩ => ⟨c, ys, e, hf _ _ _ _ h1, uH.map hf h2⟩
theorem uM.mono {w : World} {lo hi lo' hi' : Nat} (h1 : lo' ≤ lo) (h2 : hi ≤ hi') : ∀ (d : UD) (b o : Nat), uM w lo hi d b o → uM w lo' hi' d b o
  | .nil, _, _, _ => trivial
  | .p v r, b, o, h => ⟨h.1, uM.mono h1 h2 r b (o + 1) h.2⟩
  | .l k n cs r, b, o, ⟨⟨a, cap, g0, g1, g2⟩, h3⟩ => ⟨⟨a, cap, g0, g1, fun hn => by
      obtain ⟨b', o', e, h4, h5, h6⟩ := g2 hn
      exact ⟨b', o', e, by omega, by omega, uM.mono h1 h2 cs b' o' h6⟩⟩, uM.mono h1 h2 r b (o + 1) h3⟩
theorem uS.mono {w : World} {lo hi lo' hi' : Nat} (h1 : lo' ≤ lo) (h2 : hi ≤ hi') {k n : Nat} {cs : UD} {c : Value} (h : uS w lo hi k n cs c) : uS w lo' hi' k n cs c := by
  obtain ⟨a, cap, g0, g1, g2⟩ := h
  refine ⟨a, cap, g0, g1, fun hn => ?_⟩
  obtain ⟨b', o', e, h4, h5, h6⟩ := g2 hn
  exact ⟨b', o', e, by omega, by omega, uM.mono h1 h2 cs b' o' h6⟩
theorem uM.pos {w : World} {lo hi b o : Nat} {d : UD} (h : uM w lo hi d b o) (hc : 0 < d.len) : b < w.heap.size := by
  cases d with
  | nil => cases hc
  | p v r => exact World.block_lt_of_cell? _ _ h.1
  | l k n cs r => obtain ⟨⟨a, cap, h0, _⟩, _⟩ := h; exact World.block_lt_of_cell? _ _ h0
theorem uSl.pos {a : Option Addr} {k n cap m : Nat} (h : uSl a k n cap m) (hn : 0 < n) : 0 < m := by rw [h.2.2.2]; exact Nat.mul_pos hn h.2.2.1
theorem uM.clip {w : World} {lo hi : Nat} : ∀ (d : UD) (b o : Nat), uM w lo hi d b o → uM w lo w.heap.size d b o
  | .nil, _, _, _ => trivial
  | .p v r, b, o, h => ⟨h.1, uM.clip r b (o + 1) h.2⟩
  | .l k n cs r, b, o, ⟨⟨a, cap, g0, g1, g2⟩, h3⟩ => ⟨⟨a, cap, g0, g1, fun hn => by
      obtain ⟨b', o', e, h4, h5, h6⟩ := g2 hn
      exact ⟨b', o', e, h4, h6.pos (g1.pos hn), uM.clip cs b' o' h6⟩⟩, uM.clip r b (o + 1) h3⟩
theorem uS.clip {w : World} {lo hi : Nat} {k n : Nat} {cs : UD} {c : Value} (h : uS w lo hi k n cs c) : uS w lo w.heap.size k n cs c := by
  obtain ⟨a, cap, g0, g1, g2⟩ := h
  refine ⟨a, cap, g0, g1, fun hn => ?_⟩
  obtain ⟨b', o', e, h4, h5, h6⟩ := g2 hn
  exact ⟨b', o', e, h4, h6.pos (g1.pos hn), uM.clip cs b' o' h6⟩
theorem KP.below {w w' : World} (lo hi : Nat) (hb : Below w.heap.size w w') : KP lo hi w w' := fun b o v _ _ h2 => (hb.cell (p := ⟨b, o, none⟩) (World.block_lt_of_cell? _ _ h2)).trans h2
theorem KP.out {w w' : World} {lo hi lo' hi' : Nat} (hb : OutR lo' hi' w w') (hd : hi ≤ lo' ∨ hi' ≤ lo) : KP lo hi w w' := fun b o v h0 h1 h2 => (hb.cell (p := ⟨b, o, none⟩) (World.block_lt_of_cell? _ _ h2) (by show b < lo' ∨ hi' ≤ b; omega)).trans h2
theorem uS.below {w w' : World} {lo hi : Nat} {k n : Nat} {cs : UD} {c : Value} (h : uS w lo hi k n cs c) (hb : Below w.heap.size w w') : uS w' lo hi k n cs c := h.kp (KP.below lo hi hb)
theorem uS.out {w w' : World} {lo hi lo' hi' : Nat} {k n : Nat} {cs : UD} {c : Value} (h : uS w lo hi k n cs c) (hb : OutR lo' hi' w w') (hd : hi ≤ lo' ∨ hi' ≤ lo) : uS w' lo hi k n cs c := h.kp (KP.out hb hd)
theorem uH.below {w w' : World} {lo hi : Nat} {d : UD} {xs : List Value} (h : uH w lo hi d xs) (hb : Below w.heap.size w w') : uH w' lo hi d xs := uH.map (fun _ _ _ _ g => g.below hb) h
theorem uH.out {w w' : World} {lo hi lo' hi' : Nat} {d : UD} {xs : List Value} (h : uH w lo hi d xs) (hb : OutR lo' hi' w w') (hd : hi ≤ lo' ∨ hi' ≤ lo) : uH w' lo hi d xs := uH.map (fun _ _ _ _ g => g.out hb hd) h
theorem uH.mono {w : World} {lo hi lo' hi' : Nat} {d : UD} {xs : List Value} (h : uH w lo hi d xs) (h1 : lo' ≤ lo) (h2 : hi ≤ hi') : uH w lo' hi' d xs := uH.map (fun _ _ _ _ g => g.mono h1 h2) h
theorem uH.clip {w : World} {lo hi : Nat} {d : UD} {xs : List Value} (h : uH w lo hi d xs) : uH w lo w.heap.size d xs := uH.map (fun _ _ _ _ g => g.clip) h
theorem UD.len_p (v : Value) (r : UD) : (UD.p v r).len = r.len + 1 := rfl
theorem UD.len_l (k n : Nat) (cs r : UD) : (UD.l k n cs r).len = r.len + 1 := rfl
theorem uH.len {w : World} {lo hi : Nat} : ∀ {d : UD} {xs : List Value}, uH w lo hi d xs → xs.length = d.len
  | .nil, _, h => by rw [h]; rfl
  | .p v r, _, ⟨ys, e, h⟩ => by rw [e, UD.len_p, ← uH.len h]; rfl
  | .l k n cs r, _, ⟨c, ys, e, _, h⟩ => by rw [e, UD.len_l, ← uH.len h]; rfl
theorem uM.get {w : World} {lo hi b : Nat} : ∀ {d : UD} {o : Nat} (h : uM w lo hi d b o) (i : Nat) (e : UE), d.at? i = some e → ∃ c, w.cell? ⟨b, o + i, none⟩ = some c ∧ uC w lo hi e c
  | .nil, o, h, i, e, he => by simp [UD.at?, UD.toL] at he
  | .p v r, o, h, 0, e, he => by cases he; exact ⟨v, h.1, rfl⟩
  | .l k n cs r, o, h, 0, e, he => by
    cases he
    obtain ⟨⟨a, cap, h0, h1⟩, _⟩ := h
    exact ⟨_, h0, a, cap, rfl, h1⟩
  | .p v r, o, h, i + 1, e, he => by
    obtain ⟨c, h1, h2⟩ := uM.get (d := r) h.2 i e he
    exact ⟨c, by rw [← h1]; congr 2; omega, h2⟩
  | .l k n cs r, o, h, i + 1, e, he => by
    obtain ⟨c, h1, h2⟩ := uM.get (d := r) h.2 i e he
    exact ⟨c, by rw [← h1]; congr 2; omega, h2⟩
theorem uS.cells {w : World} {lo hi k n : Nat} {cs : UD} {a : Option Addr} {cap : Nat} (h : uS w lo hi k n cs (.slice a n cap)) (hn : 0 < n) : ∃ b off, a = some ⟨b, off, none⟩ ∧ b < w.heap.size ∧ uM w lo hi cs b off := by
  obtain ⟨a', cap', h1, h2, h3⟩ := h
  obtain ⟨b, off, e, _, _, hm⟩ := h3 hn
  cases h1
  exact ⟨b, off, e, hm.pos (h2.pos hn), hm⟩
theorem uS.len {w : World} {lo hi k n : Nat} {cs : UD} {c : Value} (h : uS w lo hi k n cs c) : 0 < k ∧ cs.len = n * k := by
  obtain ⟨_, _, _, h, _⟩ := h; exact h.2.2

/-! what is weighed, counted, marked -/
def wtP : Value → Nat
  | .string s => s.size
  | _ => 0
def wt : UD → Nat
  | .nil => 0
  | .p v r => wtP v + wt r
  | .l _ n cs r => n + wt cs + wt r
def leftI (l : Int) (n : Nat) : Int := if l < n then -1 else l - n
theorem wt_app : ∀ (a b : UD), wt (a.app b) = wt a + wt b
  | .nil, b => by rw [UD.app_nil]; simp [wt]
  | .p v r, b => by rw [UD.app_p, wt, wt, wt_app r b]; omega
  | .l k n cs r, b => by rw [UD.app_l, wt, wt, wt_app r b]; omega
def cnt : UD → Nat
  | .nil => 0
  | .p _ r => 1 + cnt r
  | .l _ _ cs r => cnt cs + cnt r
def cntE : UE → Nat
  | .p _ => 1
  | .l _ _ cs => cnt cs
theorem cnt_app : ∀ (a b : UD), cnt (a.app b) = cnt a + cnt b
  | .nil, b => by rw [UD.app_nil]; simp [cnt]
  | .p v r, b => by rw [UD.app_p, cnt, cnt, cnt_app r b]; omega
  | .l k n cs r, b => by rw [UD.app_l, cnt, cnt, cnt_app r b]; omega
theorem cnt_succ (d : UD) (i : Nat) (e : UE) (h : d.at? i = some e) : cnt (d.takeN (i + 1)) = cnt (d.takeN i) + cntE e := by
  have : d.takeN (i + 1) = (d.takeN i).app (UD.ofL [e]) := by
    apply UD.ext; rw [UD.app_toL]; unfold UD.takeN; rw [UD.toL_ofL, UD.toL_ofL, UD.toL_ofL, List.take_add_one]
    unfold UD.at? at h; rw [h]; rfl
  rw [this, cnt_app]
  cases e <;> simp [UD.ofL, UE.cons, cnt, cntE]
theorem cnt_le (d : UD) (i : Nat) : cnt (d.takeN i) ≤ cnt d := by
  have := cnt_app (d.takeN i) (d.dropN i); rw [UD.app_take_drop] at this; omega
theorem cnt_zero (d : UD) : cnt (d.takeN 0) = 0 := rfl
theorem cnt_all (d : UD) (i : Nat) (h : d.len ≤ i) : cnt (d.takeN i) = cnt d := by
  have : d.takeN i = d := by apply UD.ext; unfold UD.takeN; rw [UD.toL_ofL, List.take_of_length_le h]
  rw [this]
def mkP (j : Nat) : Value → Value
  | .int k _ => .int k (k.wrap j)
  | .string _ => .string (umtx j)
  | .bool _ => .bool (j % 3 == 0)
  | v => v
def mk : UD → Nat → UD
  | .nil, _ => .nil
  | .p v r, j => .p (mkP j v) (mk r (j + 1))
  | .l k n cs r, j => .l k n (mk cs j) (mk r (j + cnt cs))
def mkE : UE → Nat → UE
  | .p v, j => .p (mkP j v)
  | .l k n cs, j => .l k n (mk cs j)
theorem mk_len : ∀ (d : UD) (j : Nat), (mk d j).len = d.len
  | .nil, _ => rfl
  | .p v r, j => by rw [mk, UD.len_p, UD.len_p, mk_len r]
  | .l k n cs r, j => by rw [mk, UD.len_l, UD.len_l, mk_len r]
theorem mk_get : ∀ (d : UD) (j i : Nat) (e : UE), d.at? i = some e → (mk d j).at? i = some (mkE e (j + cnt (d.takeN i)))
  | .nil, _, i, e, h => by simp [UD.at?, UD.toL] at h
  | .p v r, j, 0, e, h => by cases h; rfl
  | .l k n cs r, j, 0, e, h => by cases h; rfl
  | .p v r, j, i + 1, e, h => by
    have := mk_get r (j + 1) i e h
    show (mk r (j + 1)).at? i = _
    rw [this]
    congr 2
    show j + 1 + cnt (r.takeN i) = j + cnt (UD.p v (r.takeN i))
    rw [cnt]; omega
  | .l k n cs r, j, i + 1, e, h => by
    have := mk_get r (j + cnt cs) i e h
    show (mk r (j + cnt cs)).at? i = _
    rw [this]
    congr 2
    show j + cnt cs + cnt (r.takeN i) = j + cnt (UD.l k n cs (r.takeN i))
    rw [cnt]; omega
/-- a struct in hand: its plain fields are not marked -/
def mkT : UD → Nat → UD
  | .nil, _ => .nil
  | .p v r, j => .p v (mkT r j)
  | .l k n cs r, j => .l k n (mk cs j) (mkT r (j + cnt cs))
def cntT : UD → Nat
  | .nil => 0
  | .p _ r => cntT r
  | .l _ _ cs r => cnt cs + cntT r

/-! memory of one's own -/
def blkOf (v : Value) : List Nat := match v.ownBlock with | some g => [g] | none => []
def oH (w : World) : UD → List Value → List Nat → Prop
  | .nil, xs, S => xs = [] ∧ S = []
  | .p v r, xs, S => ∃ ys, xs = v :: ys ∧ oH w r ys S
  | .l k n cs r, xs, S => ∃ c ys S1 S2, xs = c :: ys ∧ S = (blkOf c ++ S1) ++ S2 ∧ 0 < k ∧ (∃ e zs, w.ownsRow 0 e k c n zs ∧ oH w cs zs S1) ∧ oH w r ys S2
def oS (w : World) (k n : Nat) (cs : UD) (c : Value) (S : List Nat) : Prop := 0 < k ∧ ∃ e zs S1, w.ownsRow 0 e k c n zs ∧ oH w cs zs S1 ∧ S = blkOf c ++ S1
/-- all blocks but these are as they were -/
structure OutS (T : List Nat) (w w' : World) : Prop where
  os : w'.os = w.os
  tape : w'.tape = w.tape
  output : w'.output = w.output
  size : w.heap.size ≤ w'.heap.size
  block : ∀ k, k < w.heap.size → k ∉ T → w'.heap[k]? = w.heap[k]?
theorem OutS.refl (T : List Nat) (w : World) : OutS T w w := ⟨rfl, rfl, rfl, Nat.le_refl _, fun _ _ _ => rfl⟩
theorem OutS.trans {T : List Nat} {a b c : World} (h : OutS T a b) (k : OutS T b c) : OutS T a c :=
  ⟨k.os.trans h.os, k.tape.trans h.tape, k.output.trans h.output, Nat.le_trans h.size k.size, fun i hi hr => (k.block i (Nat.lt_of_lt_of_le hi h.size) hr).trans (h.block i hi hr)⟩
theorem OutS.mono {T T' : List Nat} {a b : World} (h : OutS T a b) (hT : ∀ t ∈ T, t ∈ T') : OutS T' a b := ⟨h.os, h.tape, h.output, h.size, fun i hi hr => h.block i hi (fun g => hr (hT i g))⟩
theorem OutS.of_below {T : List Nat} {a b : World} (h : Below a.heap.size a b) : OutS T a b := ⟨h.os, h.tape, h.output, h.size, fun i hi _ => h.block i hi⟩
theorem OutS.setCell {T : List Nat} {a w : World} (h : OutS T a w) {p : Addr} (hp : p.block ∈ T) (u : Value) : OutS T a (w.setCell p u) :=
  h.trans ⟨rfl, rfl, rfl, by simp [World.setCell], fun k hk hr => Below.heap_setCell _ _ _ _ (by rintro rfl; exact hr hp)⟩
theorem OutS.out {T : List Nat} {a b : World} (h : OutS T a b) {lo hi : Nat} (hT : ∀ t ∈ T, lo ≤ t ∧ t < hi) : OutR lo hi a b :=
  ⟨h.os, h.tape, h.output, h.size, fun k hk hr => h.block k hk (fun g => by have := hT k g; omega)⟩
theorem OutS.below {T : List Nat} {a b : World} (h : OutS T a b) {B : Nat} (hT : ∀ t ∈ T, B ≤ t) (hB : B ≤ a.heap.size) : Below B a b :=
  ⟨h.os, h.tape, h.output, h.size, fun k hk => h.block k (by omega) (fun g => by have := hT k g; omega)⟩
theorem uowns_frame {w w' : World} {B n : Nat} {v : Value} {e : TypeId} {size : Nat} {xs : List Value} (h : w.ownsRow B e size v n xs) (hS : ∀ g ∈ blkOf v, w'.heap[g]? = w.heap[g]?) : w'.ownsRow B e size v n xs := by
  obtain ⟨hl, h1⟩ := h
  refine ⟨hl, ?_⟩
  rcases h1 with h1 | ⟨g, cap, cur, rfl, h3, h4, h5⟩
  · exact .inl h1
  · exact .inr ⟨g, cap, cur, rfl, h3, (hS g (by simp [blkOf, Value.ownBlock])).trans h4, h5⟩
theorem oH.frame {w w' : World} : ∀ (d : UD) (xs : List Value) (S : List Nat), oH w d xs S → (∀ g ∈ S, w'.heap[g]? = w.heap[g]?) → oH w' d xs S
  | .nil, xs, S, h, _ => h
  | .p v r, _, S, ⟨ys, e, h⟩, hS => ⟨ys, e, oH.frame r ys S h hS⟩
  | .l k n cs r, _, _, ⟨c, ys, S1, S2, e, eS, hk, ⟨t, zs, h1, h2⟩, h3⟩, hS => by
    subst eS
    exact ⟨c, ys, S1, S2, e, rfl, hk, ⟨t, zs, uowns_frame h1 (fun g hg => hS g (by simp [hg])), oH.frame cs zs S1 h2 (fun g hg => hS g (by simp [hg]))⟩, oH.frame r ys S2 h3 (fun g hg => hS g (by simp [hg]))⟩
theorem ublk_lt {w : World} {B n : Nat} {v : Value} {e : TypeId} {size : Nat} {xs : List Value} (h : w.ownsRow B e size v n xs) : ∀ g ∈ blkOf v, B ≤ g ∧ g < w.heap.size := by
  intro g hg
  unfold blkOf at hg
  cases hb : v.ownBlock with
  | none => rw [hb] at hg; cases hg
  | some b => rw [hb] at hg; simp at hg; subst hg; exact uowns_blk h hb
theorem oH.lt {w : World} : ∀ (d : UD) (xs : List Value) (S : List Nat), oH w d xs S → ∀ g ∈ S, g < w.heap.size
  | .nil, xs, S, h, g, hg => by rw [h.2] at hg; cases hg
  | .p v r, _, S, ⟨ys, e, h⟩, g, hg => oH.lt r ys S h g hg
  | .l k n cs r, _, _, ⟨c, ys, S1, S2, e, eS, hk, ⟨t, zs, h1, h2⟩, h3⟩, g, hg => by
    subst eS
    rcases List.mem_append.1 hg with hg | hg
    · rcases List.mem_append.1 hg with hg | hg
      · exact (ublk_lt h1 g hg).2
      · exact oH.lt cs zs S1 h2 g hg
    · exact oH.lt r ys S2 h3 g hg
theorem oH.below {w w' : World} {d : UD} {xs : List Value} {S : List Nat} (h : oH w d xs S) (hb : Below w.heap.size w w') : oH w' d xs S := oH.frame d xs S h (fun g hg => hb.block g (oH.lt d xs S h g hg))
theorem oH.outS {w w' : World} {d : UD} {xs : List Value} {S T : List Nat} (h : oH w d xs S) (hb : OutS T w w') (hd : ∀ g ∈ S, g ∉ T) : oH w' d xs S := oH.frame d xs S h (fun g hg => hb.block g (oH.lt d xs S h g hg) (hd g hg))
theorem oH.outR {w w' : World} {d : UD} {xs : List Value} {S : List Nat} {lo hi : Nat} (h : oH w d xs S) (hb : OutR lo hi w w') (hd : ∀ g ∈ S, g < lo ∨ hi ≤ g) : oH w' d xs S := oH.frame d xs S h (fun g hg => hb.block g (oH.lt d xs S h g hg) (hd g hg))
theorem oS.lt {w : World} {k n : Nat} {cs : UD} {c : Value} {S : List Nat} (h : oS w k n cs c S) : ∀ g ∈ S, g < w.heap.size := by
  obtain ⟨_, e, zs, S1, h1, h2, rfl⟩ := h
  intro g hg
  rcases List.mem_append.1 hg with hg | hg
  · exact (ublk_lt h1 g hg).2
  · exact h2.lt _ _ _ g hg
theorem oS.frame {w w' : World} {k n : Nat} {cs : UD} {c : Value} {S : List Nat} (h : oS w k n cs c S) (hS : ∀ g ∈ S, w'.heap[g]? = w.heap[g]?) : oS w' k n cs c S := by
  obtain ⟨hk, e, zs, S1, h1, h2, rfl⟩ := h
  exact ⟨hk, e, zs, S1, uowns_frame h1 (fun g hg => hS g (by simp [hg])), h2.frame _ _ _ (fun g hg => hS g (by simp [hg])), rfl⟩
theorem oS.below {w w' : World} {k n : Nat} {cs : UD} {c : Value} {S : List Nat} (h : oS w k n cs c S) (hb : Below w.heap.size w w') : oS w' k n cs c S := h.frame (fun g hg => hb.block g (h.lt g hg))
theorem oH.len {w : World} : ∀ {d : UD} {xs : List Value} {S : List Nat}, oH w d xs S → xs.length = d.len
  | .nil, _, _, h => by rw [h.1]; rfl
  | .p v r, _, S, ⟨ys, e, h⟩ => by rw [e, UD.len_p, ← oH.len h]; rfl
  | .l k n cs r, _, _, ⟨c, ys, S1, S2, e, eS, hk, _, h3⟩ => by rw [e, UD.len_l, ← oH.len h3]; rfl
theorem uowns_u {w : World} {e : TypeId} {k n : Nat} {c : Value} {zs : List Value} {lo hi : Nat} {cs : UD} (hk : 0 < k) (h1 : w.ownsRow 0 e k c n zs) (hl : zs.length = cs.len) (hb : ∀ g ∈ blkOf c, lo ≤ g ∧ g < hi)
    (hm : ∀ g, (∀ j x, zs[j]? = some x → w.cell? ⟨g, 0 + j, none⟩ = some x) → uM w lo hi cs g 0) : uS w lo hi k n cs c := by
  have h1' := h1
  obtain ⟨hxl, h1⟩ := h1
  rcases h1 with ⟨rfl, rfl⟩ | ⟨g, cap, cur, rfl, h3, h4, h5, h6⟩
  · exact ⟨none, 0, rfl, ⟨Nat.le_refl _, fun _ => rfl, hk, by omega⟩, fun h => by cases h⟩
  · have hg := hb g (by simp [blkOf, Value.ownBlock])
    refine ⟨_, cap, rfl, ⟨h5, (fun h => by cases h), hk, by omega⟩, fun hn => ⟨g, 0, rfl, hg.1, hg.2, hm g (fun j x hx => ?_)⟩⟩
    rw [Nat.zero_add, h1'.cellAt j (by have := List.getElem?_eq_some_iff.1 hx; obtain ⟨q, _⟩ := this; omega)]
    exact hx
theorem oH.u {w : World} {lo hi b : Nat} : ∀ (d : UD) (xs : List Value) (S : List Nat) (o : Nat), oH w d xs S → (∀ g ∈ S, lo ≤ g ∧ g < hi) → (∀ j c, xs[j]? = some c → w.cell? ⟨b, o + j, none⟩ = some c) → uM w lo hi d b o
  | .nil, _, _, _, _, _, _ => trivial
  | .p v r, _, S, o, ⟨ys, e, h⟩, hS, hc => by
    subst e
    exact ⟨hc 0 v rfl, oH.u r ys S (o + 1) h hS (fun j x hx => by have := hc (j + 1) x (by simpa using hx); rw [← this]; congr 2; omega)⟩
  | .l k n cs r, _, _, o, ⟨c, ys, S1, S2, e, eS, hk, ⟨t, zs, h1, h2⟩, h3⟩, hS, hc => by
    subst eS e
    have hu : uS w lo hi k n cs c := uowns_u hk h1 h2.len (fun g hg => hS g (by simp [hg])) (fun g hg => oH.u (b := g) cs zs S1 0 h2 (fun x hx => hS x (by simp [hx])) hg)
    obtain ⟨a, cap, rfl, h4, h5⟩ := hu
    exact ⟨⟨a, cap, hc 0 _ rfl, h4, h5⟩, oH.u r ys S2 (o + 1) h3 (fun g hg => hS g (by simp [hg])) (fun j x hx => by have := hc (j + 1) x (by simpa using hx); rw [← this]; congr 2; omega)⟩
theorem oS.u {w : World} {lo hi k n : Nat} {cs : UD} {c : Value} {S : List Nat} (h : oS w k n cs c S) (hS : ∀ g ∈ S, lo ≤ g ∧ g < hi) : uS w lo hi k n cs c := by
  obtain ⟨hk, e, zs, S1, h1, h2, rfl⟩ := h
  exact uowns_u hk h1 h2.len (fun g hg => hS g (by simp [hg])) (fun g hg => oH.u (b := g) cs zs S1 0 h2 (fun x hx => hS x (by simp [hx])) hg)
theorem oH.hand {w : World} {lo hi : Nat} : ∀ {d : UD} {xs : List Value} {S : List Nat}, oH w d xs S → (∀ g ∈ S, lo ≤ g ∧ g < hi) → uH w lo hi d xs
  | .nil, _, _, h, _ => h.1
  | .p v r, _, S, ⟨ys, e, h⟩, hS => ⟨ys, e, oH.hand h hS⟩
  | .l k n cs r, _, _, ⟨c, ys, S1, S2, e, eS, hk, ⟨t, zs, h1, h2⟩, h3⟩, hS => by
    subst eS
    exact ⟨c, ys, e, oS.u ⟨hk, t, zs, S1, h1, h2, rfl⟩ (fun g hg => hS g (List.mem_append_left _ hg)), oH.hand h3 (fun g hg => hS g (List.mem_append_right _ hg))⟩
theorem oH.app {w : World} : ∀ {a b : UD} {xs ys : List Value} {S T : List Nat}, oH w a xs S → oH w b ys T → oH w (a.app b) (xs ++ ys) (S ++ T)
  | .nil, b, xs, ys, S, T, h, k => by rw [UD.app_nil, h.1, h.2]; exact k
  | .p v r, b, _, ys, S, T, ⟨zs, e, h⟩, k => by subst e; rw [UD.app_p]; exact ⟨zs ++ ys, rfl, oH.app h k⟩
  | .l m n cs r, b, _, ys, _, T, ⟨c, zs, S1, S2, e, eS, hk, h1, h3⟩, k => by subst e eS; rw [UD.app_l]; exact ⟨c, zs ++ ys, S1, S2 ++ T, rfl, by simp, hk, h1, oH.app h3 k⟩
theorem UD.setAt_p (v : Value) (r : UD) (i : Nat) (e : UE) : (UD.p v r).setAt (i + 1) e = .p v (r.setAt i e) := rfl
theorem UD.setAt_l (k n : Nat) (cs r : UD) (i : Nat) (e : UE) : (UD.l k n cs r).setAt (i + 1) e = .l k n cs (r.setAt i e) := rfl
theorem UD.setAt_p0 (v : Value) (r : UD) (e : UE) : (UD.p v r).setAt 0 e = e.cons r := by show e.cons (UD.ofL r.toL) = _; rw [UD.ofL_toL]
theorem UD.setAt_l0 (k n : Nat) (cs r : UD) (e : UE) : (UD.l k n cs r).setAt 0 e = e.cons r := by show e.cons (UD.ofL r.toL) = _; rw [UD.ofL_toL]
/-- one plain cell set -/
theorem oH.set {w : World} : ∀ {d : UD} {xs : List Value} {S : List Nat} (h : oH w d xs S) (i : Nat) (v u : Value), d.at? i = some (.p v) → oH w (d.setAt i (.p u)) (xs.set i u) S
  | .nil, _, _, h, i, v, u, e => by simp [UD.at?, UD.toL] at e
  | .p x r, _, S, ⟨ys, q, h⟩, 0, v, u, e => by subst q; rw [UD.setAt_p0]; exact ⟨ys, rfl, h⟩
  | .l k n cs r, _, _, h, 0, v, u, e => by cases e
  | .p x r, _, S, ⟨ys, q, h⟩, i + 1, v, u, e => by subst q; rw [UD.setAt_p]; exact ⟨ys.set i u, rfl, oH.set h i v u e⟩
  | .l k n cs r, _, _, ⟨c, ys, S1, S2, q, eS, hk, h1, h3⟩, i + 1, v, u, e => by subst q; rw [UD.setAt_l]; exact ⟨c, ys.set i u, S1, S2, rfl, eS, hk, h1, oH.set h3 i v u e⟩
/-- one part's own memory, and how another part of the same shape comes in its place -/
theorem oH.part {w : World} : ∀ {d : UD} {xs : List Value} {S : List Nat} (h : oH w d xs S) (hn : S.Nodup) (i k n : Nat) (cs : UD), d.at? i = some (.l k n cs) →
    ∃ c T, xs[i]? = some c ∧ oS w k n cs c T ∧ T.Nodup ∧ (∀ g ∈ T, g ∈ S) ∧ ∀ (w' : World) (cs' : UD), OutS T w w' → oS w' k n cs' c T → oH w' (d.setAt i (.l k n cs')) xs S
  | .nil, _, _, h, hn, i, k, n, cs, e => by simp [UD.at?, UD.toL] at e
  | .p x r, _, S, h, hn, 0, k, n, cs, e => by cases e
  | .l k' n' cs' r, _, _, ⟨c, ys, S1, S2, q, eS, hk, ⟨t, zs, h1, h2⟩, h3⟩, hn, 0, k, n, cs, e => by
    subst q eS
    cases e
    have hnd := List.nodup_append.1 hn
    refine ⟨c, blkOf c ++ S1, rfl, ⟨hk, t, zs, S1, h1, h2, rfl⟩, hnd.1, fun g hg => List.mem_append_left _ hg, fun w' cs2 ho hc => ?_⟩
    rw [UD.setAt_l0]
    obtain ⟨_, t', zs', S1', g1, g2, g3⟩ := hc
    have := List.append_cancel_left g3
    subst this
    exact ⟨c, ys, S1, S2, rfl, rfl, hk, ⟨t', zs', g1, g2⟩, h3.outS ho (fun g hg hg' => hnd.2.2 g hg' g hg rfl)⟩
  | .p x r, _, S, ⟨ys, q, h⟩, hn, i + 1, k, n, cs, e => by
    subst q
    obtain ⟨c, T, e1, g1, g2, g3, g4⟩ := oH.part h hn i k n cs e
    exact ⟨c, T, e1, g1, g2, g3, fun w' cs' ho hc => by rw [UD.setAt_p]; exact ⟨ys, rfl, g4 w' cs' ho hc⟩⟩
  | .l k' n' cs' r, _, _, ⟨c, ys, S1, S2, q, eS, hk, ⟨t, zs, h1, h2⟩, h3⟩, hn, i + 1, k, n, cs, e => by
    subst q eS
    have hnd := List.nodup_append.1 hn
    obtain ⟨c', T, e1, g1, g2, g3, g4⟩ := oH.part h3 hnd.2.1 i k n cs e
    have hd : ∀ g ∈ blkOf c ++ S1, g ∉ T := fun g hg hg' => hnd.2.2 g hg g (g3 g hg') rfl
    refine ⟨c', T, e1, g1, g2, fun g hg => List.mem_append_right _ (g3 g hg), fun w' cs2 ho hc => ?_⟩
    rw [UD.setAt_l]
    refine ⟨c, ys, S1, S2, rfl, rfl, hk, ⟨t, zs, uowns_frame h1 (fun g hg => ho.block g (ublk_lt h1 g hg).2 (hd g (List.mem_append_left _ hg))), h2.outS ho (fun g hg => hd g (List.mem_append_right _ hg))⟩, g4 w' cs2 ho hc⟩

/-! marking, cell by cell -/
def mixU (d : UD) (j i : Nat) : UD := UD.ofL ((mk d j).toL.take i ++ d.toL.drop i)
theorem mixU_zero (d : UD) (j : Nat) : mixU d j 0 = d := UD.ofL_toL d
theorem mixU_all (d : UD) (j : Nat) : mixU d j d.len = mk d j := by
  unfold mixU
  rw [List.take_of_length_le (by have := mk_len d j; unfold UD.len at this; unfold UD.len; omega), List.drop_eq_nil_of_le (show d.toL.length ≤ d.len from Nat.le_refl _), List.append_nil, UD.ofL_toL]
theorem mixU_get (d : UD) (j i q : Nat) (hq : i ≤ q) : (mixU d j i).at? q = d.at? q := by
  unfold mixU UD.at?
  rw [UD.toL_ofL]
  have hl : (mk d j).toL.length = d.toL.length := mk_len d j
  by_cases hi : i ≤ d.toL.length
  · rw [List.getElem?_append_right (by rw [List.length_take]; omega), List.length_take, List.getElem?_drop]
    congr 1; omega
  · rw [List.getElem?_eq_none (by rw [List.length_append, List.length_take, List.length_drop]; omega), List.getElem?_eq_none (by omega)]
theorem mixU_succ (d : UD) (j i : Nat) (e : UE) (h : d.at? i = some e) : (mixU d j i).setAt i (mkE e (j + cnt (d.takeN i))) = mixU d j (i + 1) := by
  have hm := mk_get d j i e h
  unfold UD.at? at h hm
  have hl : (mk d j).toL.length = d.toL.length := mk_len d j
  obtain ⟨hi, _⟩ := List.getElem?_eq_some_iff.1 h
  unfold mixU UD.setAt
  congr 1
  rw [UD.toL_ofL]
  apply List.ext_getElem?
  intro q
  rw [List.getElem?_set]
  have hlen : ((mk d j).toL.take i ++ d.toL.drop i).length = d.toL.length := by rw [List.length_append, List.length_take, List.length_drop]; omega
  by_cases e1 : i = q
  · subst e1
    rw [if_pos rfl, if_pos (by omega), List.getElem?_append_left (by rw [List.length_take]; omega), List.getElem?_take, if_pos (by omega), hm]
  · rw [if_neg e1]
    rcases Nat.lt_or_ge q i with hq | hq
    · rw [List.getElem?_append_left (by rw [List.length_take]; omega), List.getElem?_append_left (by rw [List.length_take]; omega), List.getElem?_take, List.getElem?_take, if_pos hq, if_pos (by omega)]
    · rw [List.getElem?_append_right (by rw [List.length_take]; omega), List.getElem?_append_right (by rw [List.length_take]; omega), List.length_take, List.length_take, List.getElem?_drop, List.getElem?_drop]
      congr 1; omega
end Go.Proofs.Ytddojjigijfgbaa
/- Data as cells: their types. -/
namespace Go.Proofs.Ytddojjigijfgbaa
open Go.RowKit
set_option linter.unusedVariables false

/-- a cell's type: a number, a text, a truth, a slice of things of k cells, of the type t -/
inductive UF where
  | i (k : IntKind)
  | s
  | b
  | l (k t : Nat)
def uE : Nat → List UF
  | 0 => [.s]
  | 1 => [.i .i64]
  | 2 => [.i .u8]
  | 3 => [.l 1 1]
  | 4 => [.s, .s]
  | 5 => [.i .i64, .s, .l 1 0]
  | 6 => [.i .i64, .s, .i .i64, .l 1 0, .l 5 6]
  | 7 => [.i .i64, .l 1 0, .i .i64, .s, .i .i64, .l 1 0, .l 5 6]
  | 8 => [.i .i64, .s, .i .i64, .i .i64, .i .i64, .b, .l 1 0, .i .i64, .s, .i .i64, .l 1 0, .l 5 6, .i .i64, .s, .i .i64, .l 1 0, .l 5 6]
  | 9 => [.i .i64, .b, .i .i64, .s, .i .i64, .i .i64, .i .i64, .b, .l 1 0, .i .i64, .s, .i .i64, .l 1 0, .l 5 6, .i .i64, .s, .i .i64, .l 1 0, .l 5 6]
  | 10 => [.l 17 8, .i .i64, .i .i64, .l 19 9]
  | 11 => [.i .i64, .l 17 8]
  | 12 => [.s, .i .i64, .i .i64]
  | 13 => [.l 3 12, .l 3 12, .l 1 0, .i .i64]
  | 14 => [.s, .l 2 4, .l 1 0, .i .i64]
  | 15 => [.s, .i .i64]
  | 16 => [.i .i64, .l 3 5, .l 1 0, .l 2 15]
  | 17 => [.s, .l 7 7]
  | 18 => [.i .i64, .s, .i .i64, .l 3 5, .l 1 0, .l 2 15, .i .i64, .s, .i .i64, .l 1 0, .l 5 6, .l 2 17, .b]
  | 19 => [.s, .l 2 4, .l 1 0, .i .i64, .i .i64, .i .i64]
  | 20 => [.i .i64, .s, .i .i64, .i .i64, .i .i64]
  | 21 => [.i .i64, .i .i64, .i .i64, .l 13 18, .l 6 19, .l 5 20, .l 1 0]
  | 22 => [.i .i64, .i .i64]
  | 23 => [.i .i64, .i .i64, .i .i64, .s, .i .i64, .l 1 0, .l 5 6]
  | 24 => [.s, .i .i64, .i .i64, .l 7 23, .l 2 22]
  | 25 => [.i .i64, .s, .i .i64, .l 7 23, .l 2 22]
  | 26 => [.i .i64, .s, .i .i64, .i .i64, .l 3 5, .l 1 0, .l 2 15, .i .i64, .s, .i .i64, .l 1 0, .l 5 6, .l 2 17, .s, .l 2 4, .l 1 0, .i .i64, .l 2 22]
  | 27 => [.i .i64, .i .i64, .s, .i .i64, .i .i64, .l 3 5, .l 1 0, .l 2 15, .i .i64, .s, .i .i64, .l 1 0, .l 5 6, .l 2 17, .s, .l 2 4, .l 1 0, .i .i64, .l 2 22, .s, .i .i64, .i .i64]
  | 28 => [.s, .i .i64]
  | 29 => [.i .i64, .i .i64, .i .i64, .l 13 18, .l 6 19, .l 5 20, .l 1 0, .b, .l 1 2, .l 5 24, .l 5 25, .l 1 0]
  | _ => []
def inK : IntKind → Int → Prop
  | .i64, z => -9223372036854775808 ≤ z ∧ z ≤ 9223372036854775807
  | .u8, z => 0 ≤ z ∧ z ≤ 255
  | _, _ => True
def tyP : UF → Value → Prop
  | .i k, v => ∃ z, v = .int k z ∧ inK k z
  | .s, v => ∃ t : ByteArray, v = .string t ∧ t.size ≤ maxLen
  | .b, v => ∃ t, v = .bool t
  | .l _ _, _ => False
/-- cells whose types come round and round -/
def tyU : UD → List UF → Nat → Prop
  | .nil, _, _ => True
  | .p v r, fs, i => (∃ f, fs[i % fs.length]? = some f ∧ tyP f v) ∧ tyU r fs (i + 1)
  | .l k n cs r, fs, i => (∃ t, fs[i % fs.length]? = some (.l k t) ∧ 0 < k ∧ k = (uE t).length ∧ n ≤ maxLen ∧ cs.len = n * k ∧ tyU cs (uE t) 0) ∧ tyU r fs (i + 1)
def tyS (k n : Nat) (cs : UD) (t : Nat) : Prop := 0 < k ∧ k = (uE t).length ∧ n ≤ maxLen ∧ cs.len = n * k ∧ tyU cs (uE t) 0
/-- cells of just these types -/
def tyL : UD → List UF → Prop
  | .nil, fs => fs = []
  | .p v r, fs => ∃ f fr, fs = f :: fr ∧ tyP f v ∧ tyL r fr
  | .l k n cs r, fs => ∃ t fr, fs = .l k t :: fr ∧ tyS k n cs t ∧ tyL r fr
theorem tyL.nil {d : UD} (h : tyL d []) : d = .nil := by
  cases d with
  | nil => rfl
  | p v r => obtain ⟨f, fr, e, _⟩ := h; cases e
  | l k n cs r => obtain ⟨t, fr, e, _⟩ := h; cases e
theorem tyL.i {d : UD} {k : IntKind} {fs : List UF} (h : tyL d (.i k :: fs)) : ∃ z r, d = .p (.int k z) r ∧ inK k z ∧ tyL r fs := by
  cases d with
  | nil => cases h
  | p v r => obtain ⟨f, fr, e, ⟨h1, h2⟩⟩ := h; cases e; obtain ⟨z, rfl, hz⟩ := h1; exact ⟨z, r, rfl, hz, h2⟩
  | l k n cs r => obtain ⟨t, fr, e, _⟩ := h; cases e
theorem tyL.s {d : UD} {fs : List UF} (h : tyL d (.s :: fs)) : ∃ (z : ByteArray) (r : UD), d = .p (.string z) r ∧ z.size ≤ maxLen ∧ tyL r fs := by
  cases d with
  | nil => cases h
  | p v r => obtain ⟨f, fr, e, ⟨h1, h2⟩⟩ := h; cases e; obtain ⟨z, rfl, hz⟩ := h1; exact ⟨z, r, rfl, hz, h2⟩
  | l k n cs r => obtain ⟨t, fr, e, _⟩ := h; cases e
theorem tyL.b {d : UD} {fs : List UF} (h : tyL d (.b :: fs)) : ∃ (z : Bool) (r : UD), d = .p (.bool z) r ∧ tyL r fs := by
  cases d with
  | nil => cases h
  | p v r => obtain ⟨f, fr, e, ⟨h1, h2⟩⟩ := h; cases e; obtain ⟨z, rfl⟩ := h1; exact ⟨z, r, rfl, h2⟩
  | l k n cs r => obtain ⟨t, fr, e, _⟩ := h; cases e
theorem tyL.l {d : UD} {k t : Nat} {fs : List UF} (h : tyL d (.l k t :: fs)) : ∃ n cs r, d = .l k n cs r ∧ tyS k n cs t ∧ tyL r fs := by
  cases d with
  | nil => cases h
  | p v r => obtain ⟨f, fr, e, ⟨h1, h2⟩⟩ := h; cases e; cases h1
  | l k n cs r => obtain ⟨t, fr, e, h1, h2⟩ := h; cases e; exact ⟨n, cs, r, rfl, h1, h2⟩
/-- a row of a slice's cells -/
def rowU (cs : UD) (k q : Nat) : UD := (cs.dropN (q * k)).takeN k
theorem UD.takeN_p (v : Value) (r : UD) (i : Nat) : (UD.p v r).takeN (i + 1) = .p v (r.takeN i) := rfl
theorem UD.takeN_l (k n : Nat) (cs r : UD) (i : Nat) : (UD.l k n cs r).takeN (i + 1) = .l k n cs (r.takeN i) := rfl
theorem UD.dropN_p (v : Value) (r : UD) (i : Nat) : (UD.p v r).dropN (i + 1) = r.dropN i := rfl
theorem UD.dropN_l (k n : Nat) (cs r : UD) (i : Nat) : (UD.l k n cs r).dropN (i + 1) = r.dropN i := rfl
theorem UD.dropN_zero (d : UD) : d.dropN 0 = d := UD.ofL_toL d
theorem UD.dropN_len (d : UD) (i : Nat) : (d.dropN i).len = d.len - i := by unfold UD.len UD.dropN; rw [UD.toL_ofL, List.length_drop]
theorem UD.dropN_dropN (d : UD) (i j : Nat) : (d.dropN i).dropN j = d.dropN (i + j) := by apply UD.ext; unfold UD.dropN; rw [UD.toL_ofL, UD.toL_ofL, UD.toL_ofL, List.drop_drop]
theorem UD.dropN_all (d : UD) : d.dropN d.len = .nil := by apply UD.ext; unfold UD.dropN; rw [UD.toL_ofL]; show d.toL.drop d.toL.length = []; rw [List.drop_length]
theorem tyU.drop : ∀ {d : UD} {fs : List UF} {i : Nat} (j : Nat), tyU d fs i → tyU (d.dropN j) fs (i + j)
  | d, fs, i, 0, h => by rw [UD.dropN_zero]; exact h
  | .nil, fs, i, j + 1, h => by unfold UD.dropN UD.toL; rw [List.drop_nil]; trivial
  | .p v r, fs, i, j + 1, h => by rw [UD.dropN_p, show i + (j + 1) = (i + 1) + j by omega]; exact tyU.drop j h.2
  | .l k n cs r, fs, i, j + 1, h => by rw [UD.dropN_l, show i + (j + 1) = (i + 1) + j by omega]; exact tyU.drop j h.2
theorem tyU.takes : ∀ (m : Nat) {d : UD} {fs : List UF} {i : Nat}, tyU d fs i → m ≤ d.len → (i % fs.length) + m = fs.length ∨ m = 0 ∧ fs.length ≤ i % fs.length → tyL (d.takeN m) (fs.drop (fs.length - m))
  | 0, d, fs, i, h, hm, hi => by
    unfold UD.takeN; rw [List.take_zero, Nat.sub_zero, List.drop_length]; exact rfl
  | m + 1, .nil, fs, i, h, hm, hi => by cases hm
  | m + 1, .p v r, fs, i, h, hm, hi => by
    rcases hi with hi | ⟨hi, _⟩
    · obtain ⟨⟨f, h1, h2⟩, h3⟩ := h
      rw [UD.takeN_p]
      have hlt : i % fs.length < fs.length := by omega
      rw [show fs.length - (m + 1) = i % fs.length by omega, List.drop_eq_getElem_cons hlt]
      rw [List.getElem?_eq_getElem hlt] at h1
      cases h1
      have hm' : m ≤ r.len := by rw [UD.len_p] at hm; omega
      refine ⟨_, _, rfl, h2, ?_⟩
      rcases Nat.eq_zero_or_pos m with rfl | hp
      · rw [show i % fs.length + 1 = fs.length by omega, List.drop_length]; unfold UD.takeN; rw [List.take_zero]; exact rfl
      · have hmod : (i + 1) % fs.length = i % fs.length + 1 := by rw [Nat.add_mod, Nat.mod_eq_of_lt (show 1 < fs.length by omega), Nat.mod_eq_of_lt (by omega)]
        have := tyU.takes m h3 hm' (.inl (by omega))
        rw [show fs.length - m = i % fs.length + 1 by omega] at this
        exact this
    · omega
  | m + 1, .l k n cs r, fs, i, h, hm, hi => by
    rcases hi with hi | ⟨hi, _⟩
    · obtain ⟨⟨t, h1, h2⟩, h3⟩ := h
      rw [UD.takeN_l]
      have hlt : i % fs.length < fs.length := by omega
      rw [show fs.length - (m + 1) = i % fs.length by omega, List.drop_eq_getElem_cons hlt]
      rw [List.getElem?_eq_getElem hlt] at h1
      have h1' := Option.some.inj h1
      rw [h1']
      have hm' : m ≤ r.len := by rw [UD.len_l] at hm; omega
      refine ⟨_, _, rfl, h2, ?_⟩
      rcases Nat.eq_zero_or_pos m with rfl | hp
      · rw [show i % fs.length + 1 = fs.length by omega, List.drop_length]; unfold UD.takeN; rw [List.take_zero]; exact rfl
      · have hmod : (i + 1) % fs.length = i % fs.length + 1 := by rw [Nat.add_mod, Nat.mod_eq_of_lt (show 1 < fs.length by omega), Nat.mod_eq_of_lt (by omega)]
        have := tyU.takes m h3 hm' (.inl (by omega))
        rw [show fs.length - m = i % fs.length + 1 by omega] at this
        exact this
    · omega
/-- a slice's row is of the slice's type -/
theorem tyS.row {k n : Nat} {cs : UD} {t q : Nat} (h : tyS k n cs t) (hq : q < n) : tyL (rowU cs k q) (uE t) := by
  obtain ⟨h0, h1, h2, h3, h4⟩ := h
  have hle : q * k + k ≤ n * k := by have := Nat.mul_le_mul_right k (show q + 1 ≤ n by omega); rw [Nat.succ_mul] at this; exact this
  have hd := tyU.drop (q * k) h4
  rw [Nat.zero_add] at hd
  have hm : (q * k) % (uE t).length = 0 := by rw [← h1, Nat.mul_mod_left]
  have := tyU.takes k hd (by rw [UD.dropN_len]; omega) (.inl (by rw [hm]; omega))
  rw [← h1, Nat.sub_self, List.drop_zero] at this
  exact this
theorem rowU_at (cs : UD) (k q j : Nat) (hj : j < k) : (rowU cs k q).at? j = cs.at? (q * k + j) := by
  unfold rowU UD.takeN UD.dropN UD.at?
  rw [UD.toL_ofL, UD.toL_ofL, List.getElem?_take, if_pos hj, List.getElem?_drop]
theorem rowU_len (cs : UD) (k q n : Nat) (hl : cs.len = n * k) (hq : q < n) : (rowU cs k q).len = k := by
  have hle : q * k + k ≤ n * k := by have := Nat.mul_le_mul_right k (show q + 1 ≤ n by omega); rw [Nat.succ_mul] at this; exact this
  unfold rowU UD.takeN UD.dropN UD.len
  rw [UD.toL_ofL, UD.toL_ofL, List.length_take, List.length_drop]
  unfold UD.len at hl
  omega
theorem uM.drop {w : World} {lo hi b : Nat} : ∀ {d : UD} {o : Nat} (j : Nat), uM w lo hi d b o → uM w lo hi (d.dropN j) b (o + j)
  | d, o, 0, h => by rw [UD.dropN_zero]; exact h
  | .nil, o, j + 1, h => by unfold UD.dropN UD.toL; rw [List.drop_nil]; trivial
  | .p v r, o, j + 1, h => by rw [UD.dropN_p, show o + (j + 1) = (o + 1) + j by omega]; exact uM.drop j h.2
  | .l k n cs r, o, j + 1, h => by rw [UD.dropN_l, show o + (j + 1) = (o + 1) + j by omega]; exact uM.drop j h.2
theorem uM.take {w : World} {lo hi b : Nat} : ∀ {d : UD} {o : Nat} (j : Nat), uM w lo hi d b o → uM w lo hi (d.takeN j) b o
  | d, o, 0, h => trivial
  | .nil, o, j + 1, h => trivial
  | .p v r, o, j + 1, h => by rw [UD.takeN_p]; exact ⟨h.1, uM.take j h.2⟩
  | .l k n cs r, o, j + 1, h => by rw [UD.takeN_l]; exact ⟨h.1, uM.take j h.2⟩
theorem uM.row {w : World} {lo hi b off : Nat} {cs : UD} (h : uM w lo hi cs b off) (k q : Nat) : uM w lo hi (rowU cs k q) b (off + q * k) := (h.drop (q * k)).take k
theorem UD.drop_row (cs : UD) (k q : Nat) : cs.dropN (q * k) = (rowU cs k q).app (cs.dropN ((q + 1) * k)) := by
  unfold rowU
  rw [← UD.app_take_drop (cs.dropN (q * k)) k, UD.dropN_dropN, show q * k + k = (q + 1) * k by rw [Nat.succ_mul]]
  congr 1
  apply UD.ext
  unfold UD.takeN
  rw [UD.toL_ofL, UD.toL_ofL, UD.app_toL, UD.toL_ofL, List.take_append, List.take_take, Nat.min_self]
  rw [List.length_take]
  have : List.take (k - min k (cs.dropN (q * k)).toL.length) (cs.dropN ((q + 1) * k)).toL = [] := by
    rcases Nat.le_total k (cs.dropN (q * k)).toL.length with h | h
    · rw [Nat.min_eq_left h, Nat.sub_self, List.take_zero]
    · have hz : (cs.dropN ((q + 1) * k)).toL = [] := by
        unfold UD.dropN at h ⊢
        rw [UD.toL_ofL] at h ⊢
        rw [List.length_drop] at h
        apply List.drop_eq_nil_of_le
        rw [Nat.succ_mul]; omega
      rw [hz, List.take_nil]
  rw [this, List.append_nil]
theorem UD.take_row (cs : UD) (k q : Nat) : cs.takeN ((q + 1) * k) = (cs.takeN (q * k)).app (rowU cs k q) := by
  unfold rowU
  apply UD.ext
  rw [UD.app_toL]
  unfold UD.takeN UD.dropN
  rw [UD.toL_ofL, UD.toL_ofL, UD.toL_ofL, UD.toL_ofL, Nat.succ_mul, List.take_add]
theorem leftI_neg {x : Int} {a : Nat} (b : Nat) (h0 : 0 ≤ x) (h : leftI x a < 0) : leftI x (a + b) = -1 := by unfold leftI at *; split at h <;> (split <;> omega)
theorem leftI_pos {x : Int} {a : Nat} (b : Nat) (h : ¬ leftI x a < 0) : leftI x (a + b) = leftI (leftI x a) b ∧ leftI x a = x - a ∧ 0 ≤ leftI x a := by
  unfold leftI at *
  by_cases c : x < (a : Int)
  · rw [if_pos c] at h; omega
  · rw [if_neg c] at h ⊢
    refine ⟨?_, rfl, by omega⟩
    by_cases c2 : x < ((a + b : Nat) : Int)
    · rw [if_pos c2, if_pos (by omega)]
    · rw [if_neg c2, if_neg (by omega)]; omega
theorem leftI_zero {x : Int} (h : 0 ≤ x) : leftI x 0 = x := by unfold leftI; rw [if_neg (by omega)]; omega
theorem leftI_le {x : Int} {a : Nat} (h : ¬ leftI x a < 0) : (a : Int) ≤ x := by unfold leftI at h; split at h <;> omega
theorem ret_intU {a b : Int} (h : a = b) : Ending.returned (.int .i64 a) = .returned (.int .i64 b) := by rw [h]
theorem partsString {d : UD} (h : tyL d (uE 0)) : ∃ (z0 : ByteArray), d = .p (.string z0) .nil ∧ z0.size ≤ maxLen := by
  obtain ⟨z0, r, rfl, g0, h0⟩ := tyL.s h
  obtain rfl := tyL.nil h0
  exact ⟨z0, rfl, g0⟩
theorem partsInt {d : UD} (h : tyL d (uE 1)) : ∃ (z0 : Int), d = .p (.int .i64 z0) .nil ∧ inK .i64 z0 := by
  obtain ⟨z0, r, rfl, g0, h0⟩ := tyL.i h
  obtain rfl := tyL.nil h0
  exact ⟨z0, rfl, g0⟩
theorem partsByte {d : UD} (h : tyL d (uE 2)) : ∃ (z0 : Int), d = .p (.int .u8 z0) .nil ∧ inK .u8 z0 := by
  obtain ⟨z0, r, rfl, g0, h0⟩ := tyL.i h
  obtain rfl := tyL.nil h0
  exact ⟨z0, rfl, g0⟩
theorem partsIntS {d : UD} (h : tyL d (uE 3)) : ∃ (n0 : Nat) (c0 : UD), d = .l 1 n0 c0 .nil ∧ tyS 1 n0 c0 1 := by
  obtain ⟨n0, c0, r, rfl, g0, h0⟩ := tyL.l h
  obtain rfl := tyL.nil h0
  exact ⟨n0, c0, rfl, g0⟩
theorem partsLabel {d : UD} (h : tyL d (uE 4)) : ∃ (z0 : ByteArray) (z1 : ByteArray), d = .p (.string z0) (.p (.string z1) .nil) ∧ z0.size ≤ maxLen ∧ z1.size ≤ maxLen := by
  obtain ⟨z0, r, rfl, g0, h0⟩ := tyL.s h
  obtain ⟨z1, r, rfl, g1, h1⟩ := tyL.s h0
  obtain rfl := tyL.nil h1
  exact ⟨z0, z1, rfl, g0, g1⟩
theorem partsTerm {d : UD} (h : tyL d (uE 5)) : ∃ (z0 : Int) (z1 : ByteArray) (n2 : Nat) (c2 : UD), d = .p (.int .i64 z0) (.p (.string z1) (.l 1 n2 c2 .nil)) ∧ inK .i64 z0 ∧ z1.size ≤ maxLen ∧ tyS 1 n2 c2 0 := by
  obtain ⟨z0, r, rfl, g0, h0⟩ := tyL.i h
  obtain ⟨z1, r, rfl, g1, h1⟩ := tyL.s h0
  obtain ⟨n2, c2, r, rfl, g2, h2⟩ := tyL.l h1
  obtain rfl := tyL.nil h2
  exact ⟨z0, z1, n2, c2, rfl, g0, g1, g2⟩
theorem partsValue {d : UD} (h : tyL d (uE 6)) : ∃ (z0 : Int) (z1 : ByteArray) (z2 : Int) (n3 : Nat) (c3 : UD) (n4 : Nat) (c4 : UD), d = .p (.int .i64 z0) (.p (.string z1) (.p (.int .i64 z2) (.l 1 n3 c3 (.l 5 n4 c4 .nil)))) ∧ inK .i64 z0 ∧ z1.size ≤ maxLen ∧ inK .i64 z2 ∧ tyS 1 n3 c3 0 ∧ tyS 5 n4 c4 6 := by
  obtain ⟨z0, r, rfl, g0, h0⟩ := tyL.i h
  obtain ⟨z1, r, rfl, g1, h1⟩ := tyL.s h0
  obtain ⟨z2, r, rfl, g2, h2⟩ := tyL.i h1
  obtain ⟨n3, c3, r, rfl, g3, h3⟩ := tyL.l h2
  obtain ⟨n4, c4, r, rfl, g4, h4⟩ := tyL.l h3
  obtain rfl := tyL.nil h4
  exact ⟨z0, z1, z2, n3, c3, n4, c4, rfl, g0, g1, g2, g3, g4⟩
theorem partsOp {d : UD} (h : tyL d (uE 7)) : ∃ (z0 : Int) (n1 : Nat) (c1 : UD) (z2 : Int) (z3 : ByteArray) (z4 : Int) (n5 : Nat) (c5 : UD) (n6 : Nat) (c6 : UD), d = .p (.int .i64 z0) (.l 1 n1 c1 (.p (.int .i64 z2) (.p (.string z3) (.p (.int .i64 z4) (.l 1 n5 c5 (.l 5 n6 c6 .nil)))))) ∧ inK .i64 z0 ∧ tyS 1 n1 c1 0 ∧ inK .i64 z2 ∧ z3.size ≤ maxLen ∧ inK .i64 z4 ∧ tyS 1 n5 c5 0 ∧ tyS 5 n6 c6 6 := by
  obtain ⟨z0, r, rfl, g0, h0⟩ := tyL.i h
  obtain ⟨n1, c1, r, rfl, g1, h1⟩ := tyL.l h0
  obtain ⟨z2, r, rfl, g2, h2⟩ := tyL.i h1
  obtain ⟨z3, r, rfl, g3, h3⟩ := tyL.s h2
  obtain ⟨z4, r, rfl, g4, h4⟩ := tyL.i h3
  obtain ⟨n5, c5, r, rfl, g5, h5⟩ := tyL.l h4
  obtain ⟨n6, c6, r, rfl, g6, h6⟩ := tyL.l h5
  obtain rfl := tyL.nil h6
  exact ⟨z0, n1, c1, z2, z3, z4, n5, c5, n6, c6, rfl, g0, g1, g2, g3, g4, g5, g6⟩
theorem partsObj {d : UD} (h : tyL d (uE 8)) : ∃ (z0 : Int) (z1 : ByteArray) (z2 : Int) (z3 : Int) (z4 : Int) (z5 : Bool) (n6 : Nat) (c6 : UD) (z7 : Int) (z8 : ByteArray) (z9 : Int) (n10 : Nat) (c10 : UD) (n11 : Nat) (c11 : UD) (z12 : Int) (z13 : ByteArray) (z14 : Int) (n15 : Nat) (c15 : UD) (n16 : Nat) (c16 : UD), d = .p (.int .i64 z0) (.p (.string z1) (.p (.int .i64 z2) (.p (.int .i64 z3) (.p (.int .i64 z4) (.p (.bool z5) (.l 1 n6 c6 (.p (.int .i64 z7) (.p (.string z8) (.p (.int .i64 z9) (.l 1 n10 c10 (.l 5 n11 c11 (.p (.int .i64 z12) (.p (.string z13) (.p (.int .i64 z14) (.l 1 n15 c15 (.l 5 n16 c16 .nil)))))))))))))))) ∧ inK .i64 z0 ∧ z1.size ≤ maxLen ∧ inK .i64 z2 ∧ inK .i64 z3 ∧ inK .i64 z4 ∧ tyS 1 n6 c6 0 ∧ inK .i64 z7 ∧ z8.size ≤ maxLen ∧ inK .i64 z9 ∧ tyS 1 n10 c10 0 ∧ tyS 5 n11 c11 6 ∧ inK .i64 z12 ∧ z13.size ≤ maxLen ∧ inK .i64 z14 ∧ tyS 1 n15 c15 0 ∧ tyS 5 n16 c16 6 := by
  obtain ⟨z0, r, rfl, g0, h0⟩ := tyL.i h
  obtain ⟨z1, r, rfl, g1, h1⟩ := tyL.s h0
  obtain ⟨z2, r, rfl, g2, h2⟩ := tyL.i h1
  obtain ⟨z3, r, rfl, g3, h3⟩ := tyL.i h2
  obtain ⟨z4, r, rfl, g4, h4⟩ := tyL.i h3
  obtain ⟨z5, r, rfl, h5⟩ := tyL.b h4
  obtain ⟨n6, c6, r, rfl, g6, h6⟩ := tyL.l h5
  obtain ⟨z7, r, rfl, g7, h7⟩ := tyL.i h6
  obtain ⟨z8, r, rfl, g8, h8⟩ := tyL.s h7
  obtain ⟨z9, r, rfl, g9, h9⟩ := tyL.i h8
  obtain ⟨n10, c10, r, rfl, g10, h10⟩ := tyL.l h9
  obtain ⟨n11, c11, r, rfl, g11, h11⟩ := tyL.l h10
  obtain ⟨z12, r, rfl, g12, h12⟩ := tyL.i h11
  obtain ⟨z13, r, rfl, g13, h13⟩ := tyL.s h12
  obtain ⟨z14, r, rfl, g14, h14⟩ := tyL.i h13
  obtain ⟨n15, c15, r, rfl, g15, h15⟩ := tyL.l h14
  obtain ⟨n16, c16, r, rfl, g16, h16⟩ := tyL.l h15
  obtain rfl := tyL.nil h16
  exact ⟨z0, z1, z2, z3, z4, z5, n6, c6, z7, z8, z9, n10, c10, n11, c11, z12, z13, z14, n15, c15, n16, c16, rfl, g0, g1, g2, g3, g4, g6, g7, g8, g9, g10, g11, g12, g13, g14, g15, g16⟩
theorem partsChange {d : UD} (h : tyL d (uE 9)) : ∃ (z0 : Int) (z1 : Bool) (z2 : Int) (z3 : ByteArray) (z4 : Int) (z5 : Int) (z6 : Int) (z7 : Bool) (n8 : Nat) (c8 : UD) (z9 : Int) (z10 : ByteArray) (z11 : Int) (n12 : Nat) (c12 : UD) (n13 : Nat) (c13 : UD) (z14 : Int) (z15 : ByteArray) (z16 : Int) (n17 : Nat) (c17 : UD) (n18 : Nat) (c18 : UD), d = .p (.int .i64 z0) (.p (.bool z1) (.p (.int .i64 z2) (.p (.string z3) (.p (.int .i64 z4) (.p (.int .i64 z5) (.p (.int .i64 z6) (.p (.bool z7) (.l 1 n8 c8 (.p (.int .i64 z9) (.p (.string z10) (.p (.int .i64 z11) (.l 1 n12 c12 (.l 5 n13 c13 (.p (.int .i64 z14) (.p (.string z15) (.p (.int .i64 z16) (.l 1 n17 c17 (.l 5 n18 c18 .nil)))))))))))))))))) ∧ inK .i64 z0 ∧ inK .i64 z2 ∧ z3.size ≤ maxLen ∧ inK .i64 z4 ∧ inK .i64 z5 ∧ inK .i64 z6 ∧ tyS 1 n8 c8 0 ∧ inK .i64 z9 ∧ z10.size ≤ maxLen ∧ inK .i64 z11 ∧ tyS 1 n12 c12 0 ∧ tyS 5 n13 c13 6 ∧ inK .i64 z14 ∧ z15.size ≤ maxLen ∧ inK .i64 z16 ∧ tyS 1 n17 c17 0 ∧ tyS 5 n18 c18 6 := by
  obtain ⟨z0, r, rfl, g0, h0⟩ := tyL.i h
  obtain ⟨z1, r, rfl, h1⟩ := tyL.b h0
  obtain ⟨z2, r, rfl, g2, h2⟩ := tyL.i h1
  obtain ⟨z3, r, rfl, g3, h3⟩ := tyL.s h2
  obtain ⟨z4, r, rfl, g4, h4⟩ := tyL.i h3
  obtain ⟨z5, r, rfl, g5, h5⟩ := tyL.i h4
  obtain ⟨z6, r, rfl, g6, h6⟩ := tyL.i h5
  obtain ⟨z7, r, rfl, h7⟩ := tyL.b h6
  obtain ⟨n8, c8, r, rfl, g8, h8⟩ := tyL.l h7
  obtain ⟨z9, r, rfl, g9, h9⟩ := tyL.i h8
  obtain ⟨z10, r, rfl, g10, h10⟩ := tyL.s h9
  obtain ⟨z11, r, rfl, g11, h11⟩ := tyL.i h10
  obtain ⟨n12, c12, r, rfl, g12, h12⟩ := tyL.l h11
  obtain ⟨n13, c13, r, rfl, g13, h13⟩ := tyL.l h12
  obtain ⟨z14, r, rfl, g14, h14⟩ := tyL.i h13
  obtain ⟨z15, r, rfl, g15, h15⟩ := tyL.s h14
  obtain ⟨z16, r, rfl, g16, h16⟩ := tyL.i h15
  obtain ⟨n17, c17, r, rfl, g17, h17⟩ := tyL.l h16
  obtain ⟨n18, c18, r, rfl, g18, h18⟩ := tyL.l h17
  obtain rfl := tyL.nil h18
  exact ⟨z0, z1, z2, z3, z4, z5, z6, z7, n8, c8, z9, z10, z11, n12, c12, n13, c13, z14, z15, z16, n17, c17, n18, c18, rfl, g0, g2, g3, g4, g5, g6, g8, g9, g10, g11, g12, g13, g14, g15, g16, g17, g18⟩
theorem partsBase {d : UD} (h : tyL d (uE 10)) : ∃ (n0 : Nat) (c0 : UD) (z1 : Int) (z2 : Int) (n3 : Nat) (c3 : UD), d = .l 17 n0 c0 (.p (.int .i64 z1) (.p (.int .i64 z2) (.l 19 n3 c3 .nil))) ∧ tyS 17 n0 c0 8 ∧ inK .i64 z1 ∧ inK .i64 z2 ∧ tyS 19 n3 c3 9 := by
  obtain ⟨n0, c0, r, rfl, g0, h0⟩ := tyL.l h
  obtain ⟨z1, r, rfl, g1, h1⟩ := tyL.i h0
  obtain ⟨z2, r, rfl, g2, h2⟩ := tyL.i h1
  obtain ⟨n3, c3, r, rfl, g3, h3⟩ := tyL.l h2
  obtain rfl := tyL.nil h3
  exact ⟨n0, c0, z1, z2, n3, c3, rfl, g0, g1, g2, g3⟩
theorem partsMirror {d : UD} (h : tyL d (uE 11)) : ∃ (z0 : Int) (n1 : Nat) (c1 : UD), d = .p (.int .i64 z0) (.l 17 n1 c1 .nil) ∧ inK .i64 z0 ∧ tyS 17 n1 c1 8 := by
  obtain ⟨z0, r, rfl, g0, h0⟩ := tyL.i h
  obtain ⟨n1, c1, r, rfl, g1, h1⟩ := tyL.l h0
  obtain rfl := tyL.nil h1
  exact ⟨z0, n1, c1, rfl, g0, g1⟩
theorem partsItem {d : UD} (h : tyL d (uE 12)) : ∃ (z0 : ByteArray) (z1 : Int) (z2 : Int), d = .p (.string z0) (.p (.int .i64 z1) (.p (.int .i64 z2) .nil)) ∧ z0.size ≤ maxLen ∧ inK .i64 z1 ∧ inK .i64 z2 := by
  obtain ⟨z0, r, rfl, g0, h0⟩ := tyL.s h
  obtain ⟨z1, r, rfl, g1, h1⟩ := tyL.i h0
  obtain ⟨z2, r, rfl, g2, h2⟩ := tyL.i h1
  obtain rfl := tyL.nil h2
  exact ⟨z0, z1, z2, rfl, g0, g1, g2⟩
theorem partsQueue {d : UD} (h : tyL d (uE 13)) : ∃ (n0 : Nat) (c0 : UD) (n1 : Nat) (c1 : UD) (n2 : Nat) (c2 : UD) (z3 : Int), d = .l 3 n0 c0 (.l 3 n1 c1 (.l 1 n2 c2 (.p (.int .i64 z3) .nil))) ∧ tyS 3 n0 c0 12 ∧ tyS 3 n1 c1 12 ∧ tyS 1 n2 c2 0 ∧ inK .i64 z3 := by
  obtain ⟨n0, c0, r, rfl, g0, h0⟩ := tyL.l h
  obtain ⟨n1, c1, r, rfl, g1, h1⟩ := tyL.l h0
  obtain ⟨n2, c2, r, rfl, g2, h2⟩ := tyL.l h1
  obtain ⟨z3, r, rfl, g3, h3⟩ := tyL.i h2
  obtain rfl := tyL.nil h3
  exact ⟨n0, c0, n1, c1, n2, c2, z3, rfl, g0, g1, g2, g3⟩
theorem partsIsland {d : UD} (h : tyL d (uE 14)) : ∃ (z0 : ByteArray) (n1 : Nat) (c1 : UD) (n2 : Nat) (c2 : UD) (z3 : Int), d = .p (.string z0) (.l 2 n1 c1 (.l 1 n2 c2 (.p (.int .i64 z3) .nil))) ∧ z0.size ≤ maxLen ∧ tyS 2 n1 c1 4 ∧ tyS 1 n2 c2 0 ∧ inK .i64 z3 := by
  obtain ⟨z0, r, rfl, g0, h0⟩ := tyL.s h
  obtain ⟨n1, c1, r, rfl, g1, h1⟩ := tyL.l h0
  obtain ⟨n2, c2, r, rfl, g2, h2⟩ := tyL.l h1
  obtain ⟨z3, r, rfl, g3, h3⟩ := tyL.i h2
  obtain rfl := tyL.nil h3
  exact ⟨z0, n1, c1, n2, c2, z3, rfl, g0, g1, g2, g3⟩
theorem partsWeigh {d : UD} (h : tyL d (uE 15)) : ∃ (z0 : ByteArray) (z1 : Int), d = .p (.string z0) (.p (.int .i64 z1) .nil) ∧ z0.size ≤ maxLen ∧ inK .i64 z1 := by
  obtain ⟨z0, r, rfl, g0, h0⟩ := tyL.s h
  obtain ⟨z1, r, rfl, g1, h1⟩ := tyL.i h0
  obtain rfl := tyL.nil h1
  exact ⟨z0, z1, rfl, g0, g1⟩
theorem partsWant {d : UD} (h : tyL d (uE 16)) : ∃ (z0 : Int) (n1 : Nat) (c1 : UD) (n2 : Nat) (c2 : UD) (n3 : Nat) (c3 : UD), d = .p (.int .i64 z0) (.l 3 n1 c1 (.l 1 n2 c2 (.l 2 n3 c3 .nil))) ∧ inK .i64 z0 ∧ tyS 3 n1 c1 5 ∧ tyS 1 n2 c2 0 ∧ tyS 2 n3 c3 15 := by
  obtain ⟨z0, r, rfl, g0, h0⟩ := tyL.i h
  obtain ⟨n1, c1, r, rfl, g1, h1⟩ := tyL.l h0
  obtain ⟨n2, c2, r, rfl, g2, h2⟩ := tyL.l h1
  obtain ⟨n3, c3, r, rfl, g3, h3⟩ := tyL.l h2
  obtain rfl := tyL.nil h3
  exact ⟨z0, n1, c1, n2, c2, n3, c3, rfl, g0, g1, g2, g3⟩
theorem partsOver {d : UD} (h : tyL d (uE 17)) : ∃ (z0 : ByteArray) (n1 : Nat) (c1 : UD), d = .p (.string z0) (.l 7 n1 c1 .nil) ∧ z0.size ≤ maxLen ∧ tyS 7 n1 c1 7 := by
  obtain ⟨z0, r, rfl, g0, h0⟩ := tyL.s h
  obtain ⟨n1, c1, r, rfl, g1, h1⟩ := tyL.l h0
  obtain rfl := tyL.nil h1
  exact ⟨z0, n1, c1, rfl, g0, g1⟩
theorem partsJob {d : UD} (h : tyL d (uE 18)) : ∃ (z0 : Int) (z1 : ByteArray) (z2 : Int) (n3 : Nat) (c3 : UD) (n4 : Nat) (c4 : UD) (n5 : Nat) (c5 : UD) (z6 : Int) (z7 : ByteArray) (z8 : Int) (n9 : Nat) (c9 : UD) (n10 : Nat) (c10 : UD) (n11 : Nat) (c11 : UD) (z12 : Bool), d = .p (.int .i64 z0) (.p (.string z1) (.p (.int .i64 z2) (.l 3 n3 c3 (.l 1 n4 c4 (.l 2 n5 c5 (.p (.int .i64 z6) (.p (.string z7) (.p (.int .i64 z8) (.l 1 n9 c9 (.l 5 n10 c10 (.l 2 n11 c11 (.p (.bool z12) .nil)))))))))))) ∧ inK .i64 z0 ∧ z1.size ≤ maxLen ∧ inK .i64 z2 ∧ tyS 3 n3 c3 5 ∧ tyS 1 n4 c4 0 ∧ tyS 2 n5 c5 15 ∧ inK .i64 z6 ∧ z7.size ≤ maxLen ∧ inK .i64 z8 ∧ tyS 1 n9 c9 0 ∧ tyS 5 n10 c10 6 ∧ tyS 2 n11 c11 17 := by
  obtain ⟨z0, r, rfl, g0, h0⟩ := tyL.i h
  obtain ⟨z1, r, rfl, g1, h1⟩ := tyL.s h0
  obtain ⟨z2, r, rfl, g2, h2⟩ := tyL.i h1
  obtain ⟨n3, c3, r, rfl, g3, h3⟩ := tyL.l h2
  obtain ⟨n4, c4, r, rfl, g4, h4⟩ := tyL.l h3
  obtain ⟨n5, c5, r, rfl, g5, h5⟩ := tyL.l h4
  obtain ⟨z6, r, rfl, g6, h6⟩ := tyL.i h5
  obtain ⟨z7, r, rfl, g7, h7⟩ := tyL.s h6
  obtain ⟨z8, r, rfl, g8, h8⟩ := tyL.i h7
  obtain ⟨n9, c9, r, rfl, g9, h9⟩ := tyL.l h8
  obtain ⟨n10, c10, r, rfl, g10, h10⟩ := tyL.l h9
  obtain ⟨n11, c11, r, rfl, g11, h11⟩ := tyL.l h10
  obtain ⟨z12, r, rfl, h12⟩ := tyL.b h11
  obtain rfl := tyL.nil h12
  exact ⟨z0, z1, z2, n3, c3, n4, c4, n5, c5, z6, z7, z8, n9, c9, n10, c10, n11, c11, z12, rfl, g0, g1, g2, g3, g4, g5, g6, g7, g8, g9, g10, g11⟩
theorem partsPost {d : UD} (h : tyL d (uE 19)) : ∃ (z0 : ByteArray) (n1 : Nat) (c1 : UD) (n2 : Nat) (c2 : UD) (z3 : Int) (z4 : Int) (z5 : Int), d = .p (.string z0) (.l 2 n1 c1 (.l 1 n2 c2 (.p (.int .i64 z3) (.p (.int .i64 z4) (.p (.int .i64 z5) .nil))))) ∧ z0.size ≤ maxLen ∧ tyS 2 n1 c1 4 ∧ tyS 1 n2 c2 0 ∧ inK .i64 z3 ∧ inK .i64 z4 ∧ inK .i64 z5 := by
  obtain ⟨z0, r, rfl, g0, h0⟩ := tyL.s h
  obtain ⟨n1, c1, r, rfl, g1, h1⟩ := tyL.l h0
  obtain ⟨n2, c2, r, rfl, g2, h2⟩ := tyL.l h1
  obtain ⟨z3, r, rfl, g3, h3⟩ := tyL.i h2
  obtain ⟨z4, r, rfl, g4, h4⟩ := tyL.i h3
  obtain ⟨z5, r, rfl, g5, h5⟩ := tyL.i h4
  obtain rfl := tyL.nil h5
  exact ⟨z0, n1, c1, n2, c2, z3, z4, z5, rfl, g0, g1, g2, g3, g4, g5⟩
theorem partsHold {d : UD} (h : tyL d (uE 20)) : ∃ (z0 : Int) (z1 : ByteArray) (z2 : Int) (z3 : Int) (z4 : Int), d = .p (.int .i64 z0) (.p (.string z1) (.p (.int .i64 z2) (.p (.int .i64 z3) (.p (.int .i64 z4) .nil)))) ∧ inK .i64 z0 ∧ z1.size ≤ maxLen ∧ inK .i64 z2 ∧ inK .i64 z3 ∧ inK .i64 z4 := by
  obtain ⟨z0, r, rfl, g0, h0⟩ := tyL.i h
  obtain ⟨z1, r, rfl, g1, h1⟩ := tyL.s h0
  obtain ⟨z2, r, rfl, g2, h2⟩ := tyL.i h1
  obtain ⟨z3, r, rfl, g3, h3⟩ := tyL.i h2
  obtain ⟨z4, r, rfl, g4, h4⟩ := tyL.i h3
  obtain rfl := tyL.nil h4
  exact ⟨z0, z1, z2, z3, z4, rfl, g0, g1, g2, g3, g4⟩
theorem partsHub {d : UD} (h : tyL d (uE 21)) : ∃ (z0 : Int) (z1 : Int) (z2 : Int) (n3 : Nat) (c3 : UD) (n4 : Nat) (c4 : UD) (n5 : Nat) (c5 : UD) (n6 : Nat) (c6 : UD), d = .p (.int .i64 z0) (.p (.int .i64 z1) (.p (.int .i64 z2) (.l 13 n3 c3 (.l 6 n4 c4 (.l 5 n5 c5 (.l 1 n6 c6 .nil)))))) ∧ inK .i64 z0 ∧ inK .i64 z1 ∧ inK .i64 z2 ∧ tyS 13 n3 c3 18 ∧ tyS 6 n4 c4 19 ∧ tyS 5 n5 c5 20 ∧ tyS 1 n6 c6 0 := by
  obtain ⟨z0, r, rfl, g0, h0⟩ := tyL.i h
  obtain ⟨z1, r, rfl, g1, h1⟩ := tyL.i h0
  obtain ⟨z2, r, rfl, g2, h2⟩ := tyL.i h1
  obtain ⟨n3, c3, r, rfl, g3, h3⟩ := tyL.l h2
  obtain ⟨n4, c4, r, rfl, g4, h4⟩ := tyL.l h3
  obtain ⟨n5, c5, r, rfl, g5, h5⟩ := tyL.l h4
  obtain ⟨n6, c6, r, rfl, g6, h6⟩ := tyL.l h5
  obtain rfl := tyL.nil h6
  exact ⟨z0, z1, z2, n3, c3, n4, c4, n5, c5, n6, c6, rfl, g0, g1, g2, g3, g4, g5, g6⟩
theorem partsRun {d : UD} (h : tyL d (uE 22)) : ∃ (z0 : Int) (z1 : Int), d = .p (.int .i64 z0) (.p (.int .i64 z1) .nil) ∧ inK .i64 z0 ∧ inK .i64 z1 := by
  obtain ⟨z0, r, rfl, g0, h0⟩ := tyL.i h
  obtain ⟨z1, r, rfl, g1, h1⟩ := tyL.i h0
  obtain rfl := tyL.nil h1
  exact ⟨z0, z1, rfl, g0, g1⟩
theorem partsWork {d : UD} (h : tyL d (uE 23)) : ∃ (z0 : Int) (z1 : Int) (z2 : Int) (z3 : ByteArray) (z4 : Int) (n5 : Nat) (c5 : UD) (n6 : Nat) (c6 : UD), d = .p (.int .i64 z0) (.p (.int .i64 z1) (.p (.int .i64 z2) (.p (.string z3) (.p (.int .i64 z4) (.l 1 n5 c5 (.l 5 n6 c6 .nil)))))) ∧ inK .i64 z0 ∧ inK .i64 z1 ∧ inK .i64 z2 ∧ z3.size ≤ maxLen ∧ inK .i64 z4 ∧ tyS 1 n5 c5 0 ∧ tyS 5 n6 c6 6 := by
  obtain ⟨z0, r, rfl, g0, h0⟩ := tyL.i h
  obtain ⟨z1, r, rfl, g1, h1⟩ := tyL.i h0
  obtain ⟨z2, r, rfl, g2, h2⟩ := tyL.i h1
  obtain ⟨z3, r, rfl, g3, h3⟩ := tyL.s h2
  obtain ⟨z4, r, rfl, g4, h4⟩ := tyL.i h3
  obtain ⟨n5, c5, r, rfl, g5, h5⟩ := tyL.l h4
  obtain ⟨n6, c6, r, rfl, g6, h6⟩ := tyL.l h5
  obtain rfl := tyL.nil h6
  exact ⟨z0, z1, z2, z3, z4, n5, c5, n6, c6, rfl, g0, g1, g2, g3, g4, g5, g6⟩
theorem partsIsle {d : UD} (h : tyL d (uE 24)) : ∃ (z0 : ByteArray) (z1 : Int) (z2 : Int) (n3 : Nat) (c3 : UD) (n4 : Nat) (c4 : UD), d = .p (.string z0) (.p (.int .i64 z1) (.p (.int .i64 z2) (.l 7 n3 c3 (.l 2 n4 c4 .nil)))) ∧ z0.size ≤ maxLen ∧ inK .i64 z1 ∧ inK .i64 z2 ∧ tyS 7 n3 c3 23 ∧ tyS 2 n4 c4 22 := by
  obtain ⟨z0, r, rfl, g0, h0⟩ := tyL.s h
  obtain ⟨z1, r, rfl, g1, h1⟩ := tyL.i h0
  obtain ⟨z2, r, rfl, g2, h2⟩ := tyL.i h1
  obtain ⟨n3, c3, r, rfl, g3, h3⟩ := tyL.l h2
  obtain ⟨n4, c4, r, rfl, g4, h4⟩ := tyL.l h3
  obtain rfl := tyL.nil h4
  exact ⟨z0, z1, z2, n3, c3, n4, c4, rfl, g0, g1, g2, g3, g4⟩
theorem partsMsg {d : UD} (h : tyL d (uE 25)) : ∃ (z0 : Int) (z1 : ByteArray) (z2 : Int) (n3 : Nat) (c3 : UD) (n4 : Nat) (c4 : UD), d = .p (.int .i64 z0) (.p (.string z1) (.p (.int .i64 z2) (.l 7 n3 c3 (.l 2 n4 c4 .nil)))) ∧ inK .i64 z0 ∧ z1.size ≤ maxLen ∧ inK .i64 z2 ∧ tyS 7 n3 c3 23 ∧ tyS 2 n4 c4 22 := by
  obtain ⟨z0, r, rfl, g0, h0⟩ := tyL.i h
  obtain ⟨z1, r, rfl, g1, h1⟩ := tyL.s h0
  obtain ⟨z2, r, rfl, g2, h2⟩ := tyL.i h1
  obtain ⟨n3, c3, r, rfl, g3, h3⟩ := tyL.l h2
  obtain ⟨n4, c4, r, rfl, g4, h4⟩ := tyL.l h3
  obtain rfl := tyL.nil h4
  exact ⟨z0, z1, z2, n3, c3, n4, c4, rfl, g0, g1, g2, g3, g4⟩
theorem partsAct {d : UD} (h : tyL d (uE 26)) : ∃ (z0 : Int) (z1 : ByteArray) (z2 : Int) (z3 : Int) (n4 : Nat) (c4 : UD) (n5 : Nat) (c5 : UD) (n6 : Nat) (c6 : UD) (z7 : Int) (z8 : ByteArray) (z9 : Int) (n10 : Nat) (c10 : UD) (n11 : Nat) (c11 : UD) (n12 : Nat) (c12 : UD) (z13 : ByteArray) (n14 : Nat) (c14 : UD) (n15 : Nat) (c15 : UD) (z16 : Int) (n17 : Nat) (c17 : UD), d = .p (.int .i64 z0) (.p (.string z1) (.p (.int .i64 z2) (.p (.int .i64 z3) (.l 3 n4 c4 (.l 1 n5 c5 (.l 2 n6 c6 (.p (.int .i64 z7) (.p (.string z8) (.p (.int .i64 z9) (.l 1 n10 c10 (.l 5 n11 c11 (.l 2 n12 c12 (.p (.string z13) (.l 2 n14 c14 (.l 1 n15 c15 (.p (.int .i64 z16) (.l 2 n17 c17 .nil))))))))))))))))) ∧ inK .i64 z0 ∧ z1.size ≤ maxLen ∧ inK .i64 z2 ∧ inK .i64 z3 ∧ tyS 3 n4 c4 5 ∧ tyS 1 n5 c5 0 ∧ tyS 2 n6 c6 15 ∧ inK .i64 z7 ∧ z8.size ≤ maxLen ∧ inK .i64 z9 ∧ tyS 1 n10 c10 0 ∧ tyS 5 n11 c11 6 ∧ tyS 2 n12 c12 17 ∧ z13.size ≤ maxLen ∧ tyS 2 n14 c14 4 ∧ tyS 1 n15 c15 0 ∧ inK .i64 z16 ∧ tyS 2 n17 c17 22 := by
  obtain ⟨z0, r, rfl, g0, h0⟩ := tyL.i h
  obtain ⟨z1, r, rfl, g1, h1⟩ := tyL.s h0
  obtain ⟨z2, r, rfl, g2, h2⟩ := tyL.i h1
  obtain ⟨z3, r, rfl, g3, h3⟩ := tyL.i h2
  obtain ⟨n4, c4, r, rfl, g4, h4⟩ := tyL.l h3
  obtain ⟨n5, c5, r, rfl, g5, h5⟩ := tyL.l h4
  obtain ⟨n6, c6, r, rfl, g6, h6⟩ := tyL.l h5
  obtain ⟨z7, r, rfl, g7, h7⟩ := tyL.i h6
  obtain ⟨z8, r, rfl, g8, h8⟩ := tyL.s h7
  obtain ⟨z9, r, rfl, g9, h9⟩ := tyL.i h8
  obtain ⟨n10, c10, r, rfl, g10, h10⟩ := tyL.l h9
  obtain ⟨n11, c11, r, rfl, g11, h11⟩ := tyL.l h10
  obtain ⟨n12, c12, r, rfl, g12, h12⟩ := tyL.l h11
  obtain ⟨z13, r, rfl, g13, h13⟩ := tyL.s h12
  obtain ⟨n14, c14, r, rfl, g14, h14⟩ := tyL.l h13
  obtain ⟨n15, c15, r, rfl, g15, h15⟩ := tyL.l h14
  obtain ⟨z16, r, rfl, g16, h16⟩ := tyL.i h15
  obtain ⟨n17, c17, r, rfl, g17, h17⟩ := tyL.l h16
  obtain rfl := tyL.nil h17
  exact ⟨z0, z1, z2, z3, n4, c4, n5, c5, n6, c6, z7, z8, z9, n10, c10, n11, c11, n12, c12, z13, n14, c14, n15, c15, z16, n17, c17, rfl, g0, g1, g2, g3, g4, g5, g6, g7, g8, g9, g10, g11, g12, g13, g14, g15, g16, g17⟩
theorem partsEvent {d : UD} (h : tyL d (uE 27)) : ∃ (z0 : Int) (z1 : Int) (z2 : ByteArray) (z3 : Int) (z4 : Int) (n5 : Nat) (c5 : UD) (n6 : Nat) (c6 : UD) (n7 : Nat) (c7 : UD) (z8 : Int) (z9 : ByteArray) (z10 : Int) (n11 : Nat) (c11 : UD) (n12 : Nat) (c12 : UD) (n13 : Nat) (c13 : UD) (z14 : ByteArray) (n15 : Nat) (c15 : UD) (n16 : Nat) (c16 : UD) (z17 : Int) (n18 : Nat) (c18 : UD) (z19 : ByteArray) (z20 : Int) (z21 : Int), d = .p (.int .i64 z0) (.p (.int .i64 z1) (.p (.string z2) (.p (.int .i64 z3) (.p (.int .i64 z4) (.l 3 n5 c5 (.l 1 n6 c6 (.l 2 n7 c7 (.p (.int .i64 z8) (.p (.string z9) (.p (.int .i64 z10) (.l 1 n11 c11 (.l 5 n12 c12 (.l 2 n13 c13 (.p (.string z14) (.l 2 n15 c15 (.l 1 n16 c16 (.p (.int .i64 z17) (.l 2 n18 c18 (.p (.string z19) (.p (.int .i64 z20) (.p (.int .i64 z21) .nil))))))))))))))))))))) ∧ inK .i64 z0 ∧ inK .i64 z1 ∧ z2.size ≤ maxLen ∧ inK .i64 z3 ∧ inK .i64 z4 ∧ tyS 3 n5 c5 5 ∧ tyS 1 n6 c6 0 ∧ tyS 2 n7 c7 15 ∧ inK .i64 z8 ∧ z9.size ≤ maxLen ∧ inK .i64 z10 ∧ tyS 1 n11 c11 0 ∧ tyS 5 n12 c12 6 ∧ tyS 2 n13 c13 17 ∧ z14.size ≤ maxLen ∧ tyS 2 n15 c15 4 ∧ tyS 1 n16 c16 0 ∧ inK .i64 z17 ∧ tyS 2 n18 c18 22 ∧ z19.size ≤ maxLen ∧ inK .i64 z20 ∧ inK .i64 z21 := by
  obtain ⟨z0, r, rfl, g0, h0⟩ := tyL.i h
  obtain ⟨z1, r, rfl, g1, h1⟩ := tyL.i h0
  obtain ⟨z2, r, rfl, g2, h2⟩ := tyL.s h1
  obtain ⟨z3, r, rfl, g3, h3⟩ := tyL.i h2
  obtain ⟨z4, r, rfl, g4, h4⟩ := tyL.i h3
  obtain ⟨n5, c5, r, rfl, g5, h5⟩ := tyL.l h4
  obtain ⟨n6, c6, r, rfl, g6, h6⟩ := tyL.l h5
  obtain ⟨n7, c7, r, rfl, g7, h7⟩ := tyL.l h6
  obtain ⟨z8, r, rfl, g8, h8⟩ := tyL.i h7
  obtain ⟨z9, r, rfl, g9, h9⟩ := tyL.s h8
  obtain ⟨z10, r, rfl, g10, h10⟩ := tyL.i h9
  obtain ⟨n11, c11, r, rfl, g11, h11⟩ := tyL.l h10
  obtain ⟨n12, c12, r, rfl, g12, h12⟩ := tyL.l h11
  obtain ⟨n13, c13, r, rfl, g13, h13⟩ := tyL.l h12
  obtain ⟨z14, r, rfl, g14, h14⟩ := tyL.s h13
  obtain ⟨n15, c15, r, rfl, g15, h15⟩ := tyL.l h14
  obtain ⟨n16, c16, r, rfl, g16, h16⟩ := tyL.l h15
  obtain ⟨z17, r, rfl, g17, h17⟩ := tyL.i h16
  obtain ⟨n18, c18, r, rfl, g18, h18⟩ := tyL.l h17
  obtain ⟨z19, r, rfl, g19, h19⟩ := tyL.s h18
  obtain ⟨z20, r, rfl, g20, h20⟩ := tyL.i h19
  obtain ⟨z21, r, rfl, g21, h21⟩ := tyL.i h20
  obtain rfl := tyL.nil h21
  exact ⟨z0, z1, z2, z3, z4, n5, c5, n6, c6, n7, c7, z8, z9, z10, n11, c11, n12, c12, n13, c13, z14, n15, c15, n16, c16, z17, n18, c18, z19, z20, z21, rfl, g0, g1, g2, g3, g4, g5, g6, g7, g8, g9, g10, g11, g12, g13, g14, g15, g16, g17, g18, g19, g20, g21⟩
theorem partsPart {d : UD} (h : tyL d (uE 28)) : ∃ (z0 : ByteArray) (z1 : Int), d = .p (.string z0) (.p (.int .i64 z1) .nil) ∧ z0.size ≤ maxLen ∧ inK .i64 z1 := by
  obtain ⟨z0, r, rfl, g0, h0⟩ := tyL.s h
  obtain ⟨z1, r, rfl, g1, h1⟩ := tyL.i h0
  obtain rfl := tyL.nil h1
  exact ⟨z0, z1, rfl, g0, g1⟩
theorem partsFed {d : UD} (h : tyL d (uE 29)) : ∃ (z0 : Int) (z1 : Int) (z2 : Int) (n3 : Nat) (c3 : UD) (n4 : Nat) (c4 : UD) (n5 : Nat) (c5 : UD) (n6 : Nat) (c6 : UD) (z7 : Bool) (n8 : Nat) (c8 : UD) (n9 : Nat) (c9 : UD) (n10 : Nat) (c10 : UD) (n11 : Nat) (c11 : UD), d = .p (.int .i64 z0) (.p (.int .i64 z1) (.p (.int .i64 z2) (.l 13 n3 c3 (.l 6 n4 c4 (.l 5 n5 c5 (.l 1 n6 c6 (.p (.bool z7) (.l 1 n8 c8 (.l 5 n9 c9 (.l 5 n10 c10 (.l 1 n11 c11 .nil))))))))))) ∧ inK .i64 z0 ∧ inK .i64 z1 ∧ inK .i64 z2 ∧ tyS 13 n3 c3 18 ∧ tyS 6 n4 c4 19 ∧ tyS 5 n5 c5 20 ∧ tyS 1 n6 c6 0 ∧ tyS 1 n8 c8 2 ∧ tyS 5 n9 c9 24 ∧ tyS 5 n10 c10 25 ∧ tyS 1 n11 c11 0 := by
  obtain ⟨z0, r, rfl, g0, h0⟩ := tyL.i h
  obtain ⟨z1, r, rfl, g1, h1⟩ := tyL.i h0
  obtain ⟨z2, r, rfl, g2, h2⟩ := tyL.i h1
  obtain ⟨n3, c3, r, rfl, g3, h3⟩ := tyL.l h2
  obtain ⟨n4, c4, r, rfl, g4, h4⟩ := tyL.l h3
  obtain ⟨n5, c5, r, rfl, g5, h5⟩ := tyL.l h4
  obtain ⟨n6, c6, r, rfl, g6, h6⟩ := tyL.l h5
  obtain ⟨z7, r, rfl, h7⟩ := tyL.b h6
  obtain ⟨n8, c8, r, rfl, g8, h8⟩ := tyL.l h7
  obtain ⟨n9, c9, r, rfl, g9, h9⟩ := tyL.l h8
  obtain ⟨n10, c10, r, rfl, g10, h10⟩ := tyL.l h9
  obtain ⟨n11, c11, r, rfl, g11, h11⟩ := tyL.l h10
  obtain rfl := tyL.nil h11
  exact ⟨z0, z1, z2, n3, c3, n4, c4, n5, c5, n6, c6, z7, n8, c8, n9, c9, n10, c10, n11, c11, rfl, g0, g1, g2, g3, g4, g5, g6, g8, g9, g10, g11⟩
end Go.Proofs.Ytddojjigijfgbaa
/- Data as cells: marking them cell by cell; structs in their blocks. -/
namespace Go.Proofs.Ytddojjigijfgbaa
open Go.RowKit
set_option linter.unusedVariables false

/-- where the marking of a slice's cells stands: those before i are marked -/
def MS (w0 w : World) (e : TypeId) (k n : Nat) (c : Value) (g : Nat) (cs : UD) (j0 : Nat) (S : List Nat) (xs0 : List Value) (i : Nat) : Prop :=
  ∃ xs, w.ownsRow 0 e k c n xs ∧ oH w (mixU cs j0 i) xs S ∧ OutS (g :: S) w0 w ∧ (∀ p, i ≤ p → xs[p]? = xs0[p]?) ∧ g ∉ S ∧ S.Nodup ∧ c.ownBlock = some g ∧ cs.len = n * k
theorem blkOf_some {c : Value} {g : Nat} (h : c.ownBlock = some g) : blkOf c = [g] := by unfold blkOf; rw [h]
theorem MS.below {w0 w w' : World} {e : TypeId} {k n : Nat} {c : Value} {g : Nat} {cs : UD} {j0 : Nat} {S : List Nat} {xs0 : List Value} {i : Nat} (h : MS w0 w e k n c g cs j0 S xs0 i) (hb : Below w.heap.size w w') : MS w0 w' e k n c g cs j0 S xs0 i := by
  obtain ⟨xs, h1, h2, h3, h4, h5, h6, h7, h8⟩ := h
  exact ⟨xs, uowns_frame h1 (fun x hx => hb.block x (ublk_lt h1 x hx).2), h2.below hb, h3.trans (OutS.of_below hb), h4, h5, h6, h7, h8⟩
theorem MS.own {w0 w : World} {e : TypeId} {k n : Nat} {c : Value} {g : Nat} {cs : UD} {j0 : Nat} {S : List Nat} {xs0 : List Value} {i : Nat} (h : MS w0 w e k n c g cs j0 S xs0 i) : ∃ cap, c = .slice (some ⟨g, 0, none⟩) n cap ∧ g < w.heap.size := by
  obtain ⟨xs, h1, h2, h3, h4, h5, h6, h7, h8⟩ := h
  have hl := uowns_blk h1 h7
  rcases h1.2 with ⟨rfl, _⟩ | ⟨g', cap, cur, rfl, _⟩
  · cases h7
  · cases h7; exact ⟨cap, rfl, hl.2⟩
theorem MS.cellAt {w0 w : World} {e : TypeId} {k n : Nat} {cap : Nat} {g : Nat} {cs : UD} {j0 : Nat} {S : List Nat} {xs0 : List Value} {i : Nat} (h : MS w0 w e k n (.slice (some ⟨g, 0, none⟩) n cap) g cs j0 S xs0 i) (p : Nat) (v : Value) (hp : i ≤ p) (hv : xs0[p]? = some v) (hn : p < n * k) : w.cell? ⟨g, p, none⟩ = some v := by
  obtain ⟨xs, h1, h2, h3, h4, h5, h6, h7, h8⟩ := h
  rw [h1.cellAt p hn, h4 p hp, hv]
theorem MS.fz {w0 w : World} {e : TypeId} {k n : Nat} {cap : Nat} {g : Nat} {cs : UD} {j0 : Nat} {S : List Nat} {xs0 : List Value} {i : Nat} (h : MS w0 w e k n (.slice (some ⟨g, 0, none⟩) n cap) g cs j0 S xs0 i) (p : Nat) : w.frozen? ⟨g, p, none⟩ = false := by
  obtain ⟨xs, h1, _⟩ := h
  exact h1.frozenAt p
theorem MS.plain {w0 w : World} {e : TypeId} {k n : Nat} {cap : Nat} {g : Nat} {cs : UD} {j0 : Nat} {S : List Nat} {xs0 : List Value} {i : Nat} (h : MS w0 w e k n (.slice (some ⟨g, 0, none⟩) n cap) g cs j0 S xs0 i) {v u : Value} (he : cs.at? i = some (.p v)) (hu : u = mkP (j0 + cnt (cs.takeN i)) v) : MS w0 (w.setCell ⟨g, i, none⟩ u) e k n (.slice (some ⟨g, 0, none⟩) n cap) g cs j0 S xs0 (i + 1) := by
  obtain ⟨xs, h1, h2, h3, h4, h5, h6, h7, h8⟩ := h
  refine ⟨xs.set i u, (h1.stored i u).1, ?_, h3.setCell (p := ⟨g, i, none⟩) (by simp) u, fun p hp => ?_, h5, h6, h7, h8⟩
  · have h9 := (h2.outS (T := [g]) ((OutS.refl _ _).setCell (p := ⟨g, i, none⟩) (by simp) u) (fun x hx hx' => h5 (by simp at hx'; exact hx' ▸ hx))).set i v u (by rw [mixU_get _ _ _ _ (Nat.le_refl _)]; exact he)
    have h10 : (mixU cs j0 i).setAt i (.p (mkP (j0 + cnt (cs.takeN i)) v)) = _ := mixU_succ cs j0 i (.p v) he
    rw [← hu] at h10
    rw [← h10]; exact h9
  · rw [List.getElem?_set_ne (by omega)]; exact h4 p (by omega)
theorem MS.part {w0 w : World} {e : TypeId} {k n : Nat} {c : Value} {g : Nat} {cs : UD} {j0 : Nat} {S : List Nat} {xs0 : List Value} {i : Nat} (h : MS w0 w e k n c g cs j0 S xs0 i) {k' n' : Nat} {cs' : UD} (he : cs.at? i = some (.l k' n' cs')) :
    ∃ c' T, xs0[i]? = some c' ∧ oS w k' n' cs' c' T ∧ T.Nodup ∧ ∀ w', OutS T w w' → oS w' k' n' (mk cs' (j0 + cnt (cs.takeN i))) c' T → MS w0 w' e k n c g cs j0 S xs0 (i + 1) := by
  obtain ⟨xs, h1, h2, h3, h4, h5, h6, h7, h8⟩ := h
  obtain ⟨c', T, g1, g2, g3, g4, g5⟩ := h2.part h6 i k' n' cs' (by rw [mixU_get _ _ _ _ (Nat.le_refl _)]; exact he)
  refine ⟨c', T, by rw [← h4 i (Nat.le_refl _)]; exact g1, g2, g3, fun w' ho hc => ⟨xs, uowns_frame h1 (fun x hx => ?_), ?_, h3.trans (ho.mono (fun t ht => List.mem_cons_of_mem _ (g4 t ht))), fun p hp => h4 p (by omega), h5, h6, h7, h8⟩⟩
  · refine ho.block x (ublk_lt h1 x hx).2 (fun hT => h5 ?_)
    rw [blkOf_some h7] at hx
    simp at hx
    rw [← hx]; exact g4 x hT
  · have h10 := mixU_succ cs j0 i (.l k' n' cs') he
    unfold mkE at h10
    rw [← h10]; exact g5 w' _ ho hc
theorem oH.at_p {w : World} : ∀ {d : UD} {xs : List Value} {S : List Nat} (h : oH w d xs S) (i : Nat) (v : Value), d.at? i = some (.p v) → xs[i]? = some v
  | .nil, _, _, h, i, v, e => by simp [UD.at?, UD.toL] at e
  | .p x r, _, S, ⟨ys, q, h⟩, 0, v, e => by subst q; cases e; rfl
  | .l k n cs r, _, _, h, 0, v, e => by cases e
  | .p x r, _, S, ⟨ys, q, h⟩, i + 1, v, e => by subst q; exact oH.at_p h i v e
  | .l k n cs r, _, _, ⟨c, ys, S1, S2, q, eS, hk, h1, h3⟩, i + 1, v, e => by subst q; exact oH.at_p h3 i v e
theorem uowns_slice {w : World} {B n : Nat} {v : Value} {e : TypeId} {size : Nat} {xs : List Value} (h : w.ownsRow B e size v n xs) : ∃ a cap, v = .slice a n cap := by
  rcases h.2 with ⟨rfl, rfl⟩ | ⟨g', cap, cur, rfl, _⟩
  · exact ⟨_, _, rfl⟩
  · exact ⟨_, _, rfl⟩
theorem oH.at_l {w : World} : ∀ {d : UD} {xs : List Value} {S : List Nat} (h : oH w d xs S) (i k n : Nat) (cs : UD), d.at? i = some (.l k n cs) → ∃ a cap, xs[i]? = some (.slice a n cap)
  | .nil, _, _, h, i, k, n, cs, e => by simp [UD.at?, UD.toL] at e
  | .p x r, _, S, ⟨ys, q, h⟩, 0, k, n, cs, e => by cases e
  | .l k' n' cs' r, _, _, ⟨c, ys, S1, S2, q, eS, hk, ⟨t, zs, h1, h2⟩, h3⟩, 0, k, n, cs, e => by
    subst q; cases e
    obtain ⟨a, cap, rfl⟩ := uowns_slice h1
    exact ⟨a, cap, rfl⟩
  | .p x r, _, S, ⟨ys, q, h⟩, i + 1, k, n, cs, e => by subst q; exact oH.at_l h i k n cs e
  | .l k' n' cs' r, _, _, ⟨c, ys, S1, S2, q, eS, hk, h1, h3⟩, i + 1, k, n, cs, e => by subst q; exact oH.at_l h3 i k n cs e
theorem OutS.cell {T : List Nat} {a b : World} (h : OutS T a b) {p : Addr} (hp : p.block < a.heap.size) (hT : p.block ∉ T) : b.cell? p = a.cell? p := World.cell?_of_block (w := a) (h.block p.block hp hT)
/-- a struct within a struct: its own memory, and how another of the same shape comes in its place -/
theorem oH.split {w : World} : ∀ {a b : UD} {zs : List Value} {S : List Nat}, oH w (a.app b) zs S → ∃ xs ys S1 S2, zs = xs ++ ys ∧ S = S1 ++ S2 ∧ oH w a xs S1 ∧ oH w b ys S2
  | .nil, b, zs, S, h => ⟨[], zs, [], S, rfl, rfl, ⟨rfl, rfl⟩, by rw [UD.app_nil] at h; exact h⟩
  | .p v r, b, zs, S, h => by
    rw [UD.app_p] at h
    obtain ⟨ys, rfl, h⟩ := h
    obtain ⟨x1, y1, S1, S2, rfl, rfl, h1, h2⟩ := oH.split h
    exact ⟨v :: x1, y1, S1, S2, rfl, rfl, ⟨x1, rfl, h1⟩, h2⟩
  | .l k n cs r, b, zs, S, h => by
    rw [UD.app_l] at h
    obtain ⟨c, ys, T1, T2, rfl, rfl, hk, g, h⟩ := h
    obtain ⟨x1, y1, S1, S2, rfl, rfl, h1, h2⟩ := oH.split h
    exact ⟨c :: x1, y1, (blkOf c ++ T1) ++ S1, S2, rfl, by simp, ⟨c, x1, T1, S1, rfl, rfl, hk, g, h1⟩, h2⟩
theorem oH.mid {w : World} {a b c : UD} {zs : List Value} {S : List Nat} (h : oH w ((a.app b).app c) zs S) (hn : S.Nodup) : ∃ x1 ys x3 T, zs = (x1 ++ ys) ++ x3 ∧ x1.length = a.len ∧ oH w b ys T ∧ T.Nodup ∧ (∀ g ∈ T, g ∈ S) ∧ ∀ (w' : World) (b' : UD), OutS T w w' → oH w' b' ys T → oH w' ((a.app b').app c) zs S := by
  obtain ⟨x12, x3, S12, S3, rfl, rfl, h12, h3⟩ := oH.split h
  obtain ⟨x1, x2, S1, S2, rfl, rfl, h1, h2⟩ := oH.split h12
  have n1 := List.nodup_append.1 hn
  have n2 := List.nodup_append.1 n1.1
  refine ⟨x1, x2, x3, S2, rfl, h1.len, h2, n2.2.1, fun g hg => by simp [hg], fun w' b' ho hb => ?_⟩
  exact oH.app (oH.app (h1.outS ho (fun g hg hg' => n2.2.2 g hg g hg' rfl)) hb) (h3.outS ho (fun g hg hg' => n1.2.2 g (by simp [hg']) g hg rfl))
theorem MS.start {w : World} {k n : Nat} {cs : UD} {c : Value} {S : List Nat} (h : oS w k n cs c S) (hn : S.Nodup) (h0 : 0 < n) (j0 : Nat) : ∃ e g S1 xs0, MS w w e k n c g cs j0 S1 xs0 0 ∧ S = g :: S1 ∧ (∀ i v, cs.at? i = some (.p v) → xs0[i]? = some v) ∧ ∀ i k' n' cs', cs.at? i = some (.l k' n' cs') → ∃ a cap, xs0[i]? = some (.slice a n' cap) := by
  obtain ⟨hk, e, zs, S1, h1, h2, rfl⟩ := h
  obtain ⟨g, hg⟩ : ∃ g, c.ownBlock = some g := by
    rcases h1.2 with ⟨rfl, h⟩ | ⟨g', cap, cur, rfl, _⟩
    · omega
    · exact ⟨g', rfl⟩
  rw [blkOf_some hg] at hn ⊢
  have hnd := List.nodup_cons.1 hn
  exact ⟨e, g, S1, zs, ⟨zs, h1, by rw [mixU_zero]; exact h2, OutS.refl _ _, fun p _ => rfl, hnd.1, hnd.2, hg, by rw [← h2.len, h1.1]⟩, rfl, fun i v hv => h2.at_p i v hv, fun i k' n' cs' hv => h2.at_l i k' n' cs' hv⟩
theorem MS.done {w0 w : World} {e : TypeId} {k n : Nat} {c : Value} {g : Nat} {cs : UD} {j0 : Nat} {S : List Nat} {xs0 : List Value} (h : MS w0 w e k n c g cs j0 S xs0 (n * k)) (hk : 0 < k) : oS w k n (mk cs j0) c (g :: S) ∧ OutS (g :: S) w0 w := by
  obtain ⟨xs, h1, h2, h3, h4, h5, h6, h7, h8⟩ := h
  rw [← h8, mixU_all] at h2
  exact ⟨⟨hk, e, xs, S, h1, h2, by rw [blkOf_some h7]; rfl⟩, h3⟩
theorem oS.slice {w : World} {k n : Nat} {cs : UD} {c : Value} {S : List Nat} (h : oS w k n cs c S) : ∃ a cap, c = .slice a n cap := by
  obtain ⟨hk, e, zs, S1, h1, h2, rfl⟩ := h
  rcases h1.2 with ⟨rfl, rfl⟩ | ⟨g', cap, cur, rfl, _⟩
  · exact ⟨_, _, rfl⟩
  · exact ⟨_, _, rfl⟩
theorem oS.empty {w : World} {k n : Nat} {cs : UD} {c : Value} {S : List Nat} (h : oS w k n cs c S) (h0 : n = 0) (j : Nat) : mk cs j = cs ∧ cnt cs = 0 := by
  obtain ⟨hk, e, zs, S1, h1, h2, rfl⟩ := h
  have hl := h2.len
  rw [h1.1, h0, Nat.zero_mul] at hl
  cases cs with
  | nil => exact ⟨rfl, rfl⟩
  | p v r => rw [UD.len_p] at hl; omega
  | l k n cs r => rw [UD.len_l] at hl; omega
theorem uE_len (t : Nat) : (uE t).length ≤ 40 := by unfold uE; split <;> decide
theorem cntU_wt : ∀ (d : UD) (fs : List UF) (i : Nat), tyU d fs i → cnt d ≤ d.len + 40 * wt d
  | .nil, _, _, _ => Nat.zero_le _
  | .p v r, fs, i, h => by have := cntU_wt r fs (i + 1) h.2; rw [cnt, UD.len_p, wt]; omega
  | .l k n cs r, fs, i, ⟨⟨t, h1, h2, h3, h4, h5, h6⟩, h7⟩ => by
    have e1 := cntU_wt r fs (i + 1) h7
    have e2 := cntU_wt cs (uE t) 0 h6
    have e3 : n * k ≤ n * 40 := Nat.mul_le_mul_left n (by rw [h3]; exact uE_len t)
    rw [cnt, UD.len_l, wt]; omega
theorem cnt_wt {k n : Nat} {cs : UD} {t : Nat} (h : tyS k n cs t) : cnt cs ≤ 40 * (n + wt cs) := by
  obtain ⟨h2, h3, h4, h5, h6⟩ := h
  have e2 := cntU_wt cs (uE t) 0 h6
  have e3 : n * k ≤ n * 40 := Nat.mul_le_mul_left n (by rw [h3]; exact uE_len t)
  omega
theorem cntT_wt : ∀ {d : UD} {fs : List UF}, tyL d fs → cntT d ≤ 40 * wt d
  | .nil, _, _ => Nat.zero_le _
  | .p v r, _, ⟨f, fr, e, h1, h2⟩ => by have := cntT_wt h2; rw [cntT, wt]; omega
  | .l k n cs r, _, ⟨t, fr, e, h1, h2⟩ => by have := cntT_wt h2; have := cnt_wt h1; rw [cntT, wt]; omega
theorem cntT_le : ∀ (d : UD), cntT d ≤ cnt d
  | .nil => Nat.le_refl _
  | .p v r => by have := cntT_le r; rw [cntT, cnt]; omega
  | .l k n cs r => by have := cntT_le r; rw [cntT, cnt]; omega
theorem cnt_row (cs : UD) (k q : Nat) : cnt (cs.takeN ((q + 1) * k)) = cnt (cs.takeN (q * k)) + cnt (rowU cs k q) := by rw [UD.take_row, cnt_app]

/-- a struct in a block -/
def objU (w : World) (b : Nat) (t : TypeId) (xs : List Value) : Prop := w.heap[b]? = some (.cells xs.toArray t (0, 0))
theorem objU.outS {w w' : World} {b : Nat} {t : TypeId} {xs : List Value} {S : List Nat} (h : objU w b t xs) (ho : OutS S w w') (hb : b ∉ S) : objU w' b t xs := (ho.block b (Array.getElem?_eq_some_iff.1 h).1 hb).trans h
theorem objU.lt {w : World} {b : Nat} {t : TypeId} {xs : List Value} (h : objU w b t xs) : b < w.heap.size := (Array.getElem?_eq_some_iff.1 h).1
theorem objU.below {w w' : World} {b : Nat} {t : TypeId} {xs : List Value} (h : objU w b t xs) (hb : Below w.heap.size w w') : objU w' b t xs := (hb.block b h.lt).trans h
theorem objU.cell {w : World} {b : Nat} {t : TypeId} {xs : List Value} (h : objU w b t xs) (j : Nat) (v : Value) (hv : xs[j]? = some v) : w.cell? ⟨b, j, none⟩ = some v := by
  unfold objU at h
  simp only [World.cell?, h]
  simpa using hv
theorem objU.fz {w : World} {b : Nat} {t : TypeId} {xs : List Value} (h : objU w b t xs) (j : Nat) : w.frozen? ⟨b, j, none⟩ = false := by
  unfold objU at h
  simp [World.frozen?, h]
theorem objU.new (w : World) (t : TypeId) (xs : List Value) : objU (w.alloc (.cells xs.toArray t)) w.heap.size t xs := heap_alloc_new w _
theorem objU.new2 {w : World} {b : Nat} (t : TypeId) (xs : List Value) (hb : b = w.heap.size) : objU (w.alloc (.cells xs.toArray t)) b t xs := by subst hb; exact heap_alloc_new w _
theorem objU.old {w : World} {b : Nat} {t : TypeId} {xs : List Value} (h : objU w b t xs) (o : Obj) : objU (w.alloc o) b t xs := (Below.heap_alloc w o b h.lt).trans h
theorem objU.other {w : World} {b : Nat} {t : TypeId} {xs : List Value} (h : objU w b t xs) (p : Addr) (hp : b ≠ p.block) (v : Value) : objU (w.setCell p v) b t xs := (Below.heap_setCell w p v b hp).trans h
theorem objU.set {w : World} {b : Nat} {t : TypeId} {xs : List Value} (h : objU w b t xs) (j : Nat) (v : Value) : objU (w.setCell ⟨b, j, none⟩ v) b t (xs.set j v) := by
  unfold objU at h ⊢
  have hl := (Array.getElem?_eq_some_iff.1 h)
  obtain ⟨hb, he⟩ := hl
  simp only [World.setCell, Array.getElem?_modify, h]
  simp
theorem uwrap64 (x : Int) (h0 : -9223372036854775808 ≤ x) (h1 : x ≤ 9223372036854775807) : IntKind.i64.wrap x = x := by rw [IntKind.wrap_i64]; omega
theorem mkP_int (j : Nat) (z : Int) (h : j ≤ 1000000000) : mkP j (.int .i64 z) = .int .i64 (j : Int) := by show Value.int _ (IntKind.i64.wrap _) = _; rw [uwrap64 _ (by omega) (by omega)]
theorem mk_takeN : ∀ (d : UD) (j i : Nat), (mk d j).takeN i = mk (d.takeN i) j
  | d, j, 0 => rfl
  | .nil, j, i + 1 => rfl
  | .p v r, j, i + 1 => by rw [mk, UD.takeN_p, UD.takeN_p, mk, mk_takeN r]
  | .l k n cs r, j, i + 1 => by rw [mk, UD.takeN_l, UD.takeN_l, mk, mk_takeN r]
theorem mk_dropN : ∀ (d : UD) (j i : Nat), (mk d j).dropN i = mk (d.dropN i) (j + cnt (d.takeN i))
  | d, j, 0 => by rw [UD.dropN_zero, UD.dropN_zero]; rfl
  | .nil, j, i + 1 => by unfold UD.dropN UD.toL; rw [List.drop_nil]; rfl
  | .p v r, j, i + 1 => by rw [mk, UD.dropN_p, UD.dropN_p, UD.takeN_p, mk_dropN r, cnt]; congr 1; omega
  | .l k n cs r, j, i + 1 => by rw [mk, UD.dropN_l, UD.dropN_l, UD.takeN_l, mk_dropN r, cnt]; congr 1; omega
theorem mk_row (cs : UD) (j k q : Nat) : rowU (mk cs j) k q = mk (rowU cs k q) (j + cnt (cs.takeN (q * k))) := by unfold rowU; rw [mk_dropN, mk_takeN]
theorem cnt_at (cs : UD) (k q j : Nat) (hj : j ≤ k) : cnt (cs.takeN (q * k + j)) = cnt (cs.takeN (q * k)) + cnt ((rowU cs k q).takeN j) := by
  rw [← cnt_app]
  congr 1
  apply UD.ext
  rw [UD.app_toL]
  unfold rowU UD.takeN UD.dropN
  rw [UD.toL_ofL, UD.toL_ofL, UD.toL_ofL, UD.toL_ofL, UD.toL_ofL, List.take_take, Nat.min_eq_left hj, List.take_add]
def uszD : UD → Nat
  | .nil => 0
  | .p _ r => uszD r + 1
  | .l _ _ cs r => uszD cs + uszD r + 1
theorem uszD_app : ∀ (a b : UD), uszD (a.app b) = uszD a + uszD b
  | .nil, b => by rw [UD.app_nil]; simp [uszD]
  | .p v r, b => by rw [UD.app_p, uszD, uszD, uszD_app r b]; omega
  | .l k n cs r, b => by rw [UD.app_l, uszD, uszD, uszD_app r b]; omega
theorem uszD_row (cs : UD) (k q : Nat) : uszD (rowU cs k q) ≤ uszD cs := by
  have h1 := uszD_app (cs.takeN (q * k)) (cs.dropN (q * k))
  rw [UD.app_take_drop, UD.drop_row cs k q, uszD_app] at h1
  omega
theorem wt_row (cs : UD) (k q : Nat) : wt (rowU cs k q) ≤ wt cs := by
  have h1 := wt_app (cs.takeN (q * k)) (cs.dropN (q * k))
  rw [UD.app_take_drop, UD.drop_row cs k q, wt_app] at h1
  omega
theorem uM.hand {w : World} {lo hi b : Nat} : ∀ {d : UD} {o : Nat}, uM w lo hi d b o → ∃ xs, uH w lo hi d xs ∧ ∀ j c, xs[j]? = some c → w.cell? ⟨b, o + j, none⟩ = some c
  | .nil, o, h => ⟨[], rfl, fun j c e => by simp at e⟩
  | .p v r, o, h => by
    obtain ⟨ys, h1, h2⟩ := uM.hand (d := r) h.2
    refine ⟨v :: ys, ⟨ys, rfl, h1⟩, fun j c e => ?_⟩
    cases j with
    | zero => cases e; exact h.1
    | succ j => have := h2 j c (by simpa using e); rw [← this]; congr 2; omega
  | .l k n cs r, o, ⟨⟨a, cap, g0, g1⟩, g2⟩ => by
    obtain ⟨ys, h1, h2⟩ := uM.hand (d := r) g2
    refine ⟨_ :: ys, ⟨_, ys, rfl, ⟨a, cap, rfl, g1⟩, h1⟩, fun j c e => ?_⟩
    cases j with
    | zero => cases e; exact g0
    | succ j => have := h2 j c (by simpa using e); rw [← this]; congr 2; omega
theorem oH.nil (w : World) : oH w .nil [] [] := ⟨rfl, rfl⟩
theorem oH.consP {w : World} {r : UD} {ys : List Value} {S : List Nat} (v : Value) (h : oH w r ys S) : oH w (.p v r) (v :: ys) S := ⟨ys, rfl, h⟩
theorem oH.consS {w : World} {k n : Nat} {cs r : UD} {c : Value} {ys : List Value} {S1 S2 : List Nat} (h1 : oS w k n cs c S1) (h2 : oH w r ys S2) : oH w (.l k n cs r) (c :: ys) (S1 ++ S2) := by
  obtain ⟨hk, e, zs, S', g1, g2, rfl⟩ := h1
  exact ⟨c, ys, S', S2, rfl, rfl, hk, ⟨e, zs, g1, g2⟩, h2⟩
/-- memory of one's own, made since the heap had a blocks, all below b -/
def own2 (S : List Nat) (a b : Nat) : Prop := S.Nodup ∧ ∀ s ∈ S, a ≤ s ∧ s < b
theorem own2.nil (a b : Nat) : own2 [] a b := ⟨List.nodup_nil, fun s hs => by cases hs⟩
theorem own2.app {S T : List Nat} {a b c d : Nat} (h : own2 S a b) (k : own2 T c d) (hbc : b ≤ c) (hac : a ≤ c) (hbd : b ≤ d) : own2 (S ++ T) a d := by
  refine ⟨List.nodup_append.2 ⟨h.1, k.1, fun x hx y hy => ?_⟩, fun s hs => ?_⟩
  · have := h.2 x hx; have := k.2 y hy; omega
  · rcases List.mem_append.1 hs with hs | hs
    · have := h.2 s hs; omega
    · have := k.2 s hs; omega
theorem own2.mono {S : List Nat} {a b a' b' : Nat} (h : own2 S a b) (ha : a' ≤ a) (hb : b ≤ b') : own2 S a' b' := ⟨h.1, fun s hs => by have := h.2 s hs; omega⟩
theorem own2.not {S : List Nat} {a b x : Nat} (h : own2 S a b) (hx : x < a ∨ b ≤ x) : x ∉ S := fun g => by have := h.2 x g; omega
theorem own2.out {S : List Nat} {a b : Nat} {w w' : World} (h : own2 S a b) (ho : OutS S w w') : OutR a b w w' := ho.out h.2
theorem own2.below {S : List Nat} {a b B : Nat} {w w' : World} (h : own2 S a b) (ho : OutS S w w') (hB : B ≤ a) (hs : B ≤ w.heap.size) : Below B w w' := ho.below (fun t ht => by have := h.2 t ht; omega) hs
theorem oS.outs {w w' : World} {k n : Nat} {cs : UD} {c : Value} {S T : List Nat} (h : oS w k n cs c S) (ho : OutS T w w') {a b : Nat} (hS : own2 S a b) (hT : ∀ t ∈ T, t < a ∨ b ≤ t) : oS w' k n cs c S :=
  h.frame (fun g hg => ho.block g (h.lt g hg) (fun hx => by have := hS.2 g hg; have := hT g hx; omega))
theorem oH.outs {w w' : World} {d : UD} {xs : List Value} {S T : List Nat} (h : oH w d xs S) (ho : OutS T w w') {a b : Nat} (hS : own2 S a b) (hT : ∀ t ∈ T, t < a ∨ b ≤ t) : oH w' d xs S :=
  h.frame _ _ _ (fun g hg => ho.block g (h.lt _ _ _ g hg) (fun hx => by have := hS.2 g hg; have := hT g hx; omega))
/-! copying, row by row -/
def wSet (w : World) (g : Nat) : Nat → List Value → World
  | _, [] => w
  | i, y :: ys => wSet (w.setCell ⟨g, i, none⟩ y) g (i + 1) ys
def lSet (xs : List Value) : Nat → List Value → List Value
  | _, [] => xs
  | i, y :: ys => lSet (xs.set i y) (i + 1) ys
theorem lSet_len : ∀ (ys xs : List Value) (i : Nat), (lSet xs i ys).length = xs.length
  | [], xs, i => rfl
  | y :: ys, xs, i => by unfold lSet; rw [lSet_len ys, List.length_set]
theorem lSet_take : ∀ (ys xs : List Value) (i : Nat), i + ys.length ≤ xs.length → (lSet xs i ys).take (i + ys.length) = xs.take i ++ ys
  | [], xs, i, h => by unfold lSet; simp
  | y :: ys, xs, i, h => by
    unfold lSet
    rw [List.length_cons] at h ⊢
    rw [show i + (ys.length + 1) = (i + 1) + ys.length by omega, lSet_take ys (xs.set i y) (i + 1) (by rw [List.length_set]; omega), List.take_add_one, List.getElem?_set_self (by omega), List.take_set_of_le (Nat.le_refl _)]
    simp
theorem wSet_own {B : Nat} {e : TypeId} {k n cap g : Nat} : ∀ (ys xs : List Value) (i : Nat) {w : World}, w.ownsRow B e k (.slice (some ⟨g, 0, none⟩) n cap) n xs → (wSet w g i ys).ownsRow B e k (.slice (some ⟨g, 0, none⟩) n cap) n (lSet xs i ys)
  | [], xs, i, w, h => h
  | y :: ys, xs, i, w, h => wSet_own ys (xs.set i y) (i + 1) (h.stored i y).1
theorem wSet_out {g : Nat} : ∀ (ys : List Value) (i : Nat) (w : World), OutS [g] w (wSet w g i ys)
  | [], i, w => OutS.refl _ _
  | y :: ys, i, w => ((OutS.refl _ _).setCell (p := ⟨g, i, none⟩) (by simp) y).trans (wSet_out ys (i + 1) _)
/-- where the copying of a slice stands: q rows are copied -/
def TS (w0 w : World) (e : TypeId) (k n : Nat) (cs : UD) (q : Nat) : Prop :=
  ∃ xs S, w.ownsRow w0.heap.size e k (.slice (some ⟨w0.heap.size, 0, none⟩) n n) n xs ∧ oH w (cs.takeN (q * k)) (xs.take (q * k)) S ∧ S.Nodup ∧ (∀ s ∈ S, w0.heap.size < s) ∧ Below w0.heap.size w0 w
theorem TS.start {w0 w : World} {e : TypeId} {k n : Nat} {cs : UD} {xs : List Value} (h : w.ownsRow w0.heap.size e k (.slice (some ⟨w0.heap.size, 0, none⟩) n n) n xs) (hb : Below w0.heap.size w0 w) : TS w0 w e k n cs 0 :=
  ⟨xs, [], h, by rw [Nat.zero_mul]; exact ⟨rfl, rfl⟩, List.nodup_nil, fun s hs => (by cases hs), hb⟩
theorem TS.below {w0 w w' : World} {e : TypeId} {k n : Nat} {cs : UD} {q : Nat} (h : TS w0 w e k n cs q) (hb : Below w.heap.size w w') : TS w0 w' e k n cs q := by
  obtain ⟨xs, S, h1, h2, h3, h4, h5⟩ := h
  exact ⟨xs, S, uowns_frame h1 (fun x hx => hb.block x (ublk_lt h1 x hx).2), h2.below hb, h3, h4, h5.trans (hb.mono h5.size)⟩
theorem TS.bel {w0 w : World} {e : TypeId} {k n : Nat} {cs : UD} {q : Nat} (h : TS w0 w e k n cs q) : Below w0.heap.size w0 w := by
  obtain ⟨xs, S, h1, h2, h3, h4, h5⟩ := h; exact h5
theorem TS.cell {w0 w : World} {e : TypeId} {k n : Nat} {cs : UD} {q : Nat} (h : TS w0 w e k n cs q) (p : Nat) (hp : p < n * k) : ∃ v, w.cell? ⟨w0.heap.size, p, none⟩ = some v := by
  obtain ⟨xs, S, h1, h2, h3, h4, h5⟩ := h
  exact ⟨xs[p]'(by rw [h1.1]; exact hp), by rw [h1.cellAt p hp, List.getElem?_eq_getElem]⟩
theorem TS.fz {w0 w : World} {e : TypeId} {k n : Nat} {cs : UD} {q : Nat} (h : TS w0 w e k n cs q) (p : Nat) : w.frozen? ⟨w0.heap.size, p, none⟩ = false := by
  obtain ⟨xs, S, h1, _⟩ := h
  exact h1.frozenAt p
theorem TS.step {w0 w w2 : World} {e : TypeId} {k n : Nat} {cs : UD} {q : Nat} (h : TS w0 w e k n cs q) (hb : Below w.heap.size w w2) {ys : List Value} {T : List Nat} (ho : oH w2 (rowU cs k q) ys T) (hnd : T.Nodup) (hT : ∀ t ∈ T, w.heap.size ≤ t) (hl : cs.len = n * k) (hq : q < n) : TS w0 (wSet w2 w0.heap.size (q * k) ys) e k n cs (q + 1) := by
  have hh := h
  obtain ⟨xs, S, h1, h2, h3, h4, h5⟩ := hh
  have hS : ∀ s ∈ S, s < w.heap.size := h2.lt _ _ _
  replace h1 := uowns_frame h1 (fun x hx => hb.block x (ublk_lt h1 x hx).2)
  replace h2 := h2.below hb
  replace h5 := h5.trans (hb.mono h5.size)
  have hlen : ys.length = k := by rw [ho.len]; exact rowU_len cs k q n hl hq
  have hle : q * k + k ≤ n * k := by have := Nat.mul_le_mul_right k (show q + 1 ≤ n by omega); rw [Nat.succ_mul] at this; exact this
  have hg : w0.heap.size < w.heap.size := by
    obtain ⟨xs', S', h1', _⟩ := h
    exact (uowns_blk h1' rfl).2
  have hTg : ∀ t ∈ T, w0.heap.size < t := fun t ht => Nat.lt_of_lt_of_le hg (hT t ht)
  refine ⟨lSet xs (q * k) ys, S ++ T, wSet_own ys xs (q * k) h1, ?_, List.nodup_append.2 ⟨h3, hnd, fun a ha b hb' => by have := hS a ha; have := hT b hb'; omega⟩, fun s hs => ?_, ?_⟩
  · have e1 : (lSet xs (q * k) ys).take ((q + 1) * k) = xs.take (q * k) ++ ys := by
      rw [Nat.succ_mul]
      have := lSet_take ys xs (q * k) (by rw [hlen, h1.1]; exact hle)
      rw [hlen] at this
      exact this
    rw [e1, UD.take_row]
    exact oH.app (h2.outS (wSet_out ys _ _) (fun g hg' hx => by simp at hx; have := h4 g hg'; omega)) (ho.outS (wSet_out ys _ _) (fun g hg' hx => by simp at hx; have := hTg g hg'; omega))
  · rcases List.mem_append.1 hs with hs | hs
    · exact h4 s hs
    · exact hTg s hs
  · exact h5.trans ((wSet_out ys _ _).below (fun t ht => by simp at ht; omega) (by have := h5.size; omega))
theorem TS.done {w0 w : World} {e : TypeId} {k n : Nat} {cs : UD} (h : TS w0 w e k n cs n) (hk : 0 < k) (hl : cs.len = n * k) : ∃ S, oS w k n cs (.slice (some ⟨w0.heap.size, 0, none⟩) n n) S ∧ S.Nodup ∧ (∀ s ∈ S, w0.heap.size ≤ s) ∧ Below w0.heap.size w0 w := by
  obtain ⟨xs, S, h1, h2, h3, h4, h5⟩ := h
  have e1 : cs.takeN (n * k) = cs := by apply UD.ext; unfold UD.takeN; rw [UD.toL_ofL, ← hl]; exact List.take_of_length_le (Nat.le_refl _)
  rw [e1, ← h1.1, List.take_length] at h2
  refine ⟨w0.heap.size :: S, ⟨hk, e, xs, S, ⟨h1.1, ?_⟩, h2, rfl⟩, List.nodup_cons.2 ⟨fun hx => by have := h4 _ hx; omega, h3⟩, fun s hs => ?_, h5⟩
  · rcases h1.2 with hh | ⟨g, cap, cur, a1, a2, a3⟩
    · exact .inl hh
    · exact .inr ⟨g, cap, cur, a1, Nat.zero_le _, a3⟩
  · rcases List.mem_cons.1 hs with rfl | hs
    · exact Nat.le_refl _
    · have := h4 s hs; omega
end Go.Proofs.Ytddojjigijfgbaa
/- Data as cells: lists that a call builds by append. -/
namespace Go.Proofs.Ytddojjigijfgbaa
open Go.RowKit
set_option linter.unusedVariables false

theorem callFunc_enter {P : Program} {f : FuncId} {fn : Func} (h : P.funcs[f]? = some fn) (hn : (fn.name == "runtime.NumGoroutine") = false) (hb : fn.body.isNone = false) (xs : Array Value) (w : World) : (callFunc f xs).run P w = .ok (.enter f xs) w := by
  have hn' : ¬ fn.name = "runtime.NumGoroutine" := by simpa using hn
  have hb' : ¬ fn.body = none := by intro e; rw [e] at hb; cases hb
  simp [callFunc, h, hn', hb', go_sem]
/-- a call of a Go function, by its contract, as a step of a region that draws -/
theorem step_call_of {P : Program} {w : World} {ops : Array Oper} {o : Oper} {a : Act} {K : Act → World → Prop} {Q : Exit → Act → World → Prop} {E : Prop} (hgd : o.guard = none) (f : FuncId) (args : Array Operand) (ts : Array TypeId)
    (ho : o.op = .call { callee := .value (.func f), args := args, argTypes := ts }) (hcf : ∀ xs w, (callFunc f xs).run P w = .ok (.enter f xs) w) (xs : Array Value) (hx : args.map a.eval = xs) {R : Ending → World → Prop} (hc : Calls P f xs w R) (h : ∀ e w', R e w' → ∃ v, e = .returned v ∧ K (a.put o.dst v) w') :
    if Region.wanted o (yielded ops a.tmps) = true then Oper.wp P o a w K Q else E := by
  subst hx
  have hw : Region.wanted o (yielded ops a.tmps) = true := by simp [Region.wanted, hgd]
  rw [if_pos hw]
  unfold Oper.wp execOp
  simp only [ho, resolve, invoke, Sem.run_bind]
  have e : (Deferred.ofValue (a.eval (Operand.func f)) (Array.map a.eval args)).run P w = .ok { target := .fn (.func f) #[], args := args.map a.eval } w := by simp [Act.eval, Deferred.ofValue, go_sem]
  rw [e, Result.andThen_ok]
  simp only [Array.append_empty]
  rw [hcf]
  rw [Oper.upon_enter]
  refine hc.mono ?_
  intro e w' hr
  obtain ⟨v, rfl, hk⟩ := h e w' hr
  exact hk
/-- a list of n things of k cells that the call builds, in blocks from base on -/
def AS (base : Nat) (w : World) (e : TypeId) (k : Nat) (v : Value) (cs : UD) (n : Nat) : Prop :=
  cs.len = n * k ∧ ∃ xs S, w.ownsRow base e k v n xs ∧ oH w cs xs S ∧ own2 S base w.heap.size ∧ ∀ g ∈ blkOf v, g ∉ S
theorem AS.nil (base : Nat) (w : World) (e : TypeId) (k : Nat) : AS base w e k (.slice none 0 0) .nil 0 :=
  ⟨by simp [UD.len, UD.toL], [], [], World.ownsRow_nil w base e k, ⟨rfl, rfl⟩, own2.nil _ _, fun g hg => by cases hg⟩
theorem AS.below {base : Nat} {w w' : World} {e : TypeId} {k : Nat} {v : Value} {cs : UD} {n : Nat} (h : AS base w e k v cs n) (hb : Below w.heap.size w w') : AS base w' e k v cs n := by
  obtain ⟨h0, xs, S, h1, h2, h3, h4⟩ := h
  exact ⟨h0, xs, S, uowns_frame h1 (fun x hx => hb.block x (ublk_lt h1 x hx).2), h2.below hb, h3.mono (Nat.le_refl _) hb.size, h4⟩
theorem AS.slice {base : Nat} {w : World} {e : TypeId} {k : Nat} {v : Value} {cs : UD} {n : Nat} (h : AS base w e k v cs n) : ∃ a p, v = .slice a n p := by
  obtain ⟨h0, xs, S, h1, h2, h3, h4⟩ := h
  exact uowns_slice h1
theorem AS.done {base : Nat} {w : World} {e : TypeId} {k : Nat} {v : Value} {cs : UD} {n : Nat} (h : AS base w e k v cs n) (hk : 0 < k) (hb : base ≤ w.heap.size) : ∃ S, oS w k n cs v S ∧ own2 S base w.heap.size := by
  obtain ⟨h0, xs, S, h1, h2, h3, h4⟩ := h
  have h1' : w.ownsRow 0 e k v n xs := by
    refine ⟨h1.1, ?_⟩
    rcases h1.2 with hh | ⟨g, cap, cur, a1, a2, a3⟩
    · exact .inl hh
    · exact .inr ⟨g, cap, cur, a1, Nat.zero_le _, a3⟩
  refine ⟨blkOf v ++ S, ⟨hk, e, xs, S, h1', h2, rfl⟩, ?_, fun s hs => ?_⟩
  · refine List.nodup_append.2 ⟨?_, h3.1, fun a ha b hb hab => h4 a ha (hab ▸ hb)⟩
    unfold blkOf
    split
    · simp
    · exact List.nodup_nil
  · rcases List.mem_append.1 hs with hs | hs
    · exact ublk_lt h1 s hs
    · exact h3.2 s hs
theorem grown_frame {w w' : World} {row : Option Nat} (hg : w.grownBy w' row) {S : List Nat} (hS : ∀ s ∈ S, s < w.heap.size) (hr : ∀ g, row = some g → g ∉ S) : ∀ s ∈ S, w'.heap[s]? = w.heap[s]? :=
  fun s hs => hg.block s (hS s hs) (fun e => hr s e.symm hs)
theorem AS.snoc {base b0 : Nat} {w1 w2 : World} {e : TypeId} {k : Nat} {v : Value} {cs : UD} {n : Nat} {xs : List Value} {S : List Nat} (hlen : cs.len = n * k) (hw : w1.ownsRow base e k v n xs) (ho : oH w1 cs xs S) (hS : own2 S base b0)
    (hne : ∀ g ∈ blkOf v, g ∉ S) (hvb : ∀ g ∈ blkOf v, g < b0) {R : UD} {ys : List Value} {T : List Nat} (hR : oH w1 R ys T) (hT : own2 T b0 w1.heap.size) (hb : base ≤ b0) (hb2 : b0 ≤ w1.heap.size) (hRl : R.len = k) {g cap : Nat}
    (hown : w2.ownsRow base e k (.slice (some ⟨g, 0, none⟩) (n + 1) cap) (n + 1) (xs ++ ys)) (hgrow : w1.grownBy w2 v.ownBlock) (hat : v.ownBlock = some g ∨ g = w1.heap.size) : AS base w2 e k (.slice (some ⟨g, 0, none⟩) (n + 1) cap) (cs.app R) (n + 1) := by
  have hrow : ∀ g', v.ownBlock = some g' → g' ∈ blkOf v := fun g' h => by unfold blkOf; rw [h]; simp
  have hvT : ∀ g' ∈ blkOf v, g' ∉ T := fun g' h ht => by have := hvb g' h; have := hT.2 g' ht; omega
  refine ⟨?_, xs ++ ys, S ++ T, hown, oH.app (ho.frame _ _ _ (grown_frame hgrow (ho.lt _ _ _) (fun g' h => hne g' (hrow g' h)))) (hR.frame _ _ _ (grown_frame hgrow (hR.lt _ _ _) (fun g' h => hvT g' (hrow g' h)))),
    (own2.app hS hT (Nat.le_refl _) hb hb2).mono (Nat.le_refl _) hgrow.size, fun g' hg' => ?_⟩
  · have : (cs.app R).len = cs.len + R.len := by unfold UD.len; rw [UD.app_toL, List.length_append]
    rw [this, hlen, hRl, Nat.succ_mul]
  · have e1 : g' = g := by simpa [blkOf, Value.ownBlock] using hg'
    subst e1
    rw [List.mem_append]
    rcases hat with h | h
    · exact fun hx => hx.elim (hne g' (hrow g' h)) (hvT g' (hrow g' h))
    · intro hx
      rcases hx with hx | hx
      · have := hS.2 g' hx; omega
      · have := hT.2 g' hx; omega
theorem cells_new (w : World) (xs : List Value) (t : TypeId) : ∀ j u, xs[j]? = some u → (w.alloc (.cells xs.toArray t)).cell? ((⟨w.heap.size, 0, none⟩ : Addr).add j) = some u := by
  intro j u h
  rw [Go.WideShapes.add_plain, Nat.zero_add]
  exact (objU.new w t xs).cell j u h
theorem one_cell {w : World} {lo hi : Nat} : ∀ {d : UD} {fs : List UF} {xs : List Value}, tyL d fs → uH w lo hi d xs → ∀ u ∈ xs, u.oneCell' = true
  | .nil, _, _, _, h, u, hu => by rw [show _ = [] from h] at hu; cases hu
  | .p v r, _, _, ⟨f, fr, e, h1, h2⟩, ⟨ys, e2, h⟩, u, hu => by
    subst e2
    rcases List.mem_cons.1 hu with rfl | hu
    · cases f with
      | i k => obtain ⟨z, rfl, _⟩ := h1; rfl
      | s => obtain ⟨z, rfl, _⟩ := h1; rfl
      | b => obtain ⟨z, rfl⟩ := h1; rfl
      | l k t => cases h1
    · exact one_cell h2 h u hu
  | .l k n cs r, _, _, ⟨t, fr, e, h1, h2⟩, ⟨c, ys, e2, g, h⟩, u, hu => by
    subst e2
    rcases List.mem_cons.1 hu with rfl | hu
    · obtain ⟨a, cap, rfl, _⟩ := g; rfl
    · exact one_cell h2 h u hu
/-- all the cells of a slice, one by one -/
theorem uM.list {w : World} {lo hi : Nat} {b o : Nat} {d : UD} (h : uM w lo hi d b o) : ∃ xs, uH w lo hi d xs ∧ ∀ j u, xs[j]? = some u → w.cell? ((⟨b, o, none⟩ : Addr).add j) = some u := by
  obtain ⟨xs, h1, h2⟩ := h.hand
  exact ⟨xs, h1, fun j u hj => by rw [Go.WideShapes.add_plain]; exact h2 j u hj⟩
/-- plain cells alone: copied they are one's own -/
theorem plain_own {w w' : World} {lo hi : Nat} {fs : List UF} (hp : ∀ f ∈ fs, ∀ k t, f ≠ .l k t) : ∀ {d : UD} {xs : List Value} {i : Nat}, tyU d fs i → uH w lo hi d xs → oH w' d xs []
  | .nil, _, _, _, h => ⟨h, rfl⟩
  | .p v r, _, i, h, ⟨ys, e, g⟩ => ⟨ys, e, plain_own hp h.2 g⟩
  | .l k n cs r, _, i, ⟨⟨t, h1, _⟩, _⟩, _ => (hp _ (List.mem_of_getElem? h1) k t rfl).elim
end Go.Proofs.Ytddojjigijfgbaa
/- Rows of things of k cells, as lists of rows: read, owned, cut, struck. -/
namespace Go.Proofs.Ytddojjigijfgbaa
open Go.RowKit
set_option linter.unusedVariables false

/-- a slice that can be read: its rows of k cells -/
def rdR (w : World) (k : Nat) (c : Value) (R : List (List Value)) : Prop :=
  ∃ a cap, c = .slice a R.length cap ∧ R.length ≤ cap ∧ (a = none → cap = 0) ∧ (0 < R.length → ∃ b o, a = some ⟨b, o, none⟩ ∧ ∀ q r j v, R[q]? = some r → r[j]? = some v → w.cell? ⟨b, o + q * k + j, none⟩ = some v)
theorem rdR.below {w w' : World} {k : Nat} {c : Value} {R : List (List Value)} (h : rdR w k c R) (hb : Below w.heap.size w w') : rdR w' k c R := by
  obtain ⟨a, cap, h1, h2, h3, h4⟩ := h
  refine ⟨a, cap, h1, h2, h3, fun hp => ?_⟩
  obtain ⟨b, o, e, hc⟩ := h4 hp
  exact ⟨b, o, e, fun q r j v hq hj => by have := hc q r j v hq hj; exact (hb.cell (p := ⟨b, o + q * k + j, none⟩) (World.block_lt_of_cell? _ _ this)).trans this⟩
/-- whatever keeps its cells -/
theorem rdR.kept {w w' : World} {k : Nat} {c : Value} {R : List (List Value)} (h : rdR w k c R) (hb : ∀ g, c.ownBlock = some g → g < w.heap.size → w'.heap[g]? = w.heap[g]?) : rdR w' k c R := by
  obtain ⟨a, cap, rfl, h2, h3, h4⟩ := h
  refine ⟨a, cap, rfl, h2, h3, fun hp => ?_⟩
  obtain ⟨b, o, rfl, hc⟩ := h4 hp
  exact ⟨b, o, rfl, fun q r j v hq hj => by have := hc q r j v hq hj; exact (World.cell?_of_block (w := w) (hb b rfl (World.block_lt_of_cell? _ _ this))).trans this⟩
theorem rdR.slice {w : World} {k : Nat} {c : Value} {R : List (List Value)} (h : rdR w k c R) : ∃ a cap, c = .slice a R.length cap := by
  obtain ⟨a, cap, h1, _⟩ := h; exact ⟨a, cap, h1⟩
theorem rdR.opened {w : World} {k : Nat} {a : Option Addr} {n cap : Nat} {R : List (List Value)} (h : rdR w k (.slice a n cap) R) (hn : 0 < n) : n = R.length ∧ ∃ b o, a = some ⟨b, o, none⟩ ∧ ∀ q r j v, R[q]? = some r → r[j]? = some v → w.cell? ⟨b, o + q * k + j, none⟩ = some v := by
  obtain ⟨a', cap', e, h2, h3, h4⟩ := h
  cases e
  exact ⟨rfl, h4 hn⟩
/-- all rows have k cells -/
def rowsK (k : Nat) (R : List (List Value)) : Prop := ∀ r ∈ R, r.length = k
theorem rowsK.len {k : Nat} : ∀ {R : List (List Value)}, rowsK k R → R.flatten.length = R.length * k
  | [], _ => by simp
  | r :: R, h => by rw [List.flatten_cons, List.length_append, rowsK.len (fun x hx => h x (.tail _ hx)), h r (.head _), List.length_cons, Nat.succ_mul]; omega
theorem rowsK.tail {k : Nat} {r : List Value} {R : List (List Value)} (h : rowsK k (r :: R)) : rowsK k R := fun x hx => h x (.tail _ hx)
theorem rowsK.take {k : Nat} {R : List (List Value)} (h : rowsK k R) (i : Nat) : rowsK k (R.take i) := fun x hx => h x (List.mem_of_mem_take hx)
theorem rowsK.drop {k : Nat} {R : List (List Value)} (h : rowsK k R) (i : Nat) : rowsK k (R.drop i) := fun x hx => h x (List.mem_of_mem_drop hx)
theorem rowsK.app {k : Nat} {R T : List (List Value)} (h : rowsK k R) (g : rowsK k T) : rowsK k (R ++ T) := fun x hx => (List.mem_append.1 hx).elim (h x) (g x)
theorem flat_take {k : Nat} : ∀ (R : List (List Value)) (i : Nat), rowsK k R → (R.take i).flatten = R.flatten.take (i * k)
  | R, 0, h => by simp
  | [], i + 1, h => by simp
  | r :: R, i + 1, h => by
    have hr := h r (.head _)
    have e1 : List.take (i * k + k) r = r := List.take_of_length_le (by omega)
    rw [List.take_succ_cons, List.flatten_cons, List.flatten_cons, flat_take R i h.tail, Nat.succ_mul, List.take_append, e1, show i * k + k - r.length = i * k by omega]
theorem flat_drop {k : Nat} : ∀ (R : List (List Value)) (i : Nat), rowsK k R → (R.drop i).flatten = R.flatten.drop (i * k)
  | R, 0, h => by simp
  | [], i + 1, h => by simp
  | r :: R, i + 1, h => by
    have hr := h r (.head _)
    have e1 : List.drop (i * k + k) r = [] := List.drop_of_length_le (by omega)
    rw [List.drop_succ_cons, List.flatten_cons, flat_drop R i h.tail, Nat.succ_mul, List.drop_append, e1, List.nil_append, show i * k + k - r.length = i * k by omega]
theorem rowsR_get {k : Nat} : ∀ (R : List (List Value)) (q : Nat) (r : List Value) (j : Nat) (v : Value), rowsK k R → R[q]? = some r → r[j]? = some v → R.flatten[q * k + j]? = some v
  | [], q, r, j, v, h, hq, hj => by simp at hq
  | x :: R, 0, r, j, v, h, hq, hj => by
    cases hq
    rw [Nat.zero_mul, Nat.zero_add, List.flatten_cons, List.getElem?_append_left (List.getElem?_eq_some_iff.1 hj).1, hj]
  | x :: R, q + 1, r, j, v, h, hq, hj => by
    have hr := h x (.head _)
    rw [List.flatten_cons, List.getElem?_append_right (by rw [Nat.succ_mul]; omega), show (q + 1) * k + j - x.length = q * k + j by rw [Nat.succ_mul]; omega]
    exact rowsR_get R q r j v h.tail (by simpa using hq) hj
theorem flat_set {k : Nat} : ∀ (R : List (List Value)) (q : Nat) (r : List Value) (j : Nat) (v : Value), rowsK k R → R[q]? = some r → j < k → R.flatten.set (q * k + j) v = (R.set q (r.set j v)).flatten
  | [], q, r, j, v, h, hq, hj => by simp at hq
  | x :: R, 0, r, j, v, h, hq, hj => by
    cases hq
    have hr := h x (.head _)
    rw [Nat.zero_mul, Nat.zero_add, List.flatten_cons, List.set_append_left _ _ (by omega), List.set_cons_zero, List.flatten_cons]
  | x :: R, q + 1, r, j, v, h, hq, hj => by
    have hr := h x (.head _)
    rw [List.flatten_cons, List.set_append_right _ _ (by rw [Nat.succ_mul]; omega), show (q + 1) * k + j - x.length = q * k + j by rw [Nat.succ_mul]; omega, flat_set R q r j v h.tail (by simpa using hq) hj, List.set_cons_succ, List.flatten_cons]
/-- a slice of rows of one's own -/
def ownR (w : World) (base : Nat) (e : TypeId) (k : Nat) (v : Value) (R : List (List Value)) : Prop := rowsK k R ∧ w.ownsRow base e k v R.length R.flatten
theorem ownR.nil (w : World) (base : Nat) (e : TypeId) (k : Nat) : ownR w base e k (.slice none 0 0) [] := ⟨fun r hr => by simp at hr, World.ownsRow_nil w base e k⟩
theorem ownR.frame {w w' : World} {base : Nat} {e : TypeId} {k : Nat} {v : Value} {R : List (List Value)} (h : ownR w base e k v R) (hS : ∀ g ∈ blkOf v, w'.heap[g]? = w.heap[g]?) : ownR w' base e k v R := ⟨h.1, uowns_frame h.2 hS⟩
theorem ownR.lt {w : World} {base : Nat} {e : TypeId} {k : Nat} {v : Value} {R : List (List Value)} (h : ownR w base e k v R) : ∀ g ∈ blkOf v, base ≤ g ∧ g < w.heap.size := ublk_lt h.2
theorem ownR.below {w w' : World} {base : Nat} {e : TypeId} {k : Nat} {v : Value} {R : List (List Value)} (h : ownR w base e k v R) (hb : Below w.heap.size w w') : ownR w' base e k v R := h.frame (fun g hg => hb.block g (h.lt g hg).2)
theorem ownR.grown {w w' : World} {base : Nat} {e : TypeId} {k : Nat} {v : Value} {R : List (List Value)} {row : Option Nat} (h : ownR w base e k v R) (hg : w.grownBy w' row) (hne : ∀ g ∈ blkOf v, some g ≠ row) : ownR w' base e k v R := h.frame (fun g hb => hg.block g (h.lt g hb).2 (hne g hb))
theorem ownR.setCell {w : World} {base : Nat} {e : TypeId} {k : Nat} {v : Value} {R : List (List Value)} (h : ownR w base e k v R) (p : Addr) (hp : p.block ∉ blkOf v) (u : Value) : ownR (w.setCell p u) base e k v R := h.frame (fun g hg => Below.heap_setCell w p u g (fun e => hp (by rw [← e]; exact hg)))
theorem ownR.mono {w : World} {base base' : Nat} {e : TypeId} {k : Nat} {v : Value} {R : List (List Value)} (h : ownR w base e k v R) (hb : base' ≤ base) : ownR w base' e k v R := by
  obtain ⟨h1, h2, h3⟩ := h
  refine ⟨h1, h2, ?_⟩
  rcases h3 with h3 | ⟨g, cap, cur, a1, a2, a3⟩
  · exact .inl h3
  · exact .inr ⟨g, cap, cur, a1, Nat.le_trans hb a2, a3⟩
theorem ownR.slice {w : World} {base : Nat} {e : TypeId} {k : Nat} {v : Value} {R : List (List Value)} (h : ownR w base e k v R) : ∃ a cap, v = .slice a R.length cap := uowns_slice h.2
theorem ownR.rd {w : World} {base : Nat} {e : TypeId} {k : Nat} {v : Value} {R : List (List Value)} (h : ownR w base e k v R) (hk : 0 < k) : rdR w k v R := by
  obtain ⟨h1, h2⟩ := h
  have h2' := h2
  rcases h2.2 with ⟨rfl, h0⟩ | ⟨g, cap, cur, rfl, h3, h4, h5, h6⟩
  · exact ⟨none, 0, by rw [h0], by omega, fun _ => rfl, fun hp => by omega⟩
  · refine ⟨_, cap, rfl, h5, (fun e => by cases e), fun hp => ⟨g, 0, rfl, fun q r j v hq hj => ?_⟩⟩
    have hf := rowsR_get R q r j v h1 hq hj
    have hl := h1.len
    have hlt := (List.getElem?_eq_some_iff.1 hf).1
    rw [Nat.zero_add, h2'.cellAt (q * k + j) (by omega), hf]
/-- opened: its block -/
theorem ownR.opened {w : World} {base : Nat} {e : TypeId} {k : Nat} {v : Value} {R : List (List Value)} (h : ownR w base e k v R) (hn : 0 < R.length) : ∃ g cap, v = .slice (some ⟨g, 0, none⟩) R.length cap ∧ base ≤ g ∧ g < w.heap.size ∧ R.length ≤ cap ∧ blkOf v = [g] ∧
    (∀ q r j u, R[q]? = some r → r[j]? = some u → w.cell? ⟨g, q * k + j, none⟩ = some u) ∧ (∀ j, w.frozen? ⟨g, j, none⟩ = false) := by
  obtain ⟨h1, h2⟩ := h
  have h2' := h2
  rcases h2.2 with ⟨rfl, h0⟩ | ⟨g, cap, cur, rfl, h3, h4, h5, h6⟩
  · omega
  · refine ⟨g, cap, rfl, h3, (Array.getElem?_eq_some_iff.1 h4).1, h5, rfl, fun q r j v hq hj => ?_, fun j => h2'.frozenAt j⟩
    have hf := rowsR_get R q r j v h1 hq hj
    have hl := h1.len
    have hlt := (List.getElem?_eq_some_iff.1 hf).1
    rw [h2'.cellAt (q * k + j) (by omega), hf]
/-- a cell of it is stored -/
theorem ownR.store {w : World} {base : Nat} {e : TypeId} {k g n cap : Nat} {R : List (List Value)} (h : ownR w base e k (.slice (some ⟨g, 0, none⟩) n cap) R) (q j : Nat) (r : List Value) (u : Value) (hq : R[q]? = some r) (hj : j < k) :
    ownR (w.setCell ⟨g, q * k + j, none⟩ u) base e k (.slice (some ⟨g, 0, none⟩) n cap) (R.set q (r.set j u)) := by
  obtain ⟨h1, h2⟩ := h
  have hn : n = R.length := by
    rcases h2.2 with ⟨e', _⟩ | ⟨g', cap', cur, e', _⟩
    · cases e'
    · cases e'; rfl
  subst hn
  have h3 := (h2.stored (q * k + j) u).1
  rw [flat_set R q r j u h1 hq hj] at h3
  refine ⟨fun x hx => ?_, by rw [List.length_set]; exact h3⟩
  rcases List.mem_or_eq_of_mem_set hx with hx | rfl
  · exact h1 x hx
  · rw [List.length_set]; exact h1 r (List.mem_of_getElem? hq)
/-- memory where many cells are stored -/
theorem heap_setCells_same (g : Nat) (e : TypeId) : ∀ (vs : List Value) (o : Nat) (w : World) (cur : Array Value), w.heap[g]? = some (.cells cur e (0, 0)) → o + vs.length ≤ cur.size →
    ∃ cur' : Array Value, (w.setCells g o vs).heap[g]? = some (.cells cur' e (0, 0)) ∧ cur'.toList = cur.toList.take o ++ vs ++ cur.toList.drop (o + vs.length)
  | [], o, w, cur, h, hl => ⟨cur, h, by simp⟩
  | v :: r, o, w, cur, h, hl => by
    rw [List.length_cons] at hl
    obtain ⟨cur', h1, h2⟩ := heap_setCells_same g e r (o + 1) (w.setCell ⟨g, o, none⟩ v) (cur.setIfInBounds o v) (heap_setCell_same w g o cur e v h) (by simp; omega)
    refine ⟨cur', h1, ?_⟩
    rw [h2, Array.toList_setIfInBounds, List.length_cons]
    have hlo : o < cur.toList.length := by simp; omega
    rw [List.take_set, List.drop_set_of_lt (by omega)]
    rw [show List.take (o + 1) cur.toList = List.take o cur.toList ++ [cur.toList[o]] by rw [List.take_add_one, List.getElem?_eq_getElem hlo]; rfl]
    rw [List.set_append_right _ _ (by simp; omega)]
    have : o - (List.take o cur.toList).length = 0 := by simp; omega
    rw [this, List.set_cons_zero]
    simp [List.append_assoc, Nat.add_comm, Nat.add_left_comm]
theorem grown_setCells (w : World) (g o : Nat) (vs : List Value) : w.grownBy (w.setCells g o vs) (some g) := by
  obtain ⟨h1, h2, h3, h4⟩ : (w.setCells g o vs).os = w.os ∧ (w.setCells g o vs).tape = w.tape ∧ (w.setCells g o vs).output = w.output ∧ (w.setCells g o vs).heap.size = w.heap.size := by
    induction vs generalizing o w with
    | nil => exact ⟨rfl, rfl, rfl, rfl⟩
    | cons v r ih =>
      obtain ⟨a, b, c, d⟩ := ih (w.setCell ⟨g, o, none⟩ v) (o + 1)
      exact ⟨a, b, c, d.trans (by simp [World.setCell])⟩
  refine ⟨h1, h2, h3, by omega, fun k hk hne => ?_⟩
  induction vs generalizing o w with
  | nil => rfl
  | cons v r ih =>
    have := ih (w.setCell ⟨g, o, none⟩ v) (o + 1)
    simp only [World.setCells]
    have e1 : (w.setCell ⟨g, o, none⟩ v).heap[k]? = w.heap[k]? := Below.heap_setCell w _ v k (fun e => hne (by rw [e]))
    obtain ⟨a1, a2, a3, a4⟩ : ((w.setCell ⟨g, o, none⟩ v).setCells g (o + 1) r).os = (w.setCell ⟨g, o, none⟩ v).os ∧ ((w.setCell ⟨g, o, none⟩ v).setCells g (o + 1) r).tape = (w.setCell ⟨g, o, none⟩ v).tape ∧ ((w.setCell ⟨g, o, none⟩ v).setCells g (o + 1) r).output = (w.setCell ⟨g, o, none⟩ v).output ∧ ((w.setCell ⟨g, o, none⟩ v).setCells g (o + 1) r).heap.size = (w.setCell ⟨g, o, none⟩ v).heap.size := by
      refine ⟨h1, h2, h3, h4.trans (by simp [World.setCell])⟩
    exact (this a1 a2 a3 a4 (by simpa [World.setCell] using hk)).trans e1
/-- clear(s) at elements of k cells -/
theorem run_clear_k {P : Program} (w : World) (t e ty : TypeId) (z : Value) (zs : List Value) (ht : P.underlying t = some (.slice e)) (hv : ∀ w, (zeroValue e).run P w = .ok z w) (hz : z.cells = zs.toArray) (h1 : ∀ u ∈ zs, u.oneCell' = true) (b o n c : Nat) (hn : 0 < n)
    (hc : ∀ j, j < n * zs.length → (w.cell? ⟨b, o + j, none⟩).isSome = true) (hf : ∀ j, j < n * zs.length → w.frozen? ⟨b, o + j, none⟩ = false) :
    ∃ vs : List Value, vs.length = n * zs.length ∧ (Builtin.clear_ #[t] ty #[.slice (some ⟨b, o, none⟩) n c]).run P w = .ok (.tuple #[]) (w.setCells b o vs) := by
  have hl : (Builtin.zeroCells z.cells n).toList.length = n * zs.length := by rw [Array.length_toList, size_zeroCells, hz]; simp
  have hm : ∀ u ∈ (Builtin.zeroCells z.cells n).toList, u.oneCell' = true := by
    intro u hu
    rw [hz] at hu
    simp [Builtin.zeroCells] at hu
    obtain ⟨i, hi, rfl⟩ := hu
    have hp : 0 < zs.length := by rcases Nat.eq_zero_or_pos zs.length with h | h; · rw [h] at hi; omega
                                  · exact h
    have : i % zs.length < zs.length := Nat.mod_lt _ hp
    first | exact h1 _ (List.getElem_mem this) | (rw [List.getElem?_eq_getElem this]; exact h1 _ (List.getElem_mem this)) | (simp [this]; exact h1 _ (List.getElem_mem this))
  refine ⟨(Builtin.zeroCells z.cells n).toList, hl, ?_⟩
  have hst := run_storeCells_cells (P := P) b o (Builtin.zeroCells z.cells n).toList 0 w (by rw [hl]; simpa using hc) (by rw [hl]; simpa using hf) hm
  simp only [Nat.add_zero] at hst
  obtain ⟨m, rfl⟩ : ∃ m, n = m + 1 := ⟨n - 1, by omega⟩
  simp [Builtin.clear_, run_underlying ht, hv, hst]
end Go.Proofs.Ytddojjigijfgbaa
/- Queues as plain data: items, names; what each call makes of them. -/
namespace Go.Proofs.Ytddojjigijfgbaa
open Go.RowKit
set_option linter.unusedVariables false

abbrev It := ByteArray × Int × Int
def encI (x : It) : List Value := [.string x.1, .int .i64 x.2.1, .int .i64 x.2.2]
def encS (s : ByteArray) : List Value := [.string s]
theorem rowsI (I : List It) : rowsK 3 (I.map encI) := fun r hr => by obtain ⟨x, _, rfl⟩ := List.mem_map.1 hr; rfl
theorem rowsS (A : List ByteArray) : rowsK 1 (A.map encS) := fun r hr => by obtain ⟨x, _, rfl⟩ := List.mem_map.1 hr; rfl
def itU : List It → UD
  | [] => .nil
  | x :: r => .p (.string x.1) (.p (.int .i64 x.2.1) (.p (.int .i64 x.2.2) (itU r)))
def stU : List ByteArray → UD
  | [] => .nil
  | s :: r => .p (.string s) (stU r)
structure Qu where
  I : List It
  D : List It
  A : List ByteArray
  now : Int
def quU (Q : Qu) : UD := .l 3 Q.I.length (itU Q.I) (.l 3 Q.D.length (itU Q.D) (.l 1 Q.A.length (stU Q.A) (.p (.int .i64 Q.now) .nil)))
def okI (x : It) : Prop := x.1.size ≤ maxLen ∧ inK .i64 x.2.1 ∧ inK .i64 x.2.2
def okIs (I : List It) : Prop := I.length ≤ 1048576 ∧ ∀ x ∈ I, okI x
def okSs (A : List ByteArray) : Prop := A.length ≤ 1048576 ∧ ∀ s ∈ A, s.size ≤ maxLen
def okQ (Q : Qu) : Prop := okIs Q.I ∧ okIs Q.D ∧ okSs Q.A ∧ inK .i64 Q.now
theorem itU_len : ∀ I : List It, (itU I).len = I.length * 3
  | [] => rfl
  | x :: r => by rw [itU, UD.len_p, UD.len_p, UD.len_p, itU_len r, List.length_cons]; omega
theorem stU_len : ∀ A : List ByteArray, (stU A).len = A.length * 1
  | [] => rfl
  | x :: r => by rw [stU, UD.len_p, stU_len r, List.length_cons]; omega
theorem itU_cnt : ∀ I : List It, cnt (itU I) = I.length * 3
  | [] => rfl
  | x :: r => by rw [itU, cnt, cnt, cnt, itU_cnt r, List.length_cons]; omega
theorem stU_cnt : ∀ A : List ByteArray, cnt (stU A) = A.length
  | [] => rfl
  | x :: r => by rw [stU, cnt, stU_cnt r, List.length_cons]; omega
theorem it_of : ∀ (n : Nat) (cs : UD) (i : Nat), i % 3 = 0 → cs.len = n * 3 → tyU cs (uE 12) i → ∃ I : List It, cs = itU I ∧ I.length = n ∧ ∀ x ∈ I, okI x
  | 0, cs, i, h0, hl, ht => by
    cases cs with
    | nil => exact ⟨[], rfl, rfl, fun x hx => by cases hx⟩
    | p v r => rw [UD.len_p] at hl; omega
    | l k n cs r => rw [UD.len_l] at hl; omega
  | n + 1, cs, i, h0, hl, ht => by
    cases cs with
    | nil => have : (UD.nil).len = 0 := rfl; omega
    | l k n cs r =>
      obtain ⟨⟨t, h1, _⟩, _⟩ := ht
      rw [show (uE 12).length = 3 from rfl, h0] at h1
      cases h1
    | p v r =>
      obtain ⟨⟨f, h1, h2⟩, h3⟩ := ht
      rw [show (uE 12).length = 3 from rfl, h0] at h1
      cases h1
      obtain ⟨s, rfl, hs⟩ := h2
      cases r with
      | nil => rw [UD.len_p] at hl; have : (UD.nil).len = 0 := rfl; omega
      | l k n cs r =>
        obtain ⟨⟨t, h1, _⟩, _⟩ := h3
        rw [show (uE 12).length = 3 from rfl, show (i + 1) % 3 = 1 by omega] at h1
        cases h1
      | p v r =>
        obtain ⟨⟨f, h1, h2⟩, h3⟩ := h3
        rw [show (uE 12).length = 3 from rfl, show (i + 1) % 3 = 1 by omega] at h1
        cases h1
        obtain ⟨y, rfl, hy⟩ := h2
        cases r with
        | nil => rw [UD.len_p, UD.len_p] at hl; have : (UD.nil).len = 0 := rfl; omega
        | l k n cs r =>
          obtain ⟨⟨t, h1, _⟩, _⟩ := h3
          rw [show (uE 12).length = 3 from rfl, show (i + 1 + 1) % 3 = 2 by omega] at h1
          cases h1
        | p v r =>
          obtain ⟨⟨f, h1, h2⟩, h3⟩ := h3
          rw [show (uE 12).length = 3 from rfl, show (i + 1 + 1) % 3 = 2 by omega] at h1
          cases h1
          obtain ⟨z, rfl, hz⟩ := h2
          rw [UD.len_p, UD.len_p, UD.len_p] at hl
          obtain ⟨I, rfl, g1, g2⟩ := it_of n r (i + 1 + 1 + 1) (by omega) (by omega) h3
          exact ⟨(s, y, z) :: I, rfl, by rw [List.length_cons, g1], fun x hx => by
            rcases List.mem_cons.1 hx with rfl | hx
            · exact ⟨hs, hy, hz⟩
            · exact g2 x hx⟩
theorem st_of : ∀ (n : Nat) (cs : UD) (i : Nat), cs.len = n → tyU cs (uE 0) i → ∃ A : List ByteArray, cs = stU A ∧ A.length = n ∧ ∀ s ∈ A, s.size ≤ maxLen
  | 0, cs, i, hl, ht => by
    cases cs with
    | nil => exact ⟨[], rfl, rfl, fun x hx => by cases hx⟩
    | p v r => rw [UD.len_p] at hl; omega
    | l k n cs r => rw [UD.len_l] at hl; omega
  | n + 1, cs, i, hl, ht => by
    cases cs with
    | nil => have : (UD.nil).len = 0 := rfl; omega
    | l k n cs r =>
      obtain ⟨⟨t, h1, _⟩, _⟩ := ht
      rw [show (uE 0).length = 1 from rfl, Nat.mod_one] at h1
      cases h1
    | p v r =>
      obtain ⟨⟨f, h1, h2⟩, h3⟩ := ht
      rw [show (uE 0).length = 1 from rfl, Nat.mod_one] at h1
      cases h1
      obtain ⟨s, rfl, hs⟩ := h2
      rw [UD.len_p] at hl
      obtain ⟨A, rfl, g1, g2⟩ := st_of n r (i + 1) (by omega) h3
      exact ⟨s :: A, rfl, by rw [List.length_cons, g1], fun x hx => by
        rcases List.mem_cons.1 hx with rfl | hx
        · exact hs
        · exact g2 x hx⟩
theorem tyU_it : ∀ (I : List It) (i : Nat), i % 3 = 0 → (∀ x ∈ I, okI x) → tyU (itU I) (uE 12) i
  | [], i, h, _ => trivial
  | x :: r, i, h, hk => by
    obtain ⟨h1, h2, h3⟩ := hk x (.head _)
    refine ⟨⟨.s, ?_, _, rfl, h1⟩, ⟨.i .i64, ?_, _, rfl, h2⟩, ⟨.i .i64, ?_, _, rfl, h3⟩, tyU_it r _ (by omega) (fun y hy => hk y (.tail _ hy))⟩
    · rw [show (uE 12).length = 3 from rfl, h]; rfl
    · rw [show (uE 12).length = 3 from rfl, show (i + 1) % 3 = 1 by omega]; rfl
    · rw [show (uE 12).length = 3 from rfl, show (i + 1 + 1) % 3 = 2 by omega]; rfl
theorem tyU_st : ∀ (A : List ByteArray) (i : Nat), (∀ s ∈ A, s.size ≤ maxLen) → tyU (stU A) (uE 0) i
  | [], i, _ => trivial
  | x :: r, i, hk => ⟨⟨.s, by rw [show (uE 0).length = 1 from rfl, Nat.mod_one]; rfl, _, rfl, hk x (.head _)⟩, tyU_st r _ (fun y hy => hk y (.tail _ hy))⟩
theorem maxLen_ge : 1048576 + 10 ≤ maxLen := by unfold maxLen; omega
theorem tyS_it {I : List It} (h : okIs I) : tyS 3 I.length (itU I) 12 := ⟨by decide, rfl, by have := h.1; have := maxLen_ge; omega, itU_len I, tyU_it I 0 rfl h.2⟩
theorem tyS_st {A : List ByteArray} (h : okSs A) : tyS 1 A.length (stU A) 0 := ⟨by decide, rfl, by have := h.1; have := maxLen_ge; omega, stU_len A, tyU_st A 0 h.2⟩
theorem tyL_qu {Q : Qu} (h : okQ Q) : tyL (quU Q) (uE 13) := ⟨12, _, rfl, tyS_it h.1, 12, _, rfl, tyS_it h.2.1, 0, _, rfl, tyS_st h.2.2.1, .i .i64, [], rfl, ⟨_, rfl, h.2.2.2⟩, rfl⟩
theorem cnt_qu {Q : Qu} (h : okQ Q) : cnt (quU Q) ≤ 50000000 := by
  have h1 := h.1.1; have h2 := h.2.1.1; have h3 := h.2.2.1.1
  unfold quU
  simp only [cnt, itU_cnt, stU_cnt]
  omega
/-- a queue's data out of its cells -/
theorem qu_of {d : UD} (ht : tyL d (uE 13)) (hw : wt d ≤ 1048576) : ∃ Q : Qu, d = quU Q ∧ okQ Q := by
  obtain ⟨n0, c0, n1, c1, n2, c2, z, rfl, h0, h1, h2, h3⟩ := partsQueue ht
  obtain ⟨I, rfl, l0, g0⟩ := it_of n0 c0 0 rfl h0.2.2.2.1 h0.2.2.2.2
  obtain ⟨D, rfl, l1, g1⟩ := it_of n1 c1 0 rfl h1.2.2.2.1 h1.2.2.2.2
  obtain ⟨A, rfl, l2, g2⟩ := st_of n2 c2 0 (by have := h2.2.2.2.1; omega) h2.2.2.2.2
  subst l0 l1 l2
  simp only [wt] at hw
  exact ⟨⟨I, D, A, z⟩, rfl, ⟨by show I.length ≤ _; omega, g0⟩, ⟨by show D.length ≤ _; omega, g1⟩, ⟨by show A.length ≤ _; omega, g2⟩, h3⟩
theorem uM_it {w : World} {lo hi b : Nat} : ∀ (I : List It) (o : Nat), uM w lo hi (itU I) b o → ∀ q r j v, (I.map encI)[q]? = some r → r[j]? = some v → w.cell? ⟨b, o + q * 3 + j, none⟩ = some v
  | [], o, h, q, r, j, v, hq, hj => by simp at hq
  | x :: I, o, h, 0, r, j, v, hq, hj => by
    cases hq
    obtain ⟨h1, h2, h3, _⟩ := h
    match j, hj with
    | 0, hj => cases hj; rw [← h1]; congr 2
    | 1, hj => cases hj; rw [← h2]; first | done | congr 2
    | 2, hj => cases hj; rw [← h3]; first | done | congr 2
    | j + 3, hj => simp [encI] at hj
  | x :: I, o, h, q + 1, r, j, v, hq, hj => by
    obtain ⟨h1, h2, h3, h4⟩ := h
    have := uM_it I _ h4 q r j v (by simpa using hq) hj
    rw [← this]; congr 2; rw [Nat.succ_mul]; omega
theorem uM_st {w : World} {lo hi b : Nat} : ∀ (A : List ByteArray) (o : Nat), uM w lo hi (stU A) b o → ∀ q r j v, (A.map encS)[q]? = some r → r[j]? = some v → w.cell? ⟨b, o + q * 1 + j, none⟩ = some v
  | [], o, h, q, r, j, v, hq, hj => by simp at hq
  | x :: A, o, h, 0, r, j, v, hq, hj => by
    cases hq
    obtain ⟨h1, _⟩ := h
    match j, hj with
    | 0, hj => cases hj; rw [← h1]; congr 2
    | j + 1, hj => simp [encS] at hj
  | x :: A, o, h, q + 1, r, j, v, hq, hj => by
    obtain ⟨h1, h4⟩ := h
    have := uM_st A _ h4 q r j v (by simpa using hq) hj
    rw [← this]; congr 2; rw [Nat.succ_mul]; omega
theorem uS.it {w : World} {lo hi : Nat} {I : List It} {c : Value} (h : uS w lo hi 3 I.length (itU I) c) : rdR w 3 c (I.map encI) := by
  obtain ⟨a, cap, rfl, ⟨h1, h2, _, _⟩, h3⟩ := h
  refine ⟨a, cap, by rw [List.length_map], by rw [List.length_map]; exact h1, h2, fun hp => ?_⟩
  rw [List.length_map] at hp
  obtain ⟨b, o, rfl, _, _, hm⟩ := h3 hp
  exact ⟨b, o, rfl, uM_it I o hm⟩
theorem uS.st {w : World} {lo hi : Nat} {A : List ByteArray} {c : Value} (h : uS w lo hi 1 A.length (stU A) c) : rdR w 1 c (A.map encS) := by
  obtain ⟨a, cap, rfl, ⟨h1, h2, _, _⟩, h3⟩ := h
  refine ⟨a, cap, by rw [List.length_map], by rw [List.length_map]; exact h1, h2, fun hp => ?_⟩
  rw [List.length_map] at hp
  obtain ⟨b, o, rfl, _, _, hm⟩ := h3 hp
  exact ⟨b, o, rfl, uM_st A o hm⟩
/-- a queue that can be read -/
def rdQ (w : World) (Q : Qu) (xs : List Value) : Prop := ∃ cI cD cA, xs = [cI, cD, cA, .int .i64 Q.now] ∧ rdR w 3 cI (Q.I.map encI) ∧ rdR w 3 cD (Q.D.map encI) ∧ rdR w 1 cA (Q.A.map encS)
theorem rdQ.below {w w' : World} {Q : Qu} {xs : List Value} (h : rdQ w Q xs) (hb : Below w.heap.size w w') : rdQ w' Q xs := by
  obtain ⟨cI, cD, cA, e, h1, h2, h3⟩ := h
  exact ⟨cI, cD, cA, e, h1.below hb, h2.below hb, h3.below hb⟩
theorem uH.qu {w : World} {lo hi : Nat} {Q : Qu} {xs : List Value} (h : uH w lo hi (quU Q) xs) : rdQ w Q xs := by
  obtain ⟨cI, _, rfl, h1, cD, _, rfl, h2, cA, _, rfl, h3, _, rfl, rfl⟩ := h
  exact ⟨cI, cD, cA, rfl, h1.it, h2.it, h3.st⟩
theorem oH_it {w : World} : ∀ I : List It, oH w (itU I) (I.map encI).flatten []
  | [] => ⟨rfl, rfl⟩
  | x :: I => ⟨_, rfl, _, rfl, _, rfl, oH_it I⟩
theorem oH_st {w : World} : ∀ A : List ByteArray, oH w (stU A) (A.map encS).flatten []
  | [] => ⟨rfl, rfl⟩
  | x :: I => ⟨_, rfl, oH_st I⟩
/-- a queue in memory of one's own -/
structure QO (w : World) (base : Nat) (tI tS : TypeId) (Q : Qu) (vI vD vA : Value) : Prop where
  i : ownR w base tI 3 vI (Q.I.map encI)
  d : ownR w base tI 3 vD (Q.D.map encI)
  a : ownR w base tS 1 vA (Q.A.map encS)
  id : ∀ g ∈ blkOf vI, g ∉ blkOf vD
  ia : ∀ g ∈ blkOf vI, g ∉ blkOf vA
  da : ∀ g ∈ blkOf vD, g ∉ blkOf vA
theorem blk_nodup (v : Value) : (blkOf v).Nodup := by unfold blkOf; cases v.ownBlock with | none => exact List.nodup_nil | some g => simp
theorem QO.own {w : World} {base : Nat} {tI tS : TypeId} {Q : Qu} {vI vD vA : Value} (h : QO w base tI tS Q vI vD vA) : ∃ S, oH w (quU Q) [vI, vD, vA, .int .i64 Q.now] S ∧ own2 S base w.heap.size := by
  have up : ∀ {e : TypeId} {k : Nat} {v : Value} {R : List (List Value)}, ownR w base e k v R → ownR w 0 e k v R := fun h => h.mono (Nat.zero_le _)
  have l1 : ∀ (I : List It) {v : Value}, ownR w base tI 3 v (I.map encI) → w.ownsRow 0 tI 3 v I.length (I.map encI).flatten := fun I v h => by have := (up h).2; rw [List.length_map] at this; exact this
  have l2 : w.ownsRow 0 tS 1 vA Q.A.length (Q.A.map encS).flatten := by have := (up h.a).2; rw [List.length_map] at this; exact this
  refine ⟨(blkOf vI ++ []) ++ ((blkOf vD ++ []) ++ ((blkOf vA ++ []) ++ [])), ⟨vI, _, [], _, rfl, rfl, by decide, ⟨tI, _, l1 _ h.i, oH_it _⟩, vD, _, [], _, rfl, rfl, by decide, ⟨tI, _, l1 _ h.d, oH_it _⟩, vA, _, [], _, rfl, rfl, by decide, ⟨tS, _, l2, oH_st _⟩, _, rfl, rfl, rfl⟩, ?_, fun s hs => ?_⟩
  · simp only [List.append_nil]
    refine List.nodup_append.2 ⟨blk_nodup _, List.nodup_append.2 ⟨blk_nodup _, blk_nodup _, fun a ha b hb e => h.da a ha (e ▸ hb)⟩, fun a ha b hb e => ?_⟩
    subst e
    rcases List.mem_append.1 hb with hb | hb
    · exact h.id a ha hb
    · exact h.ia a ha hb
  · simp only [List.append_nil, List.mem_append] at hs
    rcases hs with hs | hs | hs
    · exact h.i.lt s hs
    · exact h.d.lt s hs
    · exact h.a.lt s hs
theorem QO.rd {w : World} {base : Nat} {tI tS : TypeId} {Q : Qu} {vI vD vA : Value} (h : QO w base tI tS Q vI vD vA) : rdQ w Q [vI, vD, vA, .int .i64 Q.now] := ⟨_, _, _, rfl, h.i.rd (by decide), h.d.rd (by decide), h.a.rd (by decide)⟩
theorem QO.below {w w' : World} {base : Nat} {tI tS : TypeId} {Q : Qu} {vI vD vA : Value} (h : QO w base tI tS Q vI vD vA) (hb : Below w.heap.size w w') : QO w' base tI tS Q vI vD vA := ⟨h.i.below hb, h.d.below hb, h.a.below hb, h.id, h.ia, h.da⟩
theorem QO.outS {w w' : World} {base : Nat} {tI tS : TypeId} {Q : Qu} {vI vD vA : Value} {T : List Nat} (h : QO w base tI tS Q vI vD vA) (ho : OutS T w w') (hT : ∀ t ∈ T, t < base) : QO w' base tI tS Q vI vD vA := by
  have key : ∀ g, base ≤ g → g < w.heap.size → w'.heap[g]? = w.heap[g]? := fun g h1 h2 => ho.block g h2 (fun hg => by have := hT g hg; omega)
  exact ⟨h.i.frame (fun g hg => key g (h.i.lt g hg).1 (h.i.lt g hg).2), h.d.frame (fun g hg => key g (h.d.lt g hg).1 (h.d.lt g hg).2), h.a.frame (fun g hg => key g (h.a.lt g hg).1 (h.a.lt g hg).2), h.id, h.ia, h.da⟩
theorem QO.mono {w : World} {base base' : Nat} {tI tS : TypeId} {Q : Qu} {vI vD vA : Value} (h : QO w base tI tS Q vI vD vA) (hb : base' ≤ base) : QO w base' tI tS Q vI vD vA := ⟨h.i.mono hb, h.d.mono hb, h.a.mono hb, h.id, h.ia, h.da⟩
end Go.Proofs.Ytddojjigijfgbaa
/- Contracts of the two NameOk and what they call: both answer 'nameB', for every string. -/
namespace Go.Proofs.Ytddojjigijfgbaa
open Go.RowKit

theorem hide {p : Prop} (h : p) : Hid p := h
def inB (x a b : Int) : Bool := decide (a ≤ x ∧ x ≤ b)
def nbI (x : Int) : Bool := decide ((97 ≤ x ∧ x ≤ 122) ∨ (48 ≤ x ∧ x ≤ 57) ∨ x = 45)
/-- the byte at a place, as a number -/
def byt (s : ByteArray) (i : Nat) : Int := ((s.data.toList[i]?.getD 0).toNat : Int)
def okTo (s : ByteArray) (k : Nat) : Prop := ∀ j, j < k → nbI (byt s j) = true
def nameB (s : ByteArray) : Bool := decide ((∀ j, j < s.size → nbI (byt s j) = true) ∧ 1 ≤ s.size ∧ s.size ≤ 20 ∧ byt s 0 ≠ 45 ∧ byt s (s.size - 1) ≠ 45)

theorem byt_get (s : ByteArray) (i : Nat) (h : i < s.size) : byt s i = ((s[i]'h).toNat : Int) := by
  unfold byt
  have h' : i < s.data.toList.length := by simpa using h
  rw [List.getElem?_eq_getElem h']
  rfl
theorem byt_bd (s : ByteArray) (i : Nat) : 0 ≤ byt s i ∧ byt s i < 256 := by
  unfold byt
  have := (s.data.toList[i]?.getD 0).toNat_lt
  omega
theorem okTo_succ {s : ByteArray} {k : Nat} (h : okTo s k) (hk : nbI (byt s k) = true) : okTo s (k + 1) := by
  intro j hj
  by_cases e : j = k
  · rw [e]; exact hk
  · exact h j (by omega)
theorem nameB_bad {s : ByteArray} {k : Nat} (hk : k < s.size) (h : nbI (byt s k) = false) : nameB s = false := by
  unfold nameB
  rw [decide_eq_false_iff_not]
  rintro ⟨h1, -⟩
  have := h1 k hk
  rw [h] at this
  cases this

theorem ret_bool {a b : Bool} (h : a = b) : Ending.returned (.bool a) = .returned (.bool b) := by rw [h]

theorem l1In_any (x a b : Int) (w : World) : Calls Try.prog 23 #[.int .i64 x, .int .i64 a, .int .i64 b] w fun e w' => e = .returned (.bool (inB x a b)) ∧ w' = w := by
  go_enter Try.func23, Try.ntmps23
  go_wp2
  all_goals go_ret
  all_goals exact ⟨ret_bool (by rw [Bool.eq_iff_iff]; simp [inB]; omega), rfl⟩
theorem nameRune_any (x : Int) (w : World) : Calls Try.prog 34 #[.int .i32 x] w fun e w' => e = .returned (.bool (nbI x)) ∧ w' = w := by
  go_enter Try.func34, Try.ntmps34
  go_wp2
  all_goals go_ret
  all_goals exact ⟨ret_bool (by rw [Bool.eq_iff_iff]; simp [nbI]; omega), rfl⟩

theorem cls (c : Int) : (inB c 97 122 = true ∧ Hid (nbI c = true)) ∨ (inB c 97 122 = false ∧ inB c 48 57 = true ∧ Hid (nbI c = true)) ∨
    (inB c 97 122 = false ∧ inB c 48 57 = false ∧ (c != 45) = false ∧ Hid (nbI c = true)) ∨ (inB c 97 122 = false ∧ inB c 48 57 = false ∧ (c != 45) = true ∧ Hid (nbI c = false)) := by
  unfold Hid inB nbI
  simp only [decide_eq_true_eq, decide_eq_false_iff_not, bne_iff_ne, bne_eq_false_iff_eq]
  omega
/-- the last row of both, the bytes being right -/
theorem nameB_end {s : ByteArray} (hok : okTo s s.size) : (inB s.size 1 20 = false ∧ Hid (nameB s = false)) ∨
    ∃ (h0 : 0 < s.size) (h1 : s.size - 1 < s.size), inB s.size 1 20 = true ∧ s.size ≤ 20 ∧ ((((s[0]'h0).toNat : Int) != 45) = false ∧ Hid (nameB s = false) ∨ (((s[0]'h0).toNat : Int) != 45) = true ∧
      ((((s[s.size - 1]'h1).toNat : Int) != 45) = false ∧ Hid (nameB s = false) ∨ (((s[s.size - 1]'h1).toNat : Int) != 45) = true ∧ Hid (nameB s = true))) := by
  by_cases hz : inB s.size 1 20 = true
  · right
    have hz' := hz
    unfold inB at hz'
    simp only [decide_eq_true_eq] at hz'
    have h0 : 0 < s.size := by omega
    have h1 : s.size - 1 < s.size := by omega
    refine ⟨h0, h1, hz, by omega, ?_⟩
    have e0 := byt_get s 0 h0
    have e1 := byt_get s (s.size - 1) h1
    simp only [← e0, ← e1, Hid, nameB, bne_iff_ne, bne_eq_false_iff_eq, decide_eq_true_eq, decide_eq_false_iff_not, ne_eq]
    by_cases a : byt s 0 = 45
    · left; exact ⟨a, fun h => h.2.2.2.1 a⟩
    · right
      refine ⟨a, ?_⟩
      by_cases b : byt s (s.size - 1) = 45
      · left; exact ⟨b, fun h => h.2.2.2.2 b⟩
      · right; exact ⟨b, hok, by omega, by omega, a, b⟩
  · left
    have hz' : inB s.size 1 20 = false := by simpa using hz
    refine ⟨hz', ?_⟩
    unfold inB at hz
    simp only [decide_eq_true_eq] at hz
    unfold Hid nameB
    rw [decide_eq_false_iff_not]
    rintro ⟨-, a, b, -⟩
    omega

theorem sname_any (s : ByteArray) (w : World) (hs : s.size ≤ maxLen) : Calls Try.prog 20 #[.string s] w fun e w' => e = .returned (.bool (nameB s)) ∧ w' = w := by
  unfold maxLen at hs
  go_enter Try.func20, Try.ntmps20
  go_wp2
  go_loop [3] (fun i => ∃ k : Nat, k ≤ s.size ∧ i = .int .i64 k ∧ okTo s k) (fun i => s.size - (intOf i).toNat)
  case atStart => exact ⟨0, Nat.zero_le _, rfl, fun j hj => by omega⟩
  case round =>
    obtain ⟨k, hk, rfl, hok⟩ := hrel
    by_cases hlt : k < s.size
    · have hb := byt_bd s k
      rw [byt_get s k hlt] at hb
      have hsucc := fun h => okTo_succ hok (k := k) h
      have hbad := fun h => nameB_bad (s := s) hlt h
      have hc := cls (byt s k)
      rw [byt_get s k hlt] at hsucc hbad hc
      clear hok
      have Hs : Hid (nbI (s[k]'hlt).toNat = true → okTo s (k + 1)) := hsucc
      have Hb : Hid (nbI (s[k]'hlt).toNat = false → nameB s = false) := hbad
      clear hsucc hbad
      rcases hc with ⟨h1, hn⟩ | ⟨h1, h2, hn⟩ | ⟨h1, h2, h3, hn⟩ | ⟨h1, h2, h3, hn⟩
      all_goals
        go_wp2_with (go_at_call 23; refine (l1In_any _ _ _ _).mono ?_; rintro e w' ⟨rfl, rfl⟩)
      · go_round
        case rel => exact ⟨k + 1, by omega, by go_num, Hs.out hn.out⟩
        case measure => simp [intOf]; omega
      · go_round
        case rel => exact ⟨k + 1, by omega, by go_num, Hs.out hn.out⟩
        case measure => simp [intOf]; omega
      · go_round
        case rel => exact ⟨k + 1, by omega, by go_num, Hs.out hn.out⟩
        case measure => simp [intOf]; omega
      · go_ret
        exact ⟨ret_bool (Hb.out hn.out).symm, rfl⟩
    · have e : k = s.size := by omega
      subst e
      rcases nameB_end hok with ⟨h1, hn⟩ | ⟨h0, h01, h1, h20, ⟨h2, hn⟩ | ⟨h2, ⟨h3, hn⟩ | ⟨h3, hn⟩⟩⟩
      all_goals clear hok
      all_goals
        go_wp2_with (go_at_call 23; refine (l1In_any _ _ _ _).mono ?_; rintro e w' ⟨rfl, rfl⟩)
      all_goals (go_ret; exact ⟨ret_bool hn.out.symm, rfl⟩)

theorem width_pos (s : ByteArray) (pos : Nat) (h : pos < s.size) : 1 ≤ (Utf8.decode s pos).2 := by
  by_cases ha : (s[pos]'h).toNat < 128
  · rw [decode_ascii s pos h ha]
    exact Nat.le_refl _
  · exact (decode_high s pos h (by omega)).2
theorem rune_is (s : ByteArray) (pos : Nat) (h : pos < s.size) : (nbI ((Utf8.decode s pos).1 : Int) = true ∧ Hid (nbI (byt s pos) = true ∧ (Utf8.decode s pos).2 = 1)) ∨ (nbI ((Utf8.decode s pos).1 : Int) = false ∧ Hid (nbI (byt s pos) = false)) := by
  by_cases ha : (s[pos]'h).toNat < 128
  · rw [decode_ascii s pos h ha, byt_get s pos h]
    by_cases hn : nbI ((s[pos]'h).toNat : Int) = true
    · exact .inl ⟨hn, hn, rfl⟩
    · have hn' : nbI ((s[pos]'h).toNat : Int) = false := by simpa using hn
      exact .inr ⟨hn', hn'⟩
  · have hd := (decode_high s pos h (by omega)).1
    right
    rw [byt_get s pos h]
    unfold Hid nbI
    simp only [decide_eq_false_iff_not]
    omega
theorem nameB_long {s : ByteArray} (h : 20 < s.size) : nameB s = false := by
  unfold nameB; rw [decide_eq_false_iff_not]; omega
theorem nameB_none {s : ByteArray} (h : s.size = 0) : nameB s = false := by
  unfold nameB; rw [decide_eq_false_iff_not]; omega

theorem empty_iff (s : ByteArray) : s.toList.isEmpty = decide (s.size = 0) := by
  rw [Lib.toList_data, Bool.eq_iff_iff, List.isEmpty_iff, decide_eq_true_eq]
  constructor
  · intro h; have := congrArg List.length h; simpa using this
  · intro h; exact List.eq_nil_of_length_eq_zero (by simpa using h)

set_option maxRecDepth 1000000 in
theorem iname_any (s : ByteArray) (w : World) : Calls Try.prog 17 #[.string s] w fun e w' => e = .returned (.bool (nameB s)) ∧ Below w.heap.size w w' := by
  by_cases hz : s.size = 0
  · have he : s.toList.isEmpty = true := by rw [empty_iff, decide_eq_true hz]
    have hn : Hid (nameB s = false) := nameB_none hz
    clear hz
    go_enter Try.func17, Try.ntmps17
    go_wp2
    go_ret
    exact ⟨ret_bool hn.out.symm, Below.refl _ _⟩
  have he : s.toList.isEmpty = false := by rw [empty_iff, decide_eq_false hz]
  by_cases hl : 20 < s.size
  · have hn : Hid (nameB s = false) := nameB_long hl
    have hl' : (20 : Int) < (s.size : Int) := by omega
    clear hz hl
    go_enter Try.func17, Try.ntmps17
    go_wp2
    go_ret
    exact ⟨ret_bool hn.out.symm, Below.refl _ _⟩
  have hl' : ¬ (20 : Int) < (s.size : Int) := by omega
  go_enter Try.func17, Try.ntmps17
  go_wp2
  go_loopw [] (fun wr => ∃ pos : Nat, pos ≤ s.size ∧ wr.heap[w.heap.size]? = some (.stringIter s pos) ∧ Below w.heap.size w wr ∧ okTo s pos) (fun wr => s.size - wr.iterPos w.heap.size)
  case atStart => exact ⟨0, Nat.zero_le _, World.iter_heap w s 0, (Below.refl _ _).alloc (Nat.le_refl _) _, fun j hj => by omega⟩
  case round =>
    obtain ⟨pos, hpos, hit, hbw, hok⟩ := hrel
    have hpos0 : wr.iterPos w.heap.size = pos := by simp [World.iterPos, hit]
    by_cases hp : pos < s.size
    · have hnx : ∀ ty, (Instr.next (.pointer (some ⟨w.heap.size, 0, none⟩)) true ty).run Try.prog wr = _ := fun ty => Lib.run_next_any_at wr w.heap.size s pos ty hit hp
      have hit2 := Lib.iterAt_heap wr w.heap.size s pos (pos + (Utf8.decode s pos).2) hit
      have hbw2 := Lib.below_iterAt hbw (k := w.heap.size) (Nat.le_refl _) s (pos + (Utf8.decode s pos).2)
      have hpos2 : (wr.iterAt w.heap.size s (pos + (Utf8.decode s pos).2)).iterPos w.heap.size = pos + (Utf8.decode s pos).2 := by simp [World.iterPos, hit2]
      obtain ⟨W1, hW1⟩ : ∃ W1, W1 = wr.iterAt w.heap.size s (pos + (Utf8.decode s pos).2) := ⟨_, rfl⟩
      rw [← hW1] at hnx hit2 hbw2 hpos2
      have Hp : Hid (W1.iterPos w.heap.size = pos + (Utf8.decode s pos).2) := hpos2
      have Hp0 : Hid (wr.iterPos w.heap.size = pos) := hpos0
      have Hi : Hid (W1.heap[w.heap.size]? = some (.stringIter s (pos + (Utf8.decode s pos).2))) := hit2
      have Hs : Hid (nbI (byt s pos) = true → okTo s (pos + 1)) := fun h => okTo_succ hok (k := pos) h
      have Hb : Hid (nbI (byt s pos) = false → nameB s = false) := fun h => nameB_bad (s := s) hp h
      clear hW1 hit hbw hpos2 hit2 hok hpos0
      rcases rune_is s pos hp with ⟨h1, hn⟩ | ⟨h1, hn⟩
      all_goals
        go_wp2_with (go_at_call 34; refine (nameRune_any _ _).mono ?_; rintro e w' ⟨rfl, rfl⟩)
      · go_roundw
        case rel => exact ⟨pos + (Utf8.decode s pos).2, by rw [hn.out.2]; omega, Hi.out, hbw2, by rw [hn.out.2]; exact Hs.out hn.out.1⟩
        case measure => rw [Hp.out, Hp0.out, hn.out.2]; omega
      · go_ret
        exact ⟨ret_bool (Hb.out hn.out).symm, hbw2⟩
    · have e : pos = s.size := by omega
      subst e
      have hnx : ∀ ty, (Instr.next (.pointer (some ⟨w.heap.size, 0, none⟩)) true ty).run Try.prog wr = _ := fun ty => Lib.run_next_end_at wr w.heap.size s s.size ty hit hp
      rcases nameB_end hok with ⟨h1, hn⟩ | ⟨h0, h01, h1, h20, ⟨h2, hn⟩ | ⟨h2, ⟨h3, hn⟩ | ⟨h3, hn⟩⟩⟩
      · exfalso; unfold inB at h1; simp only [decide_eq_false_iff_not] at h1; omega
      all_goals clear hok hpos0 hit
      all_goals go_wp2
      all_goals (go_ret; exact ⟨ret_bool hn.out.symm, hbw⟩)
end Go.Proofs.Ytddojjigijfgbaa
/- Small facts that many texts want. -/
namespace Go.Proofs.Ytddojjigijfgbaa
open Go.RowKit Go.BigFrame
set_option linter.unusedVariables false
theorem ret_int {k : IntKind} {a b : Int} (h : a = b) : Ending.returned (.int k a) = .returned (.int k b) := by rw [h]

theorem beq_str (s t : ByteArray) : (s.toList == t.toList) = decide (s = t) := by
  rw [Lib.toList_data, Lib.toList_data, Bool.eq_iff_iff, beq_iff_eq, decide_eq_true_eq]
  constructor
  · intro h
    apply ByteArray.ext
    exact Array.ext' h
  · intro h; rw [h]

theorem below_drewN {B : Nat} {a w : World} (h : Below B a w) (n : Nat) : Below B a (w.drewN n) := h.trans ⟨rfl, rfl, rfl, Nat.le_refl _, fun _ _ => rfl⟩
def ltS (a b : ByteArray) : Bool := Op.bytesLess a.toList b.toList
end Go.Proofs.Ytddojjigijfgbaa
/- Queues: what is right, and what each call makes of one, as plain functions. -/
namespace Go.Proofs.Ytddojjigijfgbaa
open Go.RowKit
set_option linter.unusedVariables false

def itOk (x : It) : Prop := nameB x.1 = true ∧ (0 ≤ x.2.1 ∧ x.2.1 ≤ 1000064) ∧ (0 ≤ x.2.2 ∧ x.2.2 ≤ 1000)
def qOkP (Q : Qu) : Prop := Q.I.length ≤ 60 ∧ Q.D.length ≤ 60 ∧ (0 ≤ Q.now ∧ Q.now ≤ 1000000) ∧ (∀ x ∈ Q.I ++ Q.D, itOk x) ∧ (∀ x ∈ Q.D, x.2.1 = 0) ∧ ((Q.I ++ Q.D).map (fun x => x.1)).Nodup ∧ Q.A.Nodup ∧ ∀ s ∈ Q.A, s ∈ Q.D.map (fun x => x.1)
noncomputable def qOk (Q : Qu) : Bool := @decide (qOkP Q) (Classical.propDecidable _)
theorem qOk_true {Q : Qu} (h : qOkP Q) : qOk Q = true := @decide_eq_true _ (Classical.propDecidable _) h
theorem qOk_false {Q : Qu} (h : ¬ qOkP Q) : qOk Q = false := @decide_eq_false _ (Classical.propDecidable _) h
theorem qOk_iff {Q : Qu} : qOk Q = true ↔ qOkP Q := @decide_eq_true_iff _ (Classical.propDecidable _)
/-- the first place of a name -/
def fndI (L : List It) (s : ByteArray) : Nat := L.findIdx (fun x => decide (x.1 = s))
def plcI (L : List It) (s : ByteArray) : Int := if fndI L s < L.length then (fndI L s : Int) else -1
theorem fndI_le (L : List It) (s : ByteArray) : fndI L s ≤ L.length := List.findIdx_le_length
theorem fndI_at {L : List It} {s : ByteArray} {i : Nat} (h : i < L.length) : fndI L s = i ↔ (L[i].1 = s ∧ ∀ j (hj : j < i), (L[j]'(by omega)).1 ≠ s) := by
  unfold fndI
  rw [List.findIdx_eq h]
  simp
theorem fndI_none {L : List It} {s : ByteArray} (h : ∀ x ∈ L, x.1 ≠ s) : fndI L s = L.length := by
  unfold fndI
  rw [List.findIdx_eq_length]
  intro x hx
  simpa using h x hx
theorem fndI_hit {L : List It} {s : ByteArray} {i : Nat} (h : i < L.length) (he : L[i].1 = s) (hj : ∀ j (hj : j < i), (L[j]'(by omega)).1 ≠ s) : plcI L s = (i : Int) := by
  have := (fndI_at h).2 ⟨he, hj⟩
  unfold plcI
  rw [this, if_pos h]
theorem fndI_miss {L : List It} {s : ByteArray} (h : ∀ j (hj : j < L.length), (L[j]'hj).1 ≠ s) : plcI L s = -1 := by
  have : fndI L s = L.length := fndI_none (fun x hx => by obtain ⟨j, hj, rfl⟩ := List.mem_iff_getElem.1 hx; exact h j hj)
  unfold plcI
  rw [this, if_neg (by omega)]
theorem fndI_lt {L : List It} {s : ByteArray} (h : fndI L s < L.length) : (L[fndI L s]'h).1 = s := ((fndI_at h).1 rfl).1
theorem fndI_mem {L : List It} {s : ByteArray} : fndI L s < L.length ↔ s ∈ L.map (fun x => x.1) := by
  constructor
  · intro h
    have := fndI_lt h
    exact List.mem_map.2 ⟨_, List.getElem_mem h, this⟩
  · intro h
    obtain ⟨x, hx, rfl⟩ := List.mem_map.1 h
    unfold fndI
    rw [List.findIdx_lt_length]
    exact ⟨x, hx, by simp⟩
theorem nodup_fnd {L : List It} : (L.map (fun x => x.1)).Nodup ↔ ∀ i (h : i < L.length), plcI L (L[i].1) = (i : Int) := by
  constructor
  · intro hn i h
    refine fndI_hit h rfl (fun j hj e => ?_)
    have h1 : (L.map (fun x => x.1))[j]'(by rw [List.length_map]; omega) = (L.map (fun x => x.1))[i]'(by rw [List.length_map]; exact h) := by rw [List.getElem_map, List.getElem_map]; exact e
    have := (List.getElem_inj hn).1 h1
    omega
  · intro hp
    rw [List.nodup_iff_pairwise_ne, List.pairwise_iff_getElem]
    intro i j hi hj hij e
    rw [List.length_map] at hi hj
    rw [List.getElem_map, List.getElem_map] at e
    have h1 := hp i hi
    have h2 := hp j hj
    rw [← e, h1] at h2
    omega
/-- the first that may be taken -/
def rdyN (L : List It) (now : Int) : Nat := L.findIdx (fun x => decide (x.2.1 ≤ now))
theorem rdy_at {L : List It} {now : Int} {i : Nat} (h : i < L.length) : rdyN L now = i ↔ (L[i].2.1 ≤ now ∧ ∀ j (hj : j < i), ¬ (L[j]'(by omega)).2.1 ≤ now) := by
  unfold rdyN
  rw [List.findIdx_eq h]
  simp
theorem rdy_none {L : List It} {now : Int} (h : ∀ j (hj : j < L.length), ¬ (L[j]'hj).2.1 ≤ now) : rdyN L now = L.length := by
  unfold rdyN
  rw [List.findIdx_eq_length]
  intro x hx
  obtain ⟨j, hj, rfl⟩ := List.mem_iff_getElem.1 hx
  simpa using h j hj
theorem rdy_le (L : List It) (now : Int) : rdyN L now ≤ L.length := List.findIdx_le_length
def dropAt {α : Type} (L : List α) (i : Nat) : List α := L.take i ++ L.drop (i + 1)
def inA (A : List ByteArray) (s : ByteArray) : Bool := A.any (fun t => decide (t = s))
theorem inA_iff {A : List ByteArray} {s : ByteArray} : inA A s = true ↔ s ∈ A := by
  unfold inA
  rw [List.any_eq_true]
  exact ⟨fun ⟨t, h1, h2⟩ => by simp at h2; exact h2 ▸ h1, fun h => ⟨s, h, by simp⟩⟩
/-- put, of a right queue and a name -/
def addQ (Q : Qu) (x : It) : Qu := if Q.I.length = 60 then Q else { Q with I := Q.I ++ [x] }
def putC (Q : Qu) (s : ByteArray) : Qu × Bool :=
  if fndI Q.D s < Q.D.length then (if inA Q.A s = true then Q else { Q with A := Q.A ++ [s] }, true)
  else if h : fndI Q.I s < Q.I.length then ({ Q with I := Q.I.set (fndI Q.I s) ((Q.I[fndI Q.I s]).1, min (Q.I[fndI Q.I s]).2.1 Q.now, (Q.I[fndI Q.I s]).2.2) }, true)
  else if Q.I.length = 60 then (Q, false)
  else ({ Q with I := Q.I ++ [(s, Q.now, 0)] }, true)
noncomputable def putQ (Q : Qu) (s : ByteArray) : Qu × Bool := if qOk Q = true ∧ nameB s = true then putC Q s else (Q, false)
def takeC (Q : Qu) : Qu × ByteArray × Bool :=
  if h : rdyN Q.I Q.now < Q.I.length then
    (if Q.D.length = 60 then (Q, ⟨#[]⟩, false)
     else ({ Q with I := dropAt Q.I (rdyN Q.I Q.now), D := Q.D ++ [((Q.I[rdyN Q.I Q.now]).1, 0, (Q.I[rdyN Q.I Q.now]).2.2)] }, (Q.I[rdyN Q.I Q.now]).1, true))
  else (Q, ⟨#[]⟩, false)
noncomputable def takeQ (Q : Qu) : Qu × ByteArray × Bool := if qOk Q = true then takeC Q else (Q, ⟨#[]⟩, false)
def dlyN (f : Nat) : Nat := min (2 ^ (f - 1)) 64
def doneC (Q : Qu) (s : ByteArray) (well : Bool) : Qu × Bool :=
  if h : fndI Q.D s < Q.D.length then
    (let f : Int := min ((Q.D[fndI Q.D s]).2.2 + 1) 1000
     let R : Qu := { Q with D := dropAt Q.D (fndI Q.D s), A := Q.A.filter (fun t => decide (t ≠ s)) }
     (if well = true then (if inA Q.A s = true then addQ R (s, Q.now, 0) else R) else addQ R (s, Q.now + dlyN f.toNat, f), true))
  else (Q, false)
noncomputable def doneQ (Q : Qu) (s : ByteArray) (well : Bool) : Qu × Bool := if qOk Q = true then doneC Q s well else (Q, false)
noncomputable def passQ (Q : Qu) (z : Int) : Qu := if qOk Q = true ∧ z > Q.now ∧ z ≤ 1000000 then { Q with now := z } else Q
end Go.Proofs.Ytddojjigijfgbaa
