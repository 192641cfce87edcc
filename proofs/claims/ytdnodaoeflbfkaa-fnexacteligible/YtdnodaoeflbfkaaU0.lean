/- Data as cells: what an argument or an answer of the document's types is in memory: plain cells, and slices of cells. -/
import Derived.Below
import Derived.OneCell
import Derived.OwnWalk
namespace Go.Proofs.Ytdnodaoeflbfkaa
open Go.RowKit
set_option linter.unusedVariables false

theorem uhide {p : Prop} (h : p) : Hid p := h
/-- outside a range of blocks all is as it was -/
structure OutR (lo hi : Nat) (w w' : World) : Prop where
  os : w'.os = w.os
  tape : w'.tape = w.tape
  output : w'.output = w.output
  size : w.heap.size ≤ w'.heap.size
  block : ∀ k, k < w.heap.size → (k < lo ∨ hi ≤ k) → w'.heap[k]? = w.heap[k]?
theorem OutR.cell {lo hi : Nat} {a b : World} (h : OutR lo hi a b) {p : Addr} (hp : p.block < a.heap.size) (hr : p.block < lo ∨ hi ≤ p.block) : b.cell? p = a.cell? p := World.cell?_of_block (w := a) (h.block p.block hp hr)
theorem OutR.below {lo hi : Nat} {a b : World} (h : OutR lo hi a b) {B : Nat} (hB : B ≤ lo) (hs : B ≤ a.heap.size) : Below B a b := ⟨h.os, h.tape, h.output, h.size, fun k hk => h.block k (by omega) (by omega)⟩
theorem uowns_blk {w : World} {B n : Nat} {v : Value} {e : TypeId} {size : Nat} {xs : List Value} (h : w.ownsRow B e size v n xs) {g : Nat} (hg : v.ownBlock = some g) : B ≤ g ∧ g < w.heap.size := by
  rcases h.2 with ⟨h, _⟩ | ⟨g', cap, cur, h, hb, hh, _⟩
  · rw [h] at hg; cases hg
  · rw [h] at hg; cases hg; exact ⟨hb, (Array.getElem?_eq_some_iff.1 hh).1⟩
/-- the texts of marks -/
def umStep (k : Nat) : ByteArray := ([48 + (k : Int) % 10]).foldl (fun r n => r.push (UInt8.ofNat n.toNat)) ByteArray.empty
def umTo : Nat → Nat → ByteArray → ByteArray
  | 0, _, s => s
  | f + 1, k, s => if k = 0 then s else umTo f (k / 10) (umStep k ++ s)
def umtx (n : Nat) : ByteArray := ⟨#[109]⟩ ++ umTo n n ⟨#[]⟩
theorem umTo_zero (f : Nat) (s : ByteArray) : umTo f 0 s = s := by cases f <;> simp [umTo]
theorem umStep_size (k : Nat) : (umStep k).size = 1 := by simp [umStep, List.foldl]

/-- cells: plain ones, and slices of n things of k cells -/
inductive UD where
  | nil
  | p (v : Value) (r : UD)
  | l (k n : Nat) (cs r : UD)
/-- one cell -/
inductive UE where
  | p (v : Value)
  | l (k n : Nat) (cs : UD)
def UD.toL : UD → List UE
  | .nil => []
  | .p v r => .p v :: r.toL
  | .l k n cs r => .l k n cs :: r.toL
def UE.cons : UE → UD → UD
  | .p v, r => .p v r
  | .l k n cs, r => .l k n cs r
def UD.ofL : List UE → UD
  | [] => .nil
  | e :: r => e.cons (UD.ofL r)
theorem UE.cons_toL (e : UE) (r : UD) : (e.cons r).toL = e :: r.toL := by cases e <;> rfl
theorem UD.toL_ofL : ∀ l : List UE, (UD.ofL l).toL = l
  | [] => rfl
  | e :: r => by unfold UD.ofL; rw [UE.cons_toL, UD.toL_ofL r]
theorem UD.ofL_toL : ∀ d : UD, UD.ofL d.toL = d
  | .nil => rfl
  | .p v r => by unfold UD.toL UD.ofL; rw [UD.ofL_toL r]; rfl
  | .l k n cs r => by unfold UD.toL UD.ofL; rw [UD.ofL_toL r]; rfl
theorem UD.ext {a b : UD} (h : a.toL = b.toL) : a = b := by rw [← UD.ofL_toL a, h, UD.ofL_toL]
def UD.len (d : UD) : Nat := d.toL.length
def UD.at? (d : UD) (i : Nat) : Option UE := d.toL[i]?
def UD.setAt (d : UD) (i : Nat) (e : UE) : UD := UD.ofL (d.toL.set i e)
def UD.app (a b : UD) : UD := UD.ofL (a.toL ++ b.toL)
def UD.takeN (d : UD) (i : Nat) : UD := UD.ofL (d.toL.take i)
def UD.dropN (d : UD) (i : Nat) : UD := UD.ofL (d.toL.drop i)
theorem UD.app_nil (a : UD) : UD.app .nil a = a := UD.ofL_toL a
theorem UD.app_p (v : Value) (a b : UD) : UD.app (.p v a) b = .p v (UD.app a b) := rfl
theorem UD.app_l (k n : Nat) (cs a b : UD) : UD.app (.l k n cs a) b = .l k n cs (UD.app a b) := rfl
theorem UD.app_toL (a b : UD) : (UD.app a b).toL = a.toL ++ b.toL := UD.toL_ofL _
theorem UD.app_take_drop (a : UD) (i : Nat) : UD.app (a.takeN i) (a.dropN i) = a := by apply UD.ext; rw [UD.app_toL]; unfold UD.takeN UD.dropN; rw [UD.toL_ofL, UD.toL_ofL, List.take_append_drop]

def uSl (a : Option Addr) (k n cap m : Nat) : Prop := n ≤ cap ∧ (a = none → cap = 0) ∧ 0 < k ∧ m = n * k
/-- cells in memory, all in blocks lo .. hi -/
def uM (w : World) (lo hi : Nat) : UD → Nat → Nat → Prop
  | .nil, _, _ => True
  | .p v r, b, o => w.cell? ⟨b, o, none⟩ = some v ∧ uM w lo hi r b (o + 1)
  | .l k n cs r, b, o => (∃ a cap, w.cell? ⟨b, o, none⟩ = some (.slice a n cap) ∧ uSl a k n cap cs.len ∧ (0 < n → ∃ b' o', a = some ⟨b', o', none⟩ ∧ lo ≤ b' ∧ b' < hi ∧ uM w lo hi cs b' o')) ∧ uM w lo hi r b (o + 1)
/-- where a slice leads -/
def uS (w : World) (lo hi : Nat) (k n : Nat) (cs : UD) (c : Value) : Prop := ∃ a cap, c = .slice a n cap ∧ uSl a k n cap cs.len ∧ (0 < n → ∃ b' o', a = some ⟨b', o', none⟩ ∧ lo ≤ b' ∧ b' < hi ∧ uM w lo hi cs b' o')
def uC (w : World) (lo hi : Nat) : UE → Value → Prop
  | .p v, c => c = v
  | .l k n cs, c => uS w lo hi k n cs c
/-- data in hand -/
def uH (w : World) (lo hi : Nat) : UD → List Value → Prop
  | .nil, xs => xs = []
  | .p v r, xs => ∃ ys, xs = v :: ys ∧ uH w lo hi r ys
  | .l k n cs r, xs => ∃ c ys, xs = c :: ys ∧ uS w lo hi k n cs c ∧ uH w lo hi r ys

def KP (lo hi : Nat) (w w' : World) : Prop := ∀ (b o : Nat) v, lo ≤ b → b < hi → w.cell? ⟨b, o, none⟩ = some v → w'.cell? ⟨b, o, none⟩ = some v
theorem uM.kp {w w' : World} {lo hi : Nat} (hk : KP lo hi w w') : ∀ (d : UD) (b o : Nat), lo ≤ b → b < hi → uM w lo hi d b o → uM w' lo hi d b o
  | .nil, _, _, _, _, _ => trivial
  | .p v r, b, o, hl, hh, h => ⟨hk _ _ _ hl hh h.1, uM.kp hk r b (o + 1) hl hh h.2⟩
  | .l k n cs r, b, o, hl, hh, ⟨⟨a, cap, h0, h1, h2⟩, h3⟩ => ⟨⟨a, cap, hk _ _ _ hl hh h0, h1, fun hn => by
      obtain ⟨b', o', e, h4, h5, h6⟩ := h2 hn
      exact ⟨b', o', e, h4, h5, uM.kp hk cs b' o' h4 h5 h6⟩⟩, uM.kp hk r b (o + 1) hl hh h3⟩
theorem uS.kp {w w' : World} {lo hi : Nat} (hk : KP lo hi w w') {k n : Nat} {cs : UD} {c : Value} (h : uS w lo hi k n cs c) : uS w' lo hi k n cs c := by
  obtain ⟨a, cap, h0, h1, h2⟩ := h
  refine ⟨a, cap, h0, h1, fun hn => ?_⟩
  obtain ⟨b', o', e, h4, h5, h6⟩ := h2 hn
  exact ⟨b', o', e, h4, h5, uM.kp hk cs b' o' h4 h5 h6⟩
theorem uH.map {w w' : World} {lo hi lo' hi' : Nat} (hf : ∀ k n cs c, uS w lo hi k n cs c → uS w' lo' hi' k n cs c) : ∀ {d : UD} {xs : List Value}, uH w lo hi d xs → uH w' lo' hi' d xs
  | .nil, _, h => h
  | .p v r, _, ⟨ys, e, h⟩ => ⟨ys, e, uH.map hf h⟩
  | .l k n cs r, _, ⟨c, ys, e, h1, h2⟩ => ⟨c, ys, e, hf _ _ _ _ h1, uH.map hf h2⟩
theorem uM.mono {w : World} {lo hi lo' hi' : Nat} (h1 : lo' ≤ lo) (h2 : hi ≤ hi') : ∀ (d : UD) (b o : Nat), uM w lo hi d b o → uM w lo' hi' d b o
  | .nil, _, _, _ => trivial
  | .p v r, b, o, h => ⟨h.1, uM.mono h1 h2 r b (o + 1) h.2⟩
  | .l k n cs r, b, o, ⟨⟨a, cap, g0, g1, g2⟩, h3⟩ => ⟨⟨a, cap, g0, g1, fun hn => by
      obtain ⟨b', o', e, h4, h5, h6⟩ := g2 hn
      exact ⟨b', o', e, by omega, by omega, uM.mono h1 h2 cs b' o' h6⟩⟩, uM.mono h1 h2 r b (o + 1) h3⟩
theorem uS.mono {w : World} {lo hi lo' hi' : Nat} (h1 : lo' ≤ lo) (h2 : hi ≤ hi') {k n : Nat} {cs : UD} {c : Value} (h : uS w lo hi k n cs c) : uS w lo' hi' k n cs c := by
  obtain ⟨a, cap, g0, g1, g2⟩ := h
  refine ⟨a, cap, g0, g1, fun hn => ?_⟩
  obtain ⟨b', o', e, h4, h5, h6⟩ := g2 hn
  exact ⟨b', o', e, by omega, by omega, uM.mono h1 h2 cs b' o' h6⟩
theorem uM.pos {w : World} {lo hi b o : Nat} {d : UD} (h : uM w lo hi d b o) (hc : 0 < d.len) : b < w.heap.size := by
  cases d with
  | nil => cases hc
  | p v r => exact World.block_lt_of_cell? _ _ h.1
  | l k n cs r => obtain ⟨⟨a, cap, h0, _⟩, _⟩ := h; exact World.block_lt_of_cell? _ _ h0
theorem uSl.pos {a : Option Addr} {k n cap m : Nat} (h : uSl a k n cap m) (hn : 0 < n) : 0 < m := by rw [h.2.2.2]; exact Nat.mul_pos hn h.2.2.1
theorem uM.clip {w : World} {lo hi : Nat} : ∀ (d : UD) (b o : Nat), uM w lo hi d b o → uM w lo w.heap.size d b o
  | .nil, _, _, _ => trivial
  | .p v r, b, o, h => ⟨h.1, uM.clip r b (o + 1) h.2⟩
  | .l k n cs r, b, o, ⟨⟨a, cap, g0, g1, g2⟩, h3⟩ => ⟨⟨a, cap, g0, g1, fun hn => by
      obtain ⟨b', o', e, h4, h5, h6⟩ := g2 hn
      exact ⟨b', o', e, h4, h6.pos (g1.pos hn), uM.clip cs b' o' h6⟩⟩, uM.clip r b (o + 1) h3⟩
theorem uS.clip {w : World} {lo hi : Nat} {k n : Nat} {cs : UD} {c : Value} (h : uS w lo hi k n cs c) : uS w lo w.heap.size k n cs c := by
  obtain ⟨a, cap, g0, g1, g2⟩ := h
  refine ⟨a, cap, g0, g1, fun hn => ?_⟩
  obtain ⟨b', o', e, h4, h5, h6⟩ := g2 hn
  exact ⟨b', o', e, h4, h6.pos (g1.pos hn), uM.clip cs b' o' h6⟩
theorem KP.below {w w' : World} (lo hi : Nat) (hb : Below w.heap.size w w') : KP lo hi w w' := fun b o v _ _ h2 => (hb.cell (p := ⟨b, o, none⟩) (World.block_lt_of_cell? _ _ h2)).trans h2
theorem KP.out {w w' : World} {lo hi lo' hi' : Nat} (hb : OutR lo' hi' w w') (hd : hi ≤ lo' ∨ hi' ≤ lo) : KP lo hi w w' := fun b o v h0 h1 h2 => (hb.cell (p := ⟨b, o, none⟩) (World.block_lt_of_cell? _ _ h2) (by show b < lo' ∨ hi' ≤ b; omega)).trans h2
theorem uS.below {w w' : World} {lo hi : Nat} {k n : Nat} {cs : UD} {c : Value} (h : uS w lo hi k n cs c) (hb : Below w.heap.size w w') : uS w' lo hi k n cs c := h.kp (KP.below lo hi hb)
theorem uS.out {w w' : World} {lo hi lo' hi' : Nat} {k n : Nat} {cs : UD} {c : Value} (h : uS w lo hi k n cs c) (hb : OutR lo' hi' w w') (hd : hi ≤ lo' ∨ hi' ≤ lo) : uS w' lo hi k n cs c := h.kp (KP.out hb hd)
theorem uH.below {w w' : World} {lo hi : Nat} {d : UD} {xs : List Value} (h : uH w lo hi d xs) (hb : Below w.heap.size w w') : uH w' lo hi d xs := uH.map (fun _ _ _ _ g => g.below hb) h
theorem uH.out {w w' : World} {lo hi lo' hi' : Nat} {d : UD} {xs : List Value} (h : uH w lo hi d xs) (hb : OutR lo' hi' w w') (hd : hi ≤ lo' ∨ hi' ≤ lo) : uH w' lo hi d xs := uH.map (fun _ _ _ _ g => g.out hb hd) h
theorem uH.mono {w : World} {lo hi lo' hi' : Nat} {d : UD} {xs : List Value} (h : uH w lo hi d xs) (h1 : lo' ≤ lo) (h2 : hi ≤ hi') : uH w lo' hi' d xs := uH.map (fun _ _ _ _ g => g.mono h1 h2) h
theorem uH.clip {w : World} {lo hi : Nat} {d : UD} {xs : List Value} (h : uH w lo hi d xs) : uH w lo w.heap.size d xs := uH.map (fun _ _ _ _ g => g.clip) h
theorem UD.len_p (v : Value) (r : UD) : (UD.p v r).len = r.len + 1 := rfl
theorem UD.len_l (k n : Nat) (cs r : UD) : (UD.l k n cs r).len = r.len + 1 := rfl
theorem uH.len {w : World} {lo hi : Nat} : ∀ {d : UD} {xs : List Value}, uH w lo hi d xs → xs.length = d.len
  | .nil, _, h => by rw [h]; rfl
  | .p v r, _, ⟨ys, e, h⟩ => by rw [e, UD.len_p, ← uH.len h]; rfl
  | .l k n cs r, _, ⟨c, ys, e, _, h⟩ => by rw [e, UD.len_l, ← uH.len h]; rfl
theorem uM.get {w : World} {lo hi b : Nat} : ∀ {d : UD} {o : Nat} (h : uM w lo hi d b o) (i : Nat) (e : UE), d.at? i = some e → ∃ c, w.cell? ⟨b, o + i, none⟩ = some c ∧ uC w lo hi e c
  | .nil, o, h, i, e, he => by simp [UD.at?, UD.toL] at he
  | .p v r, o, h, 0, e, he => by cases he; exact ⟨v, h.1, rfl⟩
  | .l k n cs r, o, h, 0, e, he => by
    cases he
    obtain ⟨⟨a, cap, h0, h1⟩, _⟩ := h
    exact ⟨_, h0, a, cap, rfl, h1⟩
  | .p v r, o, h, i + 1, e, he => by
    obtain ⟨c, h1, h2⟩ := uM.get (d := r) h.2 i e he
    exact ⟨c, by rw [← h1]; congr 2; omega, h2⟩
  | .l k n cs r, o, h, i + 1, e, he => by
    obtain ⟨c, h1, h2⟩ := uM.get (d := r) h.2 i e he
    exact ⟨c, by rw [← h1]; congr 2; omega, h2⟩
theorem uS.cells {w : World} {lo hi k n : Nat} {cs : UD} {a : Option Addr} {cap : Nat} (h : uS w lo hi k n cs (.slice a n cap)) (hn : 0 < n) : ∃ b off, a = some ⟨b, off, none⟩ ∧ b < w.heap.size ∧ uM w lo hi cs b off := by
  obtain ⟨a', cap', h1, h2, h3⟩ := h
  obtain ⟨b, off, e, _, _, hm⟩ := h3 hn
  cases h1
  exact ⟨b, off, e, hm.pos (h2.pos hn), hm⟩
theorem uS.len {w : World} {lo hi k n : Nat} {cs : UD} {c : Value} (h : uS w lo hi k n cs c) : 0 < k ∧ cs.len = n * k := by
  obtain ⟨_, _, _, h, _⟩ := h; exact h.2.2

/-! what is weighed, counted, marked -/
def wtP : Value → Nat
  | .string s => s.size
  | _ => 0
def wt : UD → Nat
  | .nil => 0
  | .p v r => wtP v + wt r
  | .l _ n cs r => n + wt cs + wt r
def leftI (l : Int) (n : Nat) : Int := if l < n then -1 else l - n
theorem wt_app : ∀ (a b : UD), wt (a.app b) = wt a + wt b
  | .nil, b => by rw [UD.app_nil]; simp [wt]
  | .p v r, b => by rw [UD.app_p, wt, wt, wt_app r b]; omega
  | .l k n cs r, b => by rw [UD.app_l, wt, wt, wt_app r b]; omega
def cnt : UD → Nat
  | .nil => 0
  | .p _ r => 1 + cnt r
  | .l _ _ cs r => cnt cs + cnt r
def cntE : UE → Nat
  | .p _ => 1
  | .l _ _ cs => cnt cs
theorem cnt_app : ∀ (a b : UD), cnt (a.app b) = cnt a + cnt b
  | .nil, b => by rw [UD.app_nil]; simp [cnt]
  | .p v r, b => by rw [UD.app_p, cnt, cnt, cnt_app r b]; omega
  | .l k n cs r, b => by rw [UD.app_l, cnt, cnt, cnt_app r b]; omega
theorem cnt_succ (d : UD) (i : Nat) (e : UE) (h : d.at? i = some e) : cnt (d.takeN (i + 1)) = cnt (d.takeN i) + cntE e := by
  have : d.takeN (i + 1) = (d.takeN i).app (UD.ofL [e]) := by
    apply UD.ext; rw [UD.app_toL]; unfold UD.takeN; rw [UD.toL_ofL, UD.toL_ofL, UD.toL_ofL, List.take_add_one]
    unfold UD.at? at h; rw [h]; rfl
  rw [this, cnt_app]
  cases e <;> simp [UD.ofL, UE.cons, cnt, cntE]
theorem cnt_le (d : UD) (i : Nat) : cnt (d.takeN i) ≤ cnt d := by
  have := cnt_app (d.takeN i) (d.dropN i); rw [UD.app_take_drop] at this; omega
theorem cnt_zero (d : UD) : cnt (d.takeN 0) = 0 := rfl
theorem cnt_all (d : UD) (i : Nat) (h : d.len ≤ i) : cnt (d.takeN i) = cnt d := by
  have : d.takeN i = d := by apply UD.ext; unfold UD.takeN; rw [UD.toL_ofL, List.take_of_length_le h]
  rw [this]
def mkP (j : Nat) : Value → Value
  | .int k _ => .int k (k.wrap j)
  | .string _ => .string (umtx j)
  | .bool _ => .bool (j % 3 == 0)
  | v => v
def mk : UD → Nat → UD
  | .nil, _ => .nil
  | .p v r, j => .p (mkP j v) (mk r (j + 1))
  | .l k n cs r, j => .l k n (mk cs j) (mk r (j + cnt cs))
def mkE : UE → Nat → UE
  | .p v, j => .p (mkP j v)
  | .l k n cs, j => .l k n (mk cs j)
theorem mk_len : ∀ (d : UD) (j : Nat), (mk d j).len = d.len
  | .nil, _ => rfl
  | .p v r, j => by rw [mk, UD.len_p, UD.len_p, mk_len r]
  | .l k n cs r, j => by rw [mk, UD.len_l, UD.len_l, mk_len r]
theorem mk_get : ∀ (d : UD) (j i : Nat) (e : UE), d.at? i = some e → (mk d j).at? i = some (mkE e (j + cnt (d.takeN i)))
  | .nil, _, i, e, h => by simp [UD.at?, UD.toL] at h
  | .p v r, j, 0, e, h => by cases h; rfl
  | .l k n cs r, j, 0, e, h => by cases h; rfl
  | .p v r, j, i + 1, e, h => by
    have := mk_get r (j + 1) i e h
    show (mk r (j + 1)).at? i = _
    rw [this]
    congr 2
    show j + 1 + cnt (r.takeN i) = j + cnt (UD.p v (r.takeN i))
    rw [cnt]; omega
  | .l k n cs r, j, i + 1, e, h => by
    have := mk_get r (j + cnt cs) i e h
    show (mk r (j + cnt cs)).at? i = _
    rw [this]
    congr 2
    show j + cnt cs + cnt (r.takeN i) = j + cnt (UD.l k n cs (r.takeN i))
    rw [cnt]; omega
/-- a struct in hand: its plain fields are not marked -/
def mkT : UD → Nat → UD
  | .nil, _ => .nil
  | .p v r, j => .p v (mkT r j)
  | .l k n cs r, j => .l k n (mk cs j) (mkT r (j + cnt cs))
def cntT : UD → Nat
  | .nil => 0
  | .p _ r => cntT r
  | .l _ _ cs r => cnt cs + cntT r

/-! memory of one's own -/
def blkOf (v : Value) : List Nat := match v.ownBlock with | some g => [g] | none => []
def oH (w : World) : UD → List Value → List Nat → Prop
  | .nil, xs, S => xs = [] ∧ S = []
  | .p v r, xs, S => ∃ ys, xs = v :: ys ∧ oH w r ys S
  | .l k n cs r, xs, S => ∃ c ys S1 S2, xs = c :: ys ∧ S = (blkOf c ++ S1) ++ S2 ∧ 0 < k ∧ (∃ e zs, w.ownsRow 0 e k c n zs ∧ oH w cs zs S1) ∧ oH w r ys S2
def oS (w : World) (k n : Nat) (cs : UD) (c : Value) (S : List Nat) : Prop := 0 < k ∧ ∃ e zs S1, w.ownsRow 0 e k c n zs ∧ oH w cs zs S1 ∧ S = blkOf c ++ S1
/-- all blocks but these are as they were -/
structure OutS (T : List Nat) (w w' : World) : Prop where
  os : w'.os = w.os
  tape : w'.tape = w.tape
  output : w'.output = w.output
  size : w.heap.size ≤ w'.heap.size
  block : ∀ k, k < w.heap.size → k ∉ T → w'.heap[k]? = w.heap[k]?
theorem OutS.refl (T : List Nat) (w : World) : OutS T w w := ⟨rfl, rfl, rfl, Nat.le_refl _, fun _ _ _ => rfl⟩
theorem OutS.trans {T : List Nat} {a b c : World} (h : OutS T a b) (k : OutS T b c) : OutS T a c :=
  ⟨k.os.trans h.os, k.tape.trans h.tape, k.output.trans h.output, Nat.le_trans h.size k.size, fun i hi hr => (k.block i (Nat.lt_of_lt_of_le hi h.size) hr).trans (h.block i hi hr)⟩
theorem OutS.mono {T T' : List Nat} {a b : World} (h : OutS T a b) (hT : ∀ t ∈ T, t ∈ T') : OutS T' a b := ⟨h.os, h.tape, h.output, h.size, fun i hi hr => h.block i hi (fun g => hr (hT i g))⟩
theorem OutS.of_below {T : List Nat} {a b : World} (h : Below a.heap.size a b) : OutS T a b := ⟨h.os, h.tape, h.output, h.size, fun i hi _ => h.block i hi⟩
theorem OutS.setCell {T : List Nat} {a w : World} (h : OutS T a w) {p : Addr} (hp : p.block ∈ T) (u : Value) : OutS T a (w.setCell p u) :=
  h.trans ⟨rfl, rfl, rfl, by simp [World.setCell], fun k hk hr => Below.heap_setCell _ _ _ _ (by rintro rfl; exact hr hp)⟩
theorem OutS.out {T : List Nat} {a b : World} (h : OutS T a b) {lo hi : Nat} (hT : ∀ t ∈ T, lo ≤ t ∧ t < hi) : OutR lo hi a b :=
  ⟨h.os, h.tape, h.output, h.size, fun k hk hr => h.block k hk (fun g => by have := hT k g; omega)⟩
theorem OutS.below {T : List Nat} {a b : World} (h : OutS T a b) {B : Nat} (hT : ∀ t ∈ T, B ≤ t) (hB : B ≤ a.heap.size) : Below B a b :=
  ⟨h.os, h.tape, h.output, h.size, fun k hk => h.block k (by omega) (fun g => by have := hT k g; omega)⟩
theorem uowns_frame {w w' : World} {B n : Nat} {v : Value} {e : TypeId} {size : Nat} {xs : List Value} (h : w.ownsRow B e size v n xs) (hS : ∀ g ∈ blkOf v, w'.heap[g]? = w.heap[g]?) : w'.ownsRow B e size v n xs := by
  obtain ⟨hl, h1⟩ := h
  refine ⟨hl, ?_⟩
  rcases h1 with h1 | ⟨g, cap, cur, rfl, h3, h4, h5⟩
  · exact .inl h1
  · exact .inr ⟨g, cap, cur, rfl, h3, (hS g (by simp [blkOf, Value.ownBlock])).trans h4, h5⟩
theorem oH.frame {w w' : World} : ∀ (d : UD) (xs : List Value) (S : List Nat), oH w d xs S → (∀ g ∈ S, w'.heap[g]? = w.heap[g]?) → oH w' d xs S
  | .nil, xs, S, h, _ => h
  | .p v r, _, S, ⟨ys, e, h⟩, hS => ⟨ys, e, oH.frame r ys S h hS⟩
  | .l k n cs r, _, _, ⟨c, ys, S1, S2, e, eS, hk, ⟨t, zs, h1, h2⟩, h3⟩, hS => by
    subst eS
    exact ⟨c, ys, S1, S2, e, rfl, hk, ⟨t, zs, uowns_frame h1 (fun g hg => hS g (by simp [hg])), oH.frame cs zs S1 h2 (fun g hg => hS g (by simp [hg]))⟩, oH.frame r ys S2 h3 (fun g hg => hS g (by simp [hg]))⟩
theorem ublk_lt {w : World} {B n : Nat} {v : Value} {e : TypeId} {size : Nat} {xs : List Value} (h : w.ownsRow B e size v n xs) : ∀ g ∈ blkOf v, B ≤ g ∧ g < w.heap.size := by
  intro g hg
  unfold blkOf at hg
  cases hb : v.ownBlock with
  | none => rw [hb] at hg; cases hg
  | some b => rw [hb] at hg; simp at hg; subst hg; exact uowns_blk h hb
theorem oH.lt {w : World} : ∀ (d : UD) (xs : List Value) (S : List Nat), oH w d xs S → ∀ g ∈ S, g < w.heap.size
  | .nil, xs, S, h, g, hg => by rw [h.2] at hg; cases hg
  | .p v r, _, S, ⟨ys, e, h⟩, g, hg => oH.lt r ys S h g hg
  | .l k n cs r, _, _, ⟨c, ys, S1, S2, e, eS, hk, ⟨t, zs, h1, h2⟩, h3⟩, g, hg => by
    subst eS
    rcases List.mem_append.1 hg with hg | hg
    · rcases List.mem_append.1 hg with hg | hg
      · exact (ublk_lt h1 g hg).2
      · exact oH.lt cs zs S1 h2 g hg
    · exact oH.lt r ys S2 h3 g hg
theorem oH.below {w w' : World} {d : UD} {xs : List Value} {S : List Nat} (h : oH w d xs S) (hb : Below w.heap.size w w') : oH w' d xs S := oH.frame d xs S h (fun g hg => hb.block g (oH.lt d xs S h g hg))
theorem oH.outS {w w' : World} {d : UD} {xs : List Value} {S T : List Nat} (h : oH w d xs S) (hb : OutS T w w') (hd : ∀ g ∈ S, g ∉ T) : oH w' d xs S := oH.frame d xs S h (fun g hg => hb.block g (oH.lt d xs S h g hg) (hd g hg))
theorem oH.outR {w w' : World} {d : UD} {xs : List Value} {S : List Nat} {lo hi : Nat} (h : oH w d xs S) (hb : OutR lo hi w w') (hd : ∀ g ∈ S, g < lo ∨ hi ≤ g) : oH w' d xs S := oH.frame d xs S h (fun g hg => hb.block g (oH.lt d xs S h g hg) (hd g hg))
theorem oS.lt {w : World} {k n : Nat} {cs : UD} {c : Value} {S : List Nat} (h : oS w k n cs c S) : ∀ g ∈ S, g < w.heap.size := by
  obtain ⟨_, e, zs, S1, h1, h2, rfl⟩ := h
  intro g hg
  rcases List.mem_append.1 hg with hg | hg
  · exact (ublk_lt h1 g hg).2
  · exact h2.lt _ _ _ g hg
theorem oS.frame {w w' : World} {k n : Nat} {cs : UD} {c : Value} {S : List Nat} (h : oS w k n cs c S) (hS : ∀ g ∈ S, w'.heap[g]? = w.heap[g]?) : oS w' k n cs c S := by
  obtain ⟨hk, e, zs, S1, h1, h2, rfl⟩ := h
  exact ⟨hk, e, zs, S1, uowns_frame h1 (fun g hg => hS g (by simp [hg])), h2.frame _ _ _ (fun g hg => hS g (by simp [hg])), rfl⟩
theorem oS.below {w w' : World} {k n : Nat} {cs : UD} {c : Value} {S : List Nat} (h : oS w k n cs c S) (hb : Below w.heap.size w w') : oS w' k n cs c S := h.frame (fun g hg => hb.block g (h.lt g hg))
theorem oH.len {w : World} : ∀ {d : UD} {xs : List Value} {S : List Nat}, oH w d xs S → xs.length = d.len
  | .nil, _, _, h => by rw [h.1]; rfl
  | .p v r, _, S, ⟨ys, e, h⟩ => by rw [e, UD.len_p, ← oH.len h]; rfl
  | .l k n cs r, _, _, ⟨c, ys, S1, S2, e, eS, hk, _, h3⟩ => by rw [e, UD.len_l, ← oH.len h3]; rfl
theorem uowns_u {w : World} {e : TypeId} {k n : Nat} {c : Value} {zs : List Value} {lo hi : Nat} {cs : UD} (hk : 0 < k) (h1 : w.ownsRow 0 e k c n zs) (hl : zs.length = cs.len) (hb : ∀ g ∈ blkOf c, lo ≤ g ∧ g < hi)
    (hm : ∀ g, (∀ j x, zs[j]? = some x → w.cell? ⟨g, 0 + j, none⟩ = some x) → uM w lo hi cs g 0) : uS w lo hi k n cs c := by
  have h1' := h1
  obtain ⟨hxl, h1⟩ := h1
  rcases h1 with ⟨rfl, rfl⟩ | ⟨g, cap, cur, rfl, h3, h4, h5, h6⟩
  · exact ⟨none, 0, rfl, ⟨Nat.le_refl _, fun _ => rfl, hk, by omega⟩, fun h => by cases h⟩
  · have hg := hb g (by simp [blkOf, Value.ownBlock])
    refine ⟨_, cap, rfl, ⟨h5, (fun h => by cases h), hk, by omega⟩, fun hn => ⟨g, 0, rfl, hg.1, hg.2, hm g (fun j x hx => ?_)⟩⟩
    rw [Nat.zero_add, h1'.cellAt j (by have := List.getElem?_eq_some_iff.1 hx; obtain ⟨q, _⟩ := this; omega)]
    exact hx
theorem oH.u {w : World} {lo hi b : Nat} : ∀ (d : UD) (xs : List Value) (S : List Nat) (o : Nat), oH w d xs S → (∀ g ∈ S, lo ≤ g ∧ g < hi) → (∀ j c, xs[j]? = some c → w.cell? ⟨b, o + j, none⟩ = some c) → uM w lo hi d b o
  | .nil, _, _, _, _, _, _ => trivial
  | .p v r, _, S, o, ⟨ys, e, h⟩, hS, hc => by
    subst e
    exact ⟨hc 0 v rfl, oH.u r ys S (o + 1) h hS (fun j x hx => by have := hc (j + 1) x (by simpa using hx); rw [← this]; congr 2; omega)⟩
  | .l k n cs r, _, _, o, ⟨c, ys, S1, S2, e, eS, hk, ⟨t, zs, h1, h2⟩, h3⟩, hS, hc => by
    subst eS e
    have hu : uS w lo hi k n cs c := uowns_u hk h1 h2.len (fun g hg => hS g (by simp [hg])) (fun g hg => oH.u (b := g) cs zs S1 0 h2 (fun x hx => hS x (by simp [hx])) hg)
    obtain ⟨a, cap, rfl, h4, h5⟩ := hu
    exact ⟨⟨a, cap, hc 0 _ rfl, h4, h5⟩, oH.u r ys S2 (o + 1) h3 (fun g hg => hS g (by simp [hg])) (fun j x hx => by have := hc (j + 1) x (by simpa using hx); rw [← this]; congr 2; omega)⟩
theorem oS.u {w : World} {lo hi k n : Nat} {cs : UD} {c : Value} {S : List Nat} (h : oS w k n cs c S) (hS : ∀ g ∈ S, lo ≤ g ∧ g < hi) : uS w lo hi k n cs c := by
  obtain ⟨hk, e, zs, S1, h1, h2, rfl⟩ := h
  exact uowns_u hk h1 h2.len (fun g hg => hS g (by simp [hg])) (fun g hg => oH.u (b := g) cs zs S1 0 h2 (fun x hx => hS x (by simp [hx])) hg)
theorem oH.hand {w : World} {lo hi : Nat} : ∀ {d : UD} {xs : List Value} {S : List Nat}, oH w d xs S → (∀ g ∈ S, lo ≤ g ∧ g < hi) → uH w lo hi d xs
  | .nil, _, _, h, _ => h.1
  | .p v r, _, S, ⟨ys, e, h⟩, hS => ⟨ys, e, oH.hand h hS⟩
  | .l k n cs r, _, _, ⟨c, ys, S1, S2, e, eS, hk, ⟨t, zs, h1, h2⟩, h3⟩, hS => by
    subst eS
    exact ⟨c, ys, e, oS.u ⟨hk, t, zs, S1, h1, h2, rfl⟩ (fun g hg => hS g (List.mem_append_left _ hg)), oH.hand h3 (fun g hg => hS g (List.mem_append_right _ hg))⟩
theorem oH.app {w : World} : ∀ {a b : UD} {xs ys : List Value} {S T : List Nat}, oH w a xs S → oH w b ys T → oH w (a.app b) (xs ++ ys) (S ++ T)
  | .nil, b, xs, ys, S, T, h, k => by rw [UD.app_nil, h.1, h.2]; exact k
  | .p v r, b, _, ys, S, T, ⟨zs, e, h⟩, k => by subst e; rw [UD.app_p]; exact ⟨zs ++ ys, rfl, oH.app h k⟩
  | .l m n cs r, b, _, ys, _, T, ⟨c, zs, S1, S2, e, eS, hk, h1, h3⟩, k => by subst e eS; rw [UD.app_l]; exact ⟨c, zs ++ ys, S1, S2 ++ T, rfl, by simp, hk, h1, oH.app h3 k⟩
theorem UD.setAt_p (v : Value) (r : UD) (i : Nat) (e : UE) : (UD.p v r).setAt (i + 1) e = .p v (r.setAt i e) := rfl
theorem UD.setAt_l (k n : Nat) (cs r : UD) (i : Nat) (e : UE) : (UD.l k n cs r).setAt (i + 1) e = .l k n cs (r.setAt i e) := rfl
theorem UD.setAt_p0 (v : Value) (r : UD) (e : UE) : (UD.p v r).setAt 0 e = e.cons r := by show e.cons (UD.ofL r.toL) = _; rw [UD.ofL_toL]
theorem UD.setAt_l0 (k n : Nat) (cs r : UD) (e : UE) : (UD.l k n cs r).setAt 0 e = e.cons r := by show e.cons (UD.ofL r.toL) = _; rw [UD.ofL_toL]
/-- one plain cell set -/
theorem oH.set {w : World} : ∀ {d : UD} {xs : List Value} {S : List Nat} (h : oH w d xs S) (i : Nat) (v u : Value), d.at? i = some (.p v) → oH w (d.setAt i (.p u)) (xs.set i u) S
  | .nil, _, _, h, i, v, u, e => by simp [UD.at?, UD.toL] at e
  | .p x r, _, S, ⟨ys, q, h⟩, 0, v, u, e => by subst q; rw [UD.setAt_p0]; exact ⟨ys, rfl, h⟩
  | .l k n cs r, _, _, h, 0, v, u, e => by cases e
  | .p x r, _, S, ⟨ys, q, h⟩, i + 1, v, u, e => by subst q; rw [UD.setAt_p]; exact ⟨ys.set i u, rfl, oH.set h i v u e⟩
  | .l k n cs r, _, _, ⟨c, ys, S1, S2, q, eS, hk, h1, h3⟩, i + 1, v, u, e => by subst q; rw [UD.setAt_l]; exact ⟨c, ys.set i u, S1, S2, rfl, eS, hk, h1, oH.set h3 i v u e⟩
/-- one part's own memory, and how another part of the same shape comes in its place -/
theorem oH.part {w : World} : ∀ {d : UD} {xs : List Value} {S : List Nat} (h : oH w d xs S) (hn : S.Nodup) (i k n : Nat) (cs : UD), d.at? i = some (.l k n cs) →
    ∃ c T, xs[i]? = some c ∧ oS w k n cs c T ∧ T.Nodup ∧ (∀ g ∈ T, g ∈ S) ∧ ∀ (w' : World) (cs' : UD), OutS T w w' → oS w' k n cs' c T → oH w' (d.setAt i (.l k n cs')) xs S
  | .nil, _, _, h, hn, i, k, n, cs, e => by simp [UD.at?, UD.toL] at e
  | .p x r, _, S, h, hn, 0, k, n, cs, e => by cases e
  | .l k' n' cs' r, _, _, ⟨c, ys, S1, S2, q, eS, hk, ⟨t, zs, h1, h2⟩, h3⟩, hn, 0, k, n, cs, e => by
    subst q eS
    cases e
    have hnd := List.nodup_append.1 hn
    refine ⟨c, blkOf c ++ S1, rfl, ⟨hk, t, zs, S1, h1, h2, rfl⟩, hnd.1, fun g hg => List.mem_append_left _ hg, fun w' cs2 ho hc => ?_⟩
    rw [UD.setAt_l0]
    obtain ⟨_, t', zs', S1', g1, g2, g3⟩ := hc
    have := List.append_cancel_left g3
    subst this
    exact ⟨c, ys, S1, S2, rfl, rfl, hk, ⟨t', zs', g1, g2⟩, h3.outS ho (fun g hg hg' => hnd.2.2 g hg' g hg rfl)⟩
  | .p x r, _, S, ⟨ys, q, h⟩, hn, i + 1, k, n, cs, e => by
    subst q
    obtain ⟨c, T, e1, g1, g2, g3, g4⟩ := oH.part h hn i k n cs e
    exact ⟨c, T, e1, g1, g2, g3, fun w' cs' ho hc => by rw [UD.setAt_p]; exact ⟨ys, rfl, g4 w' cs' ho hc⟩⟩
  | .l k' n' cs' r, _, _, ⟨c, ys, S1, S2, q, eS, hk, ⟨t, zs, h1, h2⟩, h3⟩, hn, i + 1, k, n, cs, e => by
    subst q eS
    have hnd := List.nodup_append.1 hn
    obtain ⟨c', T, e1, g1, g2, g3, g4⟩ := oH.part h3 hnd.2.1 i k n cs e
    have hd : ∀ g ∈ blkOf c ++ S1, g ∉ T := fun g hg hg' => hnd.2.2 g hg g (g3 g hg') rfl
    refine ⟨c', T, e1, g1, g2, fun g hg => List.mem_append_right _ (g3 g hg), fun w' cs2 ho hc => ?_⟩
    rw [UD.setAt_l]
    refine ⟨c, ys, S1, S2, rfl, rfl, hk, ⟨t, zs, uowns_frame h1 (fun g hg => ho.block g (ublk_lt h1 g hg).2 (hd g (List.mem_append_left _ hg))), h2.outS ho (fun g hg => hd g (List.mem_append_right _ hg))⟩, g4 w' cs2 ho hc⟩

/-! marking, cell by cell -/
def mixU (d : UD) (j i : Nat) : UD := UD.ofL ((mk d j).toL.take i ++ d.toL.drop i)
theorem mixU_zero (d : UD) (j : Nat) : mixU d j 0 = d := UD.ofL_toL d
theorem mixU_all (d : UD) (j : Nat) : mixU d j d.len = mk d j := by
  unfold mixU
  rw [List.take_of_length_le (by have := mk_len d j; unfold UD.len at this; unfold UD.len; omega), List.drop_eq_nil_of_le (show d.toL.length ≤ d.len from Nat.le_refl _), List.append_nil, UD.ofL_toL]
theorem mixU_get (d : UD) (j i q : Nat) (hq : i ≤ q) : (mixU d j i).at? q = d.at? q := by
  unfold mixU UD.at?
  rw [UD.toL_ofL]
  have hl : (mk d j).toL.length = d.toL.length := mk_len d j
  by_cases hi : i ≤ d.toL.length
  · rw [List.getElem?_append_right (by rw [List.length_take]; omega), List.length_take, List.getElem?_drop]
    congr 1; omega
  · rw [List.getElem?_eq_none (by rw [List.length_append, List.length_take, List.length_drop]; omega), List.getElem?_eq_none (by omega)]
theorem mixU_succ (d : UD) (j i : Nat) (e : UE) (h : d.at? i = some e) : (mixU d j i).setAt i (mkE e (j + cnt (d.takeN i))) = mixU d j (i + 1) := by
  have hm := mk_get d j i e h
  unfold UD.at? at h hm
  have hl : (mk d j).toL.length = d.toL.length := mk_len d j
  obtain ⟨hi, _⟩ := List.getElem?_eq_some_iff.1 h
  unfold mixU UD.setAt
  congr 1
  rw [UD.toL_ofL]
  apply List.ext_getElem?
  intro q
  rw [List.getElem?_set]
  have hlen : ((mk d j).toL.take i ++ d.toL.drop i).length = d.toL.length := by rw [List.length_append, List.length_take, List.length_drop]; omega
  by_cases e1 : i = q
  · subst e1
    rw [if_pos rfl, if_pos (by omega), List.getElem?_append_left (by rw [List.length_take]; omega), List.getElem?_take, if_pos (by omega), hm]
  · rw [if_neg e1]
    rcases Nat.lt_or_ge q i with hq | hq
    · rw [List.getElem?_append_left (by rw [List.length_take]; omega), List.getElem?_append_left (by rw [List.length_take]; omega), List.getElem?_take, List.getElem?_take, if_pos hq, if_pos (by omega)]
    · rw [List.getElem?_append_right (by rw [List.length_take]; omega), List.getElem?_append_right (by rw [List.length_take]; omega), List.length_take, List.length_take, List.getElem?_drop, List.getElem?_drop]
      congr 1; omega
end Go.Proofs.Ytdnodaoeflbfkaa
