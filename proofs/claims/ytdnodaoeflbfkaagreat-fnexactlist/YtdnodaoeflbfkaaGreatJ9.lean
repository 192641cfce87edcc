/- Texts of one claim, joined: each in its own section, in build order. -/
import Derived.Test.YtdnodaoeflbfkaaGreatJ8
import Derived.Lib.SlicesCompact
import Derived.Test.YtdnodaoeflbfkaaGreatJ1
import Derived.Test.YtdnodaoeflbfkaaGreatChecked
import Derived.Test.YtdnodaoeflbfkaaGreatJ5
import Derived.Maps.AppendAt
import Derived.Shelf.Small.Bits
import Derived.Shelf.Small.Wraps
import Derived.Shelf.Strconv.Itoa0
import Derived.Shelf.Sort.Plain
import Derived.Shelf.Slices.Turned
import Derived.Ground.Names2Prog
import Derived.Shelf.Slices.CompactI
import Derived.Shelf.Slices.SearchI
import Derived.Shelf.Slices.Delete
import Derived.Shelf.Slices.Cells
import Derived.Shelf.Slices.In.SortNone
import Derived.Shelf.Slices.Empties
import Derived.Test.YtdnodaoeflbfkaaGreatProg
import Derived.Test.YtdnodaoeflbfkaaGreatJ7
import Derived.WideShapes
import Derived.Lib.OwnBridge
import Derived.Test.YtdnodaoeflbfkaaGreatJ2
import Derived.Test.YtdnodaoeflbfkaaGreatJ3
import Derived.Test.YtdnodaoeflbfkaaGreatJ6
/- Numbers sorted and compacted are as many as before just if no two are alike. -/
namespace Go.Proofs.YtdnodaoeflbfkaaGreat
open Go.Lib
set_option linter.unusedVariables false

theorem compactUpTo_le (d : Array Int) : ∀ m, (compactUpTo d m).length ≤ m
  | 0 => by simp [compactUpTo]
  | m + 1 => by
    rw [compactUpTo_succ, List.length_append]
    have := compactUpTo_le d m
    split <;> simp <;> omega
theorem compactUpTo_eq (d : Array Int) : ∀ m, (compactUpTo d m).length = m ↔ ∀ j, j < m → keeps d j = true
  | 0 => by simp [compactUpTo]
  | m + 1 => by
    rw [compactUpTo_succ, List.length_append]
    have hle := compactUpTo_le d m
    have ih := compactUpTo_eq d m
    constructor
    · intro h
      have hk : keeps d m = true := by
        cases hk : keeps d m with
        | true => rfl
        | false => rw [hk] at h; simp at h; omega
      rw [hk] at h
      simp at h
      intro j hj
      by_cases e : j = m
      · rw [e]; exact hk
      · exact ih.1 h j (by omega)
    · intro h
      have h1 := ih.2 (fun j hj => h j (by omega))
      rw [h m (by omega), h1]
      simp
theorem keeps_iff (l : List Int) {j : Nat} (hj : j < l.length) : keeps l.toArray j = true ↔ (0 < j → l[j - 1]! ≠ l[j]!) := by
  unfold keeps
  cases j with
  | zero => simp
  | succ j => simp; exact ⟨fun h e => h e.symm, fun h e => h e.symm⟩
theorem sorted_nodup : ∀ (l : List Int), l.Pairwise (· ≤ ·) → ((∀ j, j < l.length → 0 < j → l[j - 1]! ≠ l[j]!) ↔ l.Nodup)
  | [], _ => by simp
  | [x], _ => by simp
  | x :: y :: r, h => by
    obtain ⟨h1, h2⟩ := List.pairwise_cons.1 h
    have ih := sorted_nodup (y :: r) h2
    constructor
    · intro hk
      have hn : (y :: r).Nodup := ih.1 (fun j hj h0 => by
        have := hk (j + 1) (by simp at hj ⊢; omega) (by omega)
        obtain ⟨i, rfl⟩ : ∃ i, j = i + 1 := ⟨j - 1, by omega⟩
        simpa using this)
      refine List.nodup_cons.2 ⟨fun hx => ?_, hn⟩
      have h01 := hk 1 (by simp) (by omega)
      have hxy : x ≠ y := by simpa using h01
      have hyx := h1 y (by simp)
      have hle : y ≤ x := by
        rcases List.mem_cons.1 hx with e | hm
        · exact (hxy e).elim
        · exact (List.pairwise_cons.1 h2).1 x hm
      exact hxy (by omega)
    · intro hn j hj h0
      obtain ⟨hx, hn2⟩ := List.nodup_cons.1 hn
      cases j with
      | zero => omega
      | succ j =>
        cases j with
        | zero => simp; exact fun e => hx (by simp [e])
        | succ j =>
          have := ih.2 hn2 (j + 1) (by simp at hj ⊢; omega) (by omega)
          simpa using this
theorem compact_sorted (zs : List Int) : (compact (zs.mergeSort fun x y => decide (x ≤ y))).length = zs.length ↔ zs.Nodup := by
  have hl : (zs.mergeSort fun x y => decide (x ≤ y)).length = zs.length := List.length_mergeSort zs
  have hp : (zs.mergeSort fun x y => decide (x ≤ y)).Perm zs := List.mergeSort_perm zs _
  have hs : (zs.mergeSort fun x y => decide (x ≤ y)).Pairwise (· ≤ ·) := by
    have := List.pairwise_mergeSort (le := fun x y : Int => decide (x ≤ y)) (by intro a b c h1 h2; simp at *; omega) (by intro a b; simp; omega) zs
    exact this.imp (fun h => by simpa using h)
  generalize (zs.mergeSort fun x y => decide (x ≤ y)) = l at *
  rw [← hl, ← hp.nodup_iff, ← sorted_nodup l hs]
  unfold compact
  rw [compactUpTo_eq]
  exact ⟨fun h j hj h0 => (keeps_iff l hj).1 (h j hj) h0, fun h j hj => (keeps_iff l hj).2 (fun h0 => h j hj h0)⟩
end Go.Proofs.YtdnodaoeflbfkaaGreat
/- Data as cells: rows of plain numbers. -/
namespace Go.Proofs.YtdnodaoeflbfkaaGreat
open Go.RowKit
set_option linter.unusedVariables false

/-- the numbers of a row of plain numbers -/
def intL : UD → List Int
  | .nil => []
  | .p (.int _ z) r => z :: intL r
  | .p _ r => intL r
  | .l _ _ _ r => intL r
theorem intL_get : ∀ (d : UD) (i : Nat), tyU d (uE 1) i → (intL d).length = d.len ∧ ∀ j (h : j < (intL d).length), d.at? j = some (.p (.int .i64 ((intL d)[j]'h))) ∧ inK .i64 ((intL d)[j]'h)
  | .nil, i, _ => ⟨rfl, fun j h => by cases h⟩
  | .p v r, i, ⟨⟨f, hf, hv⟩, h2⟩ => by
    have hf' : f = .i .i64 := by
      have : (i % (uE 1).length) = 0 := by show i % 1 = 0; omega
      rw [this] at hf
      exact (Option.some.inj hf).symm
    subst hf'
    obtain ⟨z, rfl, hz⟩ := hv
    obtain ⟨h3, h4⟩ := intL_get r (i + 1) h2
    refine ⟨by show (intL r).length + 1 = _; rw [h3, UD.len_p], fun j h => ?_⟩
    cases j with
    | zero => exact ⟨rfl, hz⟩
    | succ j => exact h4 j (by simpa [intL] using h)
  | .l k n cs r, i, ⟨⟨t, hf, _⟩, _⟩ => by
    have : (i % (uE 1).length) = 0 := by show i % 1 = 0; omega
    rw [this] at hf
    cases hf
theorem intL_inj : ∀ (a b : UD) (i j : Nat), tyU a (uE 1) i → tyU b (uE 1) j → intL a = intL b → a = b
  | .nil, .nil, _, _, _, _, _ => rfl
  | .nil, b, i, j, ha, hb, h => by
    have h1 := (intL_get b j hb).1
    rw [← h] at h1
    exact (UD.len_nil h1.symm).symm
  | a, .nil, i, j, ha, hb, h => by
    have h1 := (intL_get a i ha).1
    rw [h] at h1
    exact UD.len_nil h1.symm
  | .p v r, .p v' r', i, j, ha, hb, h => by
    obtain ⟨⟨f, hf, hv⟩, h2⟩ := ha
    obtain ⟨⟨f', hf', hv'⟩, h2'⟩ := hb
    have e1 : f = .i .i64 := by
      have : (i % (uE 1).length) = 0 := by show i % 1 = 0; omega
      rw [this] at hf; exact (Option.some.inj hf).symm
    have e2 : f' = .i .i64 := by
      have : (j % (uE 1).length) = 0 := by show j % 1 = 0; omega
      rw [this] at hf'; exact (Option.some.inj hf').symm
    subst e1 e2
    obtain ⟨s, rfl, _⟩ := hv
    obtain ⟨s', rfl, _⟩ := hv'
    obtain ⟨rfl, h3⟩ := List.cons.inj (show s :: intL r = s' :: intL r' from h)
    rw [intL_inj r r' (i + 1) (j + 1) h2 h2' h3]
  | .l k n cs r, _, i, _, ha, _, _ => by
    obtain ⟨⟨t, hf, _⟩, _⟩ := ha
    have : (i % (uE 1).length) = 0 := by show i % 1 = 0; omega
    rw [this] at hf
    cases hf
  | _, .l k n cs r, _, j, _, hb, _ => by
    obtain ⟨⟨t, hf, _⟩, _⟩ := hb
    have : (j % (uE 1).length) = 0 := by show j % 1 = 0; omega
    rw [this] at hf
    cases hf
theorem intL_len {n : Nat} {c : UD} (h : tyS 1 n c 1) : (intL c).length = n := by rw [(intL_get c 0 h.2.2.2.2).1, h.2.2.2.1, Nat.mul_one]
/-- a row of numbers in memory -/
theorem int_at {w : World} {lo hi n : Nat} {c : UD} {b off cap : Nat} (ht : tyS 1 n c 1) (h : uS w lo hi 1 n c (.slice (some ⟨b, off, none⟩) n cap)) (j : Nat) (hj : j < (intL c).length) : w.cell? ⟨b, off + j, none⟩ = some (.int .i64 ((intL c)[j]'hj)) := by
  have hl := intL_len ht
  obtain ⟨b', off', e, _, hm⟩ := h.cells (by omega)
  cases e
  obtain ⟨c', q1, q2⟩ := hm.get j _ ((intL_get c 0 ht.2.2.2.2).2 j hj).1
  rw [q1, show c' = _ from q2]
theorem int_in {n : Nat} {c : UD} (ht : tyS 1 n c 1) (j : Nat) (hj : j < (intL c).length) : -9223372036854775808 ≤ (intL c)[j]'hj ∧ (intL c)[j]'hj ≤ 9223372036854775807 := ((intL_get c 0 ht.2.2.2.2).2 j hj).2
theorem cntU_int : ∀ (c : UD) (i : Nat), tyU c (uE 1) i → cnt c = c.len
  | .nil, _, _ => rfl
  | .p v r, i, h => by rw [UD.len_p]; show 1 + cnt r = _; rw [cntU_int r (i + 1) h.2]; omega
  | .l k n cs r, i, h => by
    obtain ⟨⟨t, hf, _⟩, _⟩ := h
    have : (i % (uE 1).length) = 0 := by show i % 1 = 0; omega
    rw [this] at hf
    cases hf
theorem cnt_int {n : Nat} {c : UD} (h : tyS 1 n c 1) : cnt c = n := by rw [cntU_int c 0 h.2.2.2.2, h.2.2.2.1, Nat.mul_one]
/-- the cells of a row of numbers -/
def ofInts : List Int → UD
  | [] => .nil
  | z :: r => .p (.int .i64 z) (ofInts r)
theorem intL_of : ∀ l : List Int, intL (ofInts l) = l
  | [] => rfl
  | z :: r => by show z :: intL (ofInts r) = _; rw [intL_of r]
theorem ofInts_len : ∀ l : List Int, (ofInts l).len = l.length
  | [] => rfl
  | z :: r => by show (UD.p _ (ofInts r)).len = _; rw [UD.len_p, ofInts_len r]; rfl
theorem ofInts_ty : ∀ (l : List Int) (i : Nat), (∀ z ∈ l, inK .i64 z) → tyU (ofInts l) (uE 1) i
  | [], _, _ => trivial
  | z :: r, i, h => ⟨⟨.i .i64, by have : (i % (uE 1).length) = 0 := by show i % 1 = 0; omega
                                  rw [this]; rfl, z, rfl, h z (by simp)⟩, ofInts_ty r (i + 1) (fun x hx => h x (by simp [hx]))⟩
theorem ofInts_tyS {l : List Int} (h : ∀ z ∈ l, inK .i64 z) (hl : l.length ≤ maxLen) : tyS 1 l.length (ofInts l) 1 := ⟨by decide, rfl, hl, by rw [ofInts_len, Nat.mul_one], ofInts_ty l 0 h⟩
theorem wt_ofInts : ∀ l : List Int, wt (ofInts l) = 0
  | [] => rfl
  | z :: r => by show wtP _ + wt (ofInts r) = 0; rw [wt_ofInts r]; rfl
theorem cnt_ofInts : ∀ l : List Int, cnt (ofInts l) = l.length
  | [] => rfl
  | z :: r => by show 1 + cnt (ofInts r) = _; rw [cnt_ofInts r, List.length_cons]; omega
theorem ofInts_own {w : World} : ∀ l : List Int, oH w (ofInts l) (l.map (Value.int .i64)) []
  | [] => ⟨rfl, rfl⟩
  | z :: r => ⟨_, rfl, ofInts_own r⟩
theorem Tryz.infoDInt : (Tryz.prog.info? 3).map (fun i => (i.zero, i.size, i.bytes)) = some (some (.int .i64 0), 1, 8) := by kernel_rfl
theorem infoD {P : Program} {t : TypeId} {z : Value} {k b : Nat} (h : (P.info? t).map (fun i => (i.zero, i.size, i.bytes)) = some (some z, k, b)) : ∃ i, P.info? t = some i ∧ i.zero = some z ∧ i.size = k ∧ i.bytes = b := by
  cases e : P.info? t with
  | none => rw [e] at h; cases h
  | some i => rw [e] at h; simp at h; exact ⟨i, rfl, h.1, h.2.1, h.2.2⟩
end Go.Proofs.YtdnodaoeflbfkaaGreat
/- Rows of numbers that a call builds by append. -/
namespace Go.Proofs.YtdnodaoeflbfkaaGreat
open Go.RowKit Go.BigFrame
set_option linter.unusedVariables false
/-- a row of numbers of the call's own, from base on -/
def IR (w : World) (base : Nat) (v : Value) (l : List Int) : Prop := w.ownsRow base 3 1 v l.length (l.map (Value.int .i64)) ∧ ∃ g, v.ownBlock = some g ∧ base ≤ g ∧ g < w.heap.size
theorem IR.frame {w w' : World} {base : Nat} {v : Value} {l : List Int} (h : IR w base v l) (hs : w.heap.size ≤ w'.heap.size) (hf : ∀ g, v.ownBlock = some g → w'.heap[g]? = w.heap[g]?) : IR w' base v l := by
  obtain ⟨h1, g, h2, h3, h4⟩ := h
  refine ⟨uowns_frame h1 (fun x hx => ?_), g, h2, h3, by omega⟩
  unfold blkOf at hx
  rw [h2] at hx
  have : x = g := by simpa using hx
  subst this
  exact hf x h2
theorem IR.below {w w' : World} {base : Nat} {v : Value} {l : List Int} (h : IR w base v l) (hb : Below w.heap.size w w') : IR w' base v l :=
  h.frame hb.size (fun g hg => hb.block g (by obtain ⟨g', h2, h3, h4⟩ := h.2; rw [h2] at hg; cases hg; exact h4))
theorem IR.grown {w w' : World} {base : Nat} {v u : Value} {l : List Int} (h : IR w base v l) (hg : w.grownBy w' u.ownBlock) (hne : v.ownBlock ≠ u.ownBlock) : IR w' base v l :=
  h.frame hg.size (fun g hv => by
    obtain ⟨g', h2, h3, h4⟩ := h.2
    rw [h2] at hv; cases hv
    exact hg.block g h4 (by rw [← h2]; exact hne))
theorem IR.lit (w : World) (base : Nat) (hb : base ≤ w.heap.size) : IR (w.alloc (.cells #[] 3)) base (.slice (some ⟨w.heap.size, 0, none⟩) 0 0) [] :=
  ⟨World.ownsRow_lit w #[] 0 hb (by decide) rfl, w.heap.size, rfl, hb, by simp⟩
theorem IR.snoc {w w' : World} {base : Nat} {v v' : Value} {l : List Int} {x : Int} (h : IR w base v l) (hown : w'.ownsRow base 3 1 v' (l.length + 1) (l.map (Value.int .i64) ++ [.int .i64 x])) (hat : v'.ownBlock = v.ownBlock ∨ v'.ownBlock = some w.heap.size) : IR w' base v' (l ++ [x]) := by
  refine ⟨by rw [List.length_append, List.map_append]; exact hown, ?_⟩
  obtain ⟨g, h2, h3, h4⟩ := h.2
  rcases hat with e | e
  · rw [h2] at e; exact ⟨g, e, uowns_blk hown e⟩
  · exact ⟨_, e, uowns_blk hown e⟩
theorem IR.row {w : World} {base : Nat} {v : Value} {l : List Int} (h : IR w base v l) : ∀ k, v.ownBlock = some k → base ≤ k := fun k e => by
  obtain ⟨g, h2, h3, h4⟩ := h.2
  rw [h2] at e; cases e; exact h3
theorem IR.apart {w : World} {base : Nat} {u v v' : Value} {l : List Int} (hu : IR w base u l) (hne : v.ownBlock ≠ u.ownBlock) (hat : v'.ownBlock = v.ownBlock ∨ v'.ownBlock = some w.heap.size) : v'.ownBlock ≠ u.ownBlock := by
  rcases hat with e | e
  · rw [e]; exact hne
  · obtain ⟨g, h2, h3, h4⟩ := hu.2
    rw [e, h2]
    intro hh; cases hh; omega
/-- numbers in range, not more than so many -/
def goodI (l : List Int) (k : Nat) : Prop := l.length ≤ k ∧ ∀ x ∈ l, -9223372036854775808 ≤ x ∧ x ≤ 9223372036854775807
theorem goodI.snoc {l : List Int} {k : Nat} {x : Int} (h : goodI l k) (hx : -9223372036854775808 ≤ x ∧ x ≤ 9223372036854775807) : goodI (l ++ [x]) (k + 1) :=
  ⟨by rw [List.length_append, List.length_singleton]; have := h.1; omega, fun y hy => by
    rcases List.mem_append.1 hy with hy | hy
    · exact h.2 y hy
    · simp at hy; rw [hy]; exact hx⟩
theorem goodI.mono {l : List Int} {k k' : Nat} (h : goodI l k) (hk : k ≤ k') : goodI l k' := ⟨by have := h.1; omega, h.2⟩
end Go.Proofs.YtdnodaoeflbfkaaGreat
/- The library contracts that this seat's road meets, laid by the kit's own command, in plain words. -/
namespace Go.Proofs
open Go.Shelf
def Tryz.lays128_ren : Go.Shelf.Ren := ⟨fun | 128 => 262 | n => n, fun | 51 => 329 | 3 => 3 | 4 => 4 | 46 => 238 | 5 => 5 | 9 => 9 | n => n, fun | n => n⟩
theorem Tryz.lays128 : Go.Proofs.Lays.n128 Tryz.prog Tryz.lays128_ren := {
  mixed := by kernel_rfl
  f128 := Tryz.func262.trans (congrArg some (by kernel_rfl))
  t3 := Tryz.underlying3
  a3 := Tryz.isAgg3
  z3 := Tryz.sizeOf3
  v3 := Tryz.zeroValue3
  t4 := Tryz.underlying4
  a4 := Tryz.isAgg4
  z4 := Tryz.sizeOf4
  v4 := Tryz.zeroValue4
  t5 := Tryz.underlying5
  a5 := Tryz.isAgg5
  z5 := Tryz.sizeOf5
  v5 := Tryz.zeroValue5
  t9 := Tryz.underlying9
  a9 := Tryz.isAgg9
  z9 := Tryz.sizeOf9
  v9 := Tryz.zeroValue9
  t46 := Tryz.underlying238
  a46 := Tryz.isAgg238
  z46 := Tryz.sizeOf238
  v46 := Tryz.zeroValue238
  t51 := Tryz.underlying329
  a51 := Tryz.isAgg329
  z51 := Tryz.sizeOf329
  v51 := Tryz.zeroValue329 }
theorem Tryz.bits_Len32 (x : Int) (w : World) (h0 : 0 ≤ x) (h1 : x ≤ 4294967295) :
    Calls Tryz.prog 262 #[.int .u32 x] w fun e w' => e = .returned (.int .i64 (Lib.bitLen x.toNat)) ∧ w' = w := Any.bits_Len32 Tryz.lays128 x w h0 h1
def Tryz.lays125_ren : Go.Shelf.Ren := ⟨fun | 125 => 249 | 128 => 262 | 129 => 263 | n => n, fun | 46 => 238 | 3 => 3 | 51 => 329 | 53 => 331 | 4 => 4 | 5 => 5 | 9 => 9 | n => n, fun | n => n⟩
theorem Tryz.lays125 : Go.Proofs.Lays.n125 Tryz.prog Tryz.lays125_ren := {
  mixed := by kernel_rfl
  f125 := Tryz.func249.trans (congrArg some (by kernel_rfl))
  f128 := Tryz.func262.trans (congrArg some (by kernel_rfl))
  f129 := Tryz.func263.trans (congrArg some (by kernel_rfl))
  t3 := Tryz.underlying3
  a3 := Tryz.isAgg3
  z3 := Tryz.sizeOf3
  v3 := Tryz.zeroValue3
  t4 := Tryz.underlying4
  a4 := Tryz.isAgg4
  z4 := Tryz.sizeOf4
  v4 := Tryz.zeroValue4
  t5 := Tryz.underlying5
  a5 := Tryz.isAgg5
  z5 := Tryz.sizeOf5
  v5 := Tryz.zeroValue5
  t9 := Tryz.underlying9
  a9 := Tryz.isAgg9
  z9 := Tryz.sizeOf9
  v9 := Tryz.zeroValue9
  t46 := Tryz.underlying238
  a46 := Tryz.isAgg238
  z46 := Tryz.sizeOf238
  v46 := Tryz.zeroValue238
  t51 := Tryz.underlying329
  a51 := Tryz.isAgg329
  z51 := Tryz.sizeOf329
  v51 := Tryz.zeroValue329
  t53 := Tryz.underlying331
  a53 := Tryz.isAgg331
  z53 := Tryz.sizeOf331
  v53 := Tryz.zeroValue331 }
theorem Tryz.bits_Len (x : Int) (w : World) (h0 : 0 ≤ x) (h1 : x ≤ 18446744073709551615) :
    Calls Tryz.prog 249 #[.int .u64 x] w fun e w' => e = .returned (.int .i64 (Lib.bitLen x.toNat)) ∧ w' = w := Any.bits_Len Tryz.lays125 x w h0 h1
def Tryz.lays215_ren : Go.Shelf.Ren := ⟨fun | 215 => 243 | n => n, fun | 3 => 3 | 4 => 4 | n => n, fun | n => n⟩
theorem Tryz.lays215 : Go.Proofs.Lays.n215 Tryz.prog Tryz.lays215_ren := {
  mixed := by kernel_rfl
  f215 := Tryz.func243.trans (congrArg some (by kernel_rfl))
  t3 := Tryz.underlying3
  a3 := Tryz.isAgg3
  z3 := Tryz.sizeOf3
  v3 := Tryz.zeroValue3
  t4 := Tryz.underlying4
  a4 := Tryz.isAgg4
  z4 := Tryz.sizeOf4
  v4 := Tryz.zeroValue4 }
open Go.RowKit in
theorem Tryz.cmp_isNaN_int (x : Int) (w : World) :
    Calls Tryz.prog 243 #[.int .i64 x] w fun e w' => e = .returned (.bool false) ∧ w' = w := Any.cmp_isNaN_int Tryz.lays215 x w
def Tryz.lays122_ren : Go.Shelf.Ren := ⟨fun | 122 => 222 | 215 => 243 | n => n, fun | 3 => 3 | 4 => 4 | n => n, fun | n => n⟩
theorem Tryz.lays122 : Go.Proofs.Lays.n122 Tryz.prog Tryz.lays122_ren := {
  mixed := by kernel_rfl
  f122 := Tryz.func222.trans (congrArg some (by kernel_rfl))
  f215 := Tryz.func243.trans (congrArg some (by kernel_rfl))
  t3 := Tryz.underlying3
  a3 := Tryz.isAgg3
  z3 := Tryz.sizeOf3
  v3 := Tryz.zeroValue3
  t4 := Tryz.underlying4
  a4 := Tryz.isAgg4
  z4 := Tryz.sizeOf4
  v4 := Tryz.zeroValue4 }
open Go.RowKit in
theorem Tryz.cmp_Compare_int (x y : Int) (w : World) :
    Calls Tryz.prog 222 #[.int .i64 x, .int .i64 y] w fun e w' => e = .returned (.int .i64 (Lib.compareInt x y)) ∧ w' = w := Any.cmp_Compare_int Tryz.lays122 x y w
def Tryz.lays129_ren : Go.Shelf.Ren := ⟨fun | 129 => 263 | n => n, fun | 53 => 331 | 3 => 3 | 4 => 4 | 46 => 238 | 5 => 5 | 9 => 9 | n => n, fun | n => n⟩
theorem Tryz.lays129 : Go.Proofs.Lays.n129 Tryz.prog Tryz.lays129_ren := {
  mixed := by kernel_rfl
  f129 := Tryz.func263.trans (congrArg some (by kernel_rfl))
  t3 := Tryz.underlying3
  a3 := Tryz.isAgg3
  z3 := Tryz.sizeOf3
  v3 := Tryz.zeroValue3
  t4 := Tryz.underlying4
  a4 := Tryz.isAgg4
  z4 := Tryz.sizeOf4
  v4 := Tryz.zeroValue4
  t5 := Tryz.underlying5
  a5 := Tryz.isAgg5
  z5 := Tryz.sizeOf5
  v5 := Tryz.zeroValue5
  t9 := Tryz.underlying9
  a9 := Tryz.isAgg9
  z9 := Tryz.sizeOf9
  v9 := Tryz.zeroValue9
  t46 := Tryz.underlying238
  a46 := Tryz.isAgg238
  z46 := Tryz.sizeOf238
  v46 := Tryz.zeroValue238
  t53 := Tryz.underlying331
  a53 := Tryz.isAgg331
  z53 := Tryz.sizeOf331
  v53 := Tryz.zeroValue331 }
theorem Tryz.bits_Len64 (x : Int) (w : World) (h0 : 0 ≤ x) (h1 : x ≤ 18446744073709551615) :
    Calls Tryz.prog 263 #[.int .u64 x] w fun e w' => e = .returned (.int .i64 (Lib.bitLen x.toNat)) ∧ w' = w := Any.bits_Len64 Tryz.lays129 x w h0 h1
def Tryz.lays189_ren : Go.Shelf.Ren := ⟨fun | 189 => 236 | 125 => 249 | 257 => 248 | 128 => 262 | 129 => 263 | 294 => 253 | 295 => 254 | 296 => 255 | 297 => 256 | 298 => 257 | 299 => 258 | 216 => 259 | 300 => 260 | 301 => 261 | 328 => 265 | 329 => 266 | 330 => 267 | 331 => 268 | 332 => 269 | 215 => 243 | 343 => 271 | n => n, fun | 28 => 28 | 3 => 3 | 46 => 238 | 0 => 0 | 51 => 329 | 53 => 331 | 4 => 4 | 183 => 323 | 182 => 322 | 131 => 158 | 5 => 5 | 9 => 9 | 218 => 332 | 222 => 336 | 228 => 338 | 229 => 339 | n => n, fun | n => n⟩
theorem Tryz.lays189 : Go.Proofs.Lays.n189 Tryz.prog Tryz.lays189_ren := {
  mixed := by kernel_rfl
  f125 := Tryz.func249.trans (congrArg some (by kernel_rfl))
  f128 := Tryz.func262.trans (congrArg some (by kernel_rfl))
  f129 := Tryz.func263.trans (congrArg some (by kernel_rfl))
  f189 := Tryz.func236.trans (congrArg some (by kernel_rfl))
  f215 := Tryz.func243.trans (congrArg some (by kernel_rfl))
  f216 := Tryz.func259.trans (congrArg some (by kernel_rfl))
  f257 := Tryz.func248.trans (congrArg some (by kernel_rfl))
  f294 := Tryz.func253.trans (congrArg some (by kernel_rfl))
  f295 := Tryz.func254.trans (congrArg some (by kernel_rfl))
  f296 := Tryz.func255.trans (congrArg some (by kernel_rfl))
  f297 := Tryz.func256.trans (congrArg some (by kernel_rfl))
  f298 := Tryz.func257.trans (congrArg some (by kernel_rfl))
  f299 := Tryz.func258.trans (congrArg some (by kernel_rfl))
  f300 := Tryz.func260.trans (congrArg some (by kernel_rfl))
  f301 := Tryz.func261.trans (congrArg some (by kernel_rfl))
  f328 := Tryz.func265.trans (congrArg some (by kernel_rfl))
  f329 := Tryz.func266.trans (congrArg some (by kernel_rfl))
  f330 := Tryz.func267.trans (congrArg some (by kernel_rfl))
  f331 := Tryz.func268.trans (congrArg some (by kernel_rfl))
  f332 := Tryz.func269.trans (congrArg some (by kernel_rfl))
  f343 := Tryz.func271.trans (congrArg some (by kernel_rfl))
  t0 := Tryz.underlying0
  a0 := Tryz.isAgg0
  z0 := Tryz.sizeOf0
  v0 := Tryz.zeroValue0
  t3 := Tryz.underlying3
  a3 := Tryz.isAgg3
  z3 := Tryz.sizeOf3
  v3 := Tryz.zeroValue3
  t4 := Tryz.underlying4
  a4 := Tryz.isAgg4
  z4 := Tryz.sizeOf4
  v4 := Tryz.zeroValue4
  t5 := Tryz.underlying5
  a5 := Tryz.isAgg5
  z5 := Tryz.sizeOf5
  v5 := Tryz.zeroValue5
  t9 := Tryz.underlying9
  a9 := Tryz.isAgg9
  z9 := Tryz.sizeOf9
  v9 := Tryz.zeroValue9
  t28 := Tryz.underlying28
  a28 := Tryz.isAgg28
  z28 := Tryz.sizeOf28
  v28 := Tryz.zeroValue28
  t46 := Tryz.underlying238
  a46 := Tryz.isAgg238
  z46 := Tryz.sizeOf238
  v46 := Tryz.zeroValue238
  t51 := Tryz.underlying329
  a51 := Tryz.isAgg329
  z51 := Tryz.sizeOf329
  v51 := Tryz.zeroValue329
  t53 := Tryz.underlying331
  a53 := Tryz.isAgg331
  z53 := Tryz.sizeOf331
  v53 := Tryz.zeroValue331
  t131 := Tryz.underlying158
  a131 := Tryz.isAgg158
  z131 := Tryz.sizeOf158
  v131 := Tryz.zeroValue158
  t182 := Tryz.underlying322
  a182 := Tryz.isAgg322
  z182 := Tryz.sizeOf322
  v182 := Tryz.zeroValue322
  t183 := Tryz.underlying323
  a183 := Tryz.isAgg323
  z183 := Tryz.sizeOf323
  v183 := Tryz.zeroValue323
  t218 := Tryz.underlying332
  a218 := Tryz.isAgg332
  z218 := Tryz.sizeOf332
  v218 := Tryz.zeroValue332
  t222 := Tryz.underlying336
  a222 := Tryz.isAgg336
  z222 := Tryz.sizeOf336
  v222 := Tryz.zeroValue336
  t228 := Tryz.underlying338
  a228 := Tryz.isAgg338
  z228 := Tryz.sizeOf338
  v228 := Tryz.zeroValue338
  t229 := Tryz.underlying339
  a229 := Tryz.isAgg339
  z229 := Tryz.sizeOf339
  v229 := Tryz.zeroValue339 }
open Go.Sort Go.RowKit in
theorem Tryz.slices_Sort_int (blk off cap : Nat) (zs : List Int) (w : World) (hH : Holds (Value.int .i64) w blk off zs.toArray) (hblk : blk < w.heap.size) (hsz : zs.length < 4611686018427387904) :
    Calls Tryz.prog 236 #[.slice (some ⟨blk, off, none⟩) zs.length cap] w fun e w' =>
      e = .returned (.tuple #[]) ∧ ∃ n os, w' = grow (putRow (Value.int .i64) (Sort.ahead w n) blk off (zs.mergeSort fun x y => decide (x ≤ y)).toArray) os := Any.slices_Sort_int Tryz.lays189 blk off cap zs w hH hblk hsz
def Tryz.lays109_ren : Go.Shelf.Ren := ⟨fun | 109 => 232 | n => n, fun | 31 => 23 | 9 => 9 | 3 => 3 | 0 => 0 | 4 => 4 | n => n, fun | n => n⟩
theorem Tryz.lays109 : Go.Proofs.Lays.n109 Tryz.prog Tryz.lays109_ren := {
  mixed := by kernel_rfl
  f109 := Tryz.func232.trans (congrArg some (by kernel_rfl))
  t0 := Tryz.underlying0
  a0 := Tryz.isAgg0
  z0 := Tryz.sizeOf0
  v0 := Tryz.zeroValue0
  t3 := Tryz.underlying3
  a3 := Tryz.isAgg3
  z3 := Tryz.sizeOf3
  v3 := Tryz.zeroValue3
  t4 := Tryz.underlying4
  a4 := Tryz.isAgg4
  z4 := Tryz.sizeOf4
  v4 := Tryz.zeroValue4
  t9 := Tryz.underlying9
  a9 := Tryz.isAgg9
  z9 := Tryz.sizeOf9
  v9 := Tryz.zeroValue9
  t31 := Tryz.underlying23
  a31 := Tryz.isAgg23
  z31 := Tryz.sizeOf23
  v31 := Tryz.zeroValue23 }
open Go.Lib in
theorem Tryz.slices_Index_string (b off n c : Nat) (zs : List ByteArray) (x : ByteArray) (w : World) (hz : n ≤ zs.length) (hbig : n ≤ 9223372036854775807) (hc : ∀ j, j < zs.length → w.cell? ⟨b, off + j, none⟩ = some (.string (zs.getD j ByteArray.empty))) :
    Calls Tryz.prog 232 #[.slice (some ⟨b, off, none⟩) n c, .string x] w fun e w' => e = .returned (.int .i64 (Lib.idxOfS (zs.take n) x)) ∧ w' = w := Any.slices_Index_string Tryz.lays109 b off n c zs x w hz hbig hc
open Go.Lib in
theorem Tryz.slices_Index_string_empty (a : Option Addr) (c : Nat) (x : ByteArray) (w : World) :
    Calls Tryz.prog 232 #[.slice a 0 c, .string x] w fun e w' => e = .returned (.int .i64 (Lib.idxOfS [] x)) ∧ w' = w := Any.slices_Index_string_empty Tryz.lays109 a c x w
def Tryz.lays110_ren : Go.Shelf.Ren := ⟨fun | 110 => 207 | 109 => 232 | n => n, fun | 31 => 23 | 9 => 9 | 4 => 4 | 3 => 3 | 0 => 0 | n => n, fun | n => n⟩
theorem Tryz.lays110 : Go.Proofs.Lays.n110 Tryz.prog Tryz.lays110_ren := {
  mixed := by kernel_rfl
  f109 := Tryz.func232.trans (congrArg some (by kernel_rfl))
  f110 := Tryz.func207.trans (congrArg some (by kernel_rfl))
  t0 := Tryz.underlying0
  a0 := Tryz.isAgg0
  z0 := Tryz.sizeOf0
  v0 := Tryz.zeroValue0
  t3 := Tryz.underlying3
  a3 := Tryz.isAgg3
  z3 := Tryz.sizeOf3
  v3 := Tryz.zeroValue3
  t4 := Tryz.underlying4
  a4 := Tryz.isAgg4
  z4 := Tryz.sizeOf4
  v4 := Tryz.zeroValue4
  t9 := Tryz.underlying9
  a9 := Tryz.isAgg9
  z9 := Tryz.sizeOf9
  v9 := Tryz.zeroValue9
  t31 := Tryz.underlying23
  a31 := Tryz.isAgg23
  z31 := Tryz.sizeOf23
  v31 := Tryz.zeroValue23 }
open Go.Lib in
theorem Tryz.slices_Contains_string (b off n c : Nat) (zs : List ByteArray) (x : ByteArray) (w : World) (hz : n ≤ zs.length) (hbig : n ≤ 9223372036854775807) (hc : ∀ j, j < zs.length → w.cell? ⟨b, off + j, none⟩ = some (.string (zs.getD j ByteArray.empty))) :
    Calls Tryz.prog 207 #[.slice (some ⟨b, off, none⟩) n c, .string x] w fun e w' => e = .returned (.bool (Lib.containsS (zs.take n) x)) ∧ w' = w := Any.slices_Contains_string Tryz.lays110 b off n c zs x w hz hbig hc
open Go.Lib in
theorem Tryz.slices_Contains_string_empty (a : Option Addr) (c : Nat) (x : ByteArray) (w : World) :
    Calls Tryz.prog 207 #[.slice a 0 c, .string x] w fun e w' => e = .returned (.bool false) ∧ w' = w := Any.slices_Contains_string_empty Tryz.lays110 a c x w
def Tryz.laysNm220_ren : Go.Shelf.Ren := ⟨fun | 20 => 237 | n => n, fun | 22 => 28 | 3 => 3 | 4 => 4 | 0 => 0 | n => n, fun | n => n⟩
theorem Tryz.laysNm220 : Go.Proofs.Lays2.n20 Tryz.prog Tryz.laysNm220_ren := {
  mixed := by kernel_rfl
  f20 := Tryz.func237.trans (congrArg some (by kernel_rfl))
  t0 := Tryz.underlying0
  a0 := Tryz.isAgg0
  z0 := Tryz.sizeOf0
  v0 := Tryz.zeroValue0
  t3 := Tryz.underlying3
  a3 := Tryz.isAgg3
  z3 := Tryz.sizeOf3
  v3 := Tryz.zeroValue3
  t4 := Tryz.underlying4
  a4 := Tryz.isAgg4
  z4 := Tryz.sizeOf4
  v4 := Tryz.zeroValue4
  t22 := Tryz.underlying28
  a22 := Tryz.isAgg28
  z22 := Tryz.sizeOf28
  v22 := Tryz.zeroValue28
  i3 := by kernel_rfl }
open Go.RowKit Go.Lib Go.Sort in
theorem Tryz.slices_Compact_int_arr (blk off cap : Nat) (d : Array Int) (w : World) (hH : Holds encI w blk off d) (hsz : d.size ≤ 9223372036854775807) (hcap : d.size ≤ cap) :
    Calls Tryz.prog 237 #[.slice (some ⟨blk, off, none⟩) d.size cap] w fun e w' => e = .returned (.slice (some ⟨blk, off, none⟩) (compactUpTo d d.size).length cap) ∧ ∃ q, w' = putRow encI (Sort.ahead w q) blk off (compactUpTo d d.size ++ List.replicate (d.size - (compactUpTo d d.size).length) 0).toArray := Any.slices_Compact_int_arr Tryz.laysNm220 blk off cap d w hH hsz hcap
open Go.RowKit Go.Lib Go.Sort in
theorem Tryz.slices_Compact_int (blk off cap : Nat) (zs : List Int) (w : World) (hH : Holds (Value.int .i64) w blk off zs.toArray) (hsz : zs.length ≤ 9223372036854775807) (hcap : zs.length ≤ cap) :
    Calls Tryz.prog 237 #[.slice (some ⟨blk, off, none⟩) zs.length cap] w fun e w' => e = .returned (.slice (some ⟨blk, off, none⟩) (Lib.compact zs).length cap) ∧ ∃ q, w' = putRow (Value.int .i64) (Sort.ahead w q) blk off (Lib.compact zs ++ List.replicate (zs.length - (Lib.compact zs).length) 0).toArray := Any.slices_Compact_int Tryz.laysNm220 blk off cap zs w hH hsz hcap
open Go.RowKit Go.Lib Go.Sort in
theorem Tryz.slices_Compact_int_empty (a : Option Addr) (cap : Nat) (w : World) :
    Calls Tryz.prog 237 #[.slice a 0 cap] w fun e w' => e = .returned (.slice a 0 cap) ∧ w' = w := Any.slices_Compact_int_empty Tryz.laysNm220 a cap w
def Tryz.laysNm237_ren : Go.Shelf.Ren := ⟨fun | 37 => 243 | n => n, fun | 3 => 3 | 4 => 4 | n => n, fun | n => n⟩
theorem Tryz.laysNm237 : Go.Proofs.Lays2.n37 Tryz.prog Tryz.laysNm237_ren := {
  mixed := by kernel_rfl
  f37 := Tryz.func243.trans (congrArg some (by kernel_rfl))
  t3 := Tryz.underlying3
  a3 := Tryz.isAgg3
  z3 := Tryz.sizeOf3
  v3 := Tryz.zeroValue3
  t4 := Tryz.underlying4
  a4 := Tryz.isAgg4
  z4 := Tryz.sizeOf4
  v4 := Tryz.zeroValue4 }
open Go.RowKit Go.Lib in
theorem Tryz.cmp_isNaN_int2 (x : Int) (w : World) :
    Calls Tryz.prog 243 #[.int .i64 x] w fun e w' => e = .returned (.bool false) ∧ w' = w := Any.cmp_isNaN_int2 Tryz.laysNm237 x w
def Tryz.laysNm231_ren : Go.Shelf.Ren := ⟨fun | 31 => 259 | 37 => 243 | n => n, fun | 3 => 3 | 4 => 4 | n => n, fun | n => n⟩
theorem Tryz.laysNm231 : Go.Proofs.Lays2.n31 Tryz.prog Tryz.laysNm231_ren := {
  mixed := by kernel_rfl
  f31 := Tryz.func259.trans (congrArg some (by kernel_rfl))
  f37 := Tryz.func243.trans (congrArg some (by kernel_rfl))
  t3 := Tryz.underlying3
  a3 := Tryz.isAgg3
  z3 := Tryz.sizeOf3
  v3 := Tryz.zeroValue3
  t4 := Tryz.underlying4
  a4 := Tryz.isAgg4
  z4 := Tryz.sizeOf4
  v4 := Tryz.zeroValue4 }
open Go.RowKit Go.Lib in
theorem Tryz.cmp_Less_int2 (x y : Int) (w : World) :
    Calls Tryz.prog 259 #[.int .i64 x, .int .i64 y] w fun e w' => e = .returned (.bool (decide (x < y))) ∧ w' = w := Any.cmp_Less_int2 Tryz.laysNm231 x y w
def Tryz.laysNm224_ren : Go.Shelf.Ren := ⟨fun | 24 => 132 | n => n, fun | 24 => 23 | 9 => 9 | 3 => 3 | 4 => 4 | 0 => 0 | n => n, fun | n => n⟩
theorem Tryz.laysNm224 : Go.Proofs.Lays2.n24 Tryz.prog Tryz.laysNm224_ren := {
  mixed := by kernel_rfl
  f24 := Tryz.func132.trans (congrArg some (by kernel_rfl))
  t0 := Tryz.underlying0
  a0 := Tryz.isAgg0
  z0 := Tryz.sizeOf0
  v0 := Tryz.zeroValue0
  t3 := Tryz.underlying3
  a3 := Tryz.isAgg3
  z3 := Tryz.sizeOf3
  v3 := Tryz.zeroValue3
  t4 := Tryz.underlying4
  a4 := Tryz.isAgg4
  z4 := Tryz.sizeOf4
  v4 := Tryz.zeroValue4
  t9 := Tryz.underlying9
  a9 := Tryz.isAgg9
  z9 := Tryz.sizeOf9
  v9 := Tryz.zeroValue9
  t24 := Tryz.underlying23
  a24 := Tryz.isAgg23
  z24 := Tryz.sizeOf23
  v24 := Tryz.zeroValue23
  i9 := by kernel_rfl }
open Go.RowKit Go.Lib Go.Sort in
theorem Tryz.slices_Delete_string_arr (blk off cap i j : Nat) (d : Array (List UInt8)) (w : World) (hH : Holds encStr w blk off d) (hcap : d.size ≤ cap) (hm : cap ≤ 9223372036854775807) (hij : i ≤ j) (hj : j ≤ d.size) :
    Calls Tryz.prog 132 #[.slice (some ⟨blk, off, none⟩) d.size cap, .int .i64 i, .int .i64 j] w fun e w' => e = .returned (.slice (some ⟨blk, off, none⟩) (d.size - (j - i)) cap) ∧ ∃ q, w' = putRow encStr (Sort.ahead w q) blk off (d.toList.take i ++ d.toList.drop j ++ List.replicate (j - i) []).toArray := Any.slices_Delete_string_arr Tryz.laysNm224 blk off cap i j d w hH hcap hm hij hj
open Go.RowKit Go.Lib Go.Sort in
theorem Tryz.slices_Delete_string (blk off cap i j : Nat) (zs : List (List UInt8)) (w : World) (hH : Holds encStr w blk off zs.toArray) (hcap : zs.length ≤ cap) (hm : cap ≤ 9223372036854775807) (hij : i ≤ j) (hj : j ≤ zs.length) :
    Calls Tryz.prog 132 #[.slice (some ⟨blk, off, none⟩) zs.length cap, .int .i64 i, .int .i64 j] w fun e w' => e = .returned (.slice (some ⟨blk, off, none⟩) (zs.length - (j - i)) cap) ∧ ∃ q, w' = putRow encStr (Sort.ahead w q) blk off (zs.take i ++ zs.drop j ++ List.replicate (j - i) []).toArray := Any.slices_Delete_string Tryz.laysNm224 blk off cap i j zs w hH hcap hm hij hj
open Go.RowKit Go.Lib Go.Sort in
theorem Tryz.slices_Compact_int_cells (b off n c : Nat) (zs : List Int) (w : World) (hz : n ≤ zs.length) (hbig : n ≤ 9223372036854775807) (hcap : n ≤ c) (hc : ∀ j, j < zs.length → w.cell? ⟨b, off + j, none⟩ = some (.int .i64 (zs.getD j 0))) (hf : ∀ j, j < n → w.frozen? ⟨b, off + j, none⟩ = false) :
    Calls Tryz.prog 237 #[.slice (some ⟨b, off, none⟩) n c] w fun e w' => e = .returned (.slice (some ⟨b, off, none⟩) (Lib.compact (zs.take n)).length c) ∧ ∃ q, w' = (w.drewN q).setCells b off ((Lib.compact (zs.take n) ++ List.replicate (n - (Lib.compact (zs.take n)).length) 0).map (Value.int .i64)) := Any.slices_Compact_int_cells Tryz.laysNm220 b off n c zs w hz hbig hcap hc hf
open Go.RowKit Go.Lib Go.Sort in
theorem Tryz.slices_Delete_string_cells (b off n c i j : Nat) (Sx : Nat → ByteArray) (w : World) (hcap : n ≤ c) (hm : c ≤ 9223372036854775807) (hij : i ≤ j) (hj : j ≤ n) (hc : ∀ i, i < n → w.cell? ⟨b, off + i, none⟩ = some (.string (Sx i))) (hf : ∀ j, j < n → w.frozen? ⟨b, off + j, none⟩ = false) :
    Calls Tryz.prog 132 #[.slice (some ⟨b, off, none⟩) n c, .int .i64 i, .int .i64 j] w fun e w' => e = .returned (.slice (some ⟨b, off, none⟩) (n - (j - i)) c) ∧ ∃ q, w' = (w.drewN q).setCells b off (((Lib.strsOf Sx n).take i ++ (Lib.strsOf Sx n).drop j ++ List.replicate (j - i) []).map encStr) := Any.slices_Delete_string_cells Tryz.laysNm224 b off n c i j Sx w hcap hm hij hj hc hf
open Go.RowKit Go.Sort in
theorem Tryz.slices_Sort_int_none (p : Option Addr) (cap : Nat) (w : World) :
    Calls Tryz.prog 236 #[.slice p 0 cap] w fun e w' => e = .returned (.tuple #[]) ∧ w' = w := Any.slices_Sort_int_none Tryz.lays189 p cap w
open Go.RowKit Go.Lib in
theorem Tryz.slices_Delete_string_empty (a : Option Addr) (c : Nat) (w : World) :
    Calls Tryz.prog 132 #[.slice a 0 c, .int .i64 0, .int .i64 0] w fun e w' => e = .returned (.slice a 0 c) ∧ w' = w := Any.slices_Delete_string_empty Tryz.laysNm224 a c w
end Go.Proofs
/- Objects: the program's look at a list of them. -/
namespace Go.Proofs.YtdnodaoeflbfkaaGreat
open Go.RowKit Go.BigFrame
set_option linter.unusedVariables false
set_option linter.unusedSimpArgs false
theorem IR.shp {w : World} {base : Nat} {v : Value} {l : List Int} (h : IR w base v l) : ∃ g cap, v = .slice (some ⟨g, 0, none⟩) l.length cap ∧ base ≤ g ∧ g < w.heap.size := by
  obtain ⟨h1, g, h2, h3, h4⟩ := h
  rcases h1.2 with ⟨e, _⟩ | ⟨g', cap, cur, e, hb, hh, _⟩
  · rw [e] at h2; cases h2
  · subst e
    have : g' = g := by simpa [Value.ownBlock] using h2
    subst this
    exact ⟨g', cap, rfl, h3, h4⟩
theorem cell_newI {w wx : World} {x : Value} {t : TypeId} (hb : Below (w.heap.size + 1) (w.alloc (.cells #[x] t)) wx) : ∀ j u, [x][j]? = some u → wx.cell? ((⟨w.heap.size, 0, none⟩ : Addr).add j) = some u := fun j u h =>
  (hb.cell (p := (⟨w.heap.size, 0, none⟩ : Addr).add j) (by rw [Go.WideShapes.add_plain]; show w.heap.size < _; omega)).trans (cell_one_new w x t j u h)
def uidsI (cs : UD) (q : Nat) : List Int := (List.range q).map fun j => uidU (rowU cs 17 j)
theorem uidsI_len (cs : UD) (q : Nat) : (uidsI cs q).length = q := by unfold uidsI; simp
theorem uidsI_succ (cs : UD) (q : Nat) : uidsI cs (q + 1) = uidsI cs q ++ [uidU (rowU cs 17 q)] := by unfold uidsI; rw [List.range_succ, List.map_append]; rfl
def okF (cs : UD) (i : Nat) : Prop := 0 < i → lessO (kindU (rowU cs 17 (i - 1))) (kindU (rowU cs 17 i)) (nameU (rowU cs 17 (i - 1))) (nameU (rowU cs 17 i)) = true
def fitI (cs : UD) (n : Nat) : Prop := n ≤ 60 ∧ (∀ i, i < n → okF cs i) ∧ (uidsI cs n).Nodup
theorem uidsI_nodup (cs : UD) (n : Nat) : (uidsI cs n).Nodup ↔ ∀ i, i < n → ∀ k, k < i → uidU (rowU cs 17 k) ≠ uidU (rowU cs 17 i) := by
  unfold List.Nodup
  rw [List.pairwise_iff_getElem]
  constructor
  · intro h i hi k hk
    have := h k i (by rw [uidsI_len]; omega) (by rw [uidsI_len]; exact hi) hk
    simpa [uidsI] using this
  · intro h k i hk hi hki
    rw [uidsI_len] at hi
    have := h i hi k hki
    simpa [uidsI] using this
theorem objsB_iff (cs : UD) (n : Nat) (rev next : Int) : objsB cs n rev next = true ↔ fitI cs n ∧ ∀ i, i < n → objB (rowU cs 17 i) rev next = true ∧ endsB (rowU cs 17 i) = false := by
  by_cases h : ∀ i, i < n → okO cs rev next i
  · rw [objsB_end h]
    constructor
    · intro h60
      exact ⟨⟨by simpa using h60, fun i hi => (h i hi).2.1, (uidsI_nodup cs n).2 (fun i hi => (h i hi).2.2)⟩, fun i hi => (h i hi).1⟩
    · rintro ⟨⟨h60, _⟩, _⟩
      exact decide_eq_true h60
  · constructor
    · intro hb
      exfalso
      apply h
      intro i hi
      apply Classical.byContradiction
      intro hc
      rw [objsB_bad hi hc] at hb
      cases hb
    · rintro ⟨⟨h60, h1, h2⟩, h3⟩
      exact (h (fun i hi => ⟨h3 i hi, h1 i hi, (uidsI_nodup cs n).1 h2 i hi⟩)).elim
theorem below_growI {B : Nat} {a W : World} (os : Array Obj) (h : Below B a W) (hB : B ≤ W.heap.size) : Below B a (Go.Sort.grow W os) :=
  ⟨h.os, h.tape, h.output, Nat.le_trans h.size (by rw [Go.Sort.size_grow]; omega), fun k hk => (Go.Sort.heap_grow_old W os (by omega)).trans (h.block k hk)⟩
theorem uids_sorted (w0 w : World) (base g q cq : Nat) (zs : List Int) (hl : zs.length = q) (h60 : q ≤ 60) (hV : IR w base (.slice (some ⟨g, 0, none⟩) q cq) zs) (hB : Below base w0 w) :
    Calls Tryz.prog 236 #[.slice (some ⟨g, 0, none⟩) q cq] w fun e w' => e = .returned (.tuple #[]) ∧ Hid (Below base w0 w') ∧ Hid (Calls Tryz.prog 237 #[.slice (some ⟨g, 0, none⟩) q cq] w' fun e w'' => ∃ m, e = .returned (.slice (some ⟨g, 0, none⟩) m cq) ∧ Hid (m = q ↔ zs.Nodup) ∧ Hid (Below base w0 w'')) := by
  subst hl
  obtain ⟨g', cap, e, hbg, hgw, hnc, hcm, -, hH⟩ := Go.Lib.holds_of_ownsRow (enc := Value.int .i64) hV.1 (by simp)
  cases e
  refine (Tryz.slices_Sort_int g 0 cq zs w hH hgw (by omega)).mono ?_
  rintro e w' ⟨rfl, n, os, rfl⟩
  have hcs := compact_sorted zs
  have hs : (zs.mergeSort fun x y => decide (x ≤ y)).length = zs.length := List.length_mergeSort zs
  generalize (zs.mergeSort fun x y => decide (x ≤ y)) = ys at *
  have hz : (Go.Sort.putRow (Value.int .i64) (Go.Sort.ahead w n) g 0 ys.toArray).heap.size = w.heap.size := by simp [Go.Sort.putRow, Go.Sort.mapBlock, Go.Sort.ahead]
  have hb1 : Below base w0 (Go.Sort.grow (Go.Sort.putRow (Value.int .i64) (Go.Sort.ahead w n) g 0 ys.toArray) os) := below_growI os (Go.Lib.below_putRow hB hbg) (by rw [hz]; omega)
  have hH2 : Go.Sort.Holds (Value.int .i64) (Go.Sort.grow (Go.Sort.putRow (Value.int .i64) (Go.Sort.ahead w n) g 0 ys.toArray) os) g 0 ys.toArray := Go.Sort.holds_grow _ _ _ _ _ _ (by rw [hz]; exact hgw) (Go.Sort.holds_putRow _ _ _ _ zs.toArray _ (fun j hj => hH j hj) (by simp [hs]))
  refine ⟨rfl, hb1, ?_⟩
  have hc := Tryz.slices_Compact_int g 0 cq ys _ hH2 (by omega) (by omega)
  rw [hs] at hc
  refine hc.mono ?_
  rintro e w'' ⟨rfl, k, rfl⟩
  exact ⟨_, rfl, hcs, Go.Lib.below_putRow hb1 hbg⟩
/-- a call of a function value, as a step of a region that draws -/
theorem step_call_v {P : Program} {w : World} {ops : Array Oper} {o : Oper} {a : Act} {K : Act → World → Prop} {Q : Exit → Act → World → Prop} {E : Prop} (hw : Region.wanted o (yielded ops a.tmps) = true) (cal : Operand) (f : FuncId) (args : Array Operand) (ts : Array TypeId)
    (ho : o.op = .call { callee := .value cal, args := args, argTypes := ts }) (hcal : a.eval cal = .func (.func f) #[] #[]) (hcf : ∀ xs w, (callFunc f xs).run P w = .ok (.enter f xs) w) (xs : Array Value) (hx : args.map a.eval = xs) {R : Ending → World → Prop} (hc : Calls P f xs w R) (h : ∀ e w', R e w' → ∃ v, e = .returned v ∧ K (a.put o.dst v) w') :
    if Region.wanted o (yielded ops a.tmps) = true then Oper.wp P o a w K Q else E := by
  subst hx
  rw [if_pos hw]
  unfold Oper.wp execOp
  simp only [ho, resolve, invoke, Sem.run_bind]
  have e : (Deferred.ofValue (a.eval cal) (Array.map a.eval args)).run P w = .ok { target := .fn (.func f) #[], args := args.map a.eval } w := by rw [hcal]; simp [Deferred.ofValue, go_sem]
  rw [e, Result.andThen_ok]
  simp only [Array.append_empty]
  rw [hcf]
  rw [Oper.upon_enter]
  refine hc.mono ?_
  intro e w' hr
  obtain ⟨v, rfl, hk⟩ := h e w' hr
  exact hk
set_option maxRecDepth 40000 in
set_option maxHeartbeats 6400000 in
theorem ascObj_any {lo hi : Nat} (n : Nat) (cs : UD) (c : Value) (gb : Bool) (w : World) (ht : tyS 17 n cs 8) (hx : uS w lo hi 17 n cs c) (h60 : n ≤ 60) (hg : gb = true ↔ ∀ i, i < n → okF cs i) :
    Calls Tryz.prog 235 #[c, .func (.func 184) #[] #[]] w fun e w' => e = .returned (.bool gb) ∧ Below w.heap.size w w' := by
  obtain ⟨a, cap, rfl, hx2⟩ := hx
  have Hx : Hid (uS w lo hi 17 n cs (.slice a n cap)) := ⟨a, cap, rfl, hx2⟩
  have Ht := uhide ht
  have HG := uhide hg
  clear hx2 ht hg
  go_enter Tryz.func235, Tryz.ntmps235
  go_wp2
  go_loopw [5] (fun i wr => ∃ (q : Nat), 0 < q ∧ q ≤ n + 1 ∧ i = .int .i64 (q : Int) ∧ Hid (∀ j, j < q → j < n → okF cs j) ∧ Hid (Below w.heap.size w wr)) (fun i _ => n + 1 - (intOf i).toNat)
  case atStart => exact ⟨1, by omega, by omega, rfl, (fun j hj _ h0 => by omega), Below.refl _ _⟩
  case round =>
    obtain ⟨q, hq0, hq, rfl, Ho, HB⟩ := hrel
    by_cases hlt : q < n
    · obtain ⟨b, off, rfl, hbb, hm⟩ := (Hx.out.below HB.out).cells (by omega)
      obtain ⟨p, hp⟩ : ∃ p, q = p + 1 := ⟨q - 1, by omega⟩
      have htr := Ht.out.row hlt
      have hty := Ht.out.row (show p < n by omega)
      obtain ⟨xs, hh, hcl⟩ := (hm.row 17 q).hand
      obtain ⟨ys, hhy, hcy⟩ := (hm.row 17 p).hand
      have C0 : Hid (wr.rangeAt b (off + q * 17) xs) := hcl
      have C1 : Hid (wr.rangeAt b (off + p * 17) ys) := hcy
      have HI1 : Hid ((Tryz.prog.info? 138).map (·.size) = some xs.length) := by show _ = _; rw [hh.len, tyL.len htr]; exact Tryz.zObj_impl_Obj
      have HI2 : Hid ((Tryz.prog.info? 138).map (·.size) = some ys.length) := by show _ = _; rw [hhy.len, tyL.len hty]; exact Tryz.zObj_impl_Obj
      have HBAD : Hid (lessO (kindU (rowU cs 17 p)) (kindU (rowU cs 17 q)) (nameU (rowU cs 17 p)) (nameU (rowU cs 17 q)) = false → gb = false) := fun h => by
        cases hgb : gb with
        | false => rfl
        | true =>
          have := HG.out.1 hgb q hlt hq0
          rw [hp, Nat.add_sub_cancel, ← hp, h] at this; cases this
      have HOKK : Hid (lessO (kindU (rowU cs 17 p)) (kindU (rowU cs 17 q)) (nameU (rowU cs 17 p)) (nameU (rowU cs 17 q)) = true → ∀ j, j < q + 1 → j < n → okF cs j) := fun h j hj hjn => by
        by_cases e : j = q
        · subst e
          intro _
          rw [hp, Nat.add_sub_cancel, ← hp]; exact h
        · exact Ho.out j (by omega) hjn
      obtain ⟨ORD, hORD⟩ : ∃ z, z = ordO (kindU (rowU cs 17 p)) (kindU (rowU cs 17 q)) (nameU (rowU cs 17 p)) (nameU (rowU cs 17 q)) := ⟨_, rfl⟩
      have HC3 : Hid (∀ wx, Below wr.heap.size wr wx → Calls Tryz.prog 184 #[.agg ys.toArray, .agg xs.toArray] wx fun e w' => e = .returned (.int .i64 ORD) ∧ Hid (Below wr.heap.size wr w')) := fun wx hb => (hORD ▸ iorder_any (lo := lo) (hi := hi) (lo' := lo) (hi' := hi) _ _ ys xs wx hty htr (hhy.below hb) (hh.below hb)).mono fun e w' h => ⟨h.1, hb.trans (h.2.mono hb.size)⟩
      have hle := ordO_less (kindU (rowU cs 17 p)) (kindU (rowU cs 17 q)) (nameU (rowU cs 17 p)) (nameU (rowU cs 17 q))
      rw [← hORD] at hle
      have hwq : IntKind.i64.wrap ((q : Int) - 1) = (p : Int) := by rw [IntKind.wrap_i64]; omega
      have hpp0 : (0 : Int) ≤ (p : Int) := Int.natCast_nonneg _
      have hppn : (p : Int) < (n : Int) := by omega
      have hqq0 : (0 : Int) ≤ (q : Int) := Int.natCast_nonneg _
      have hqqn : (q : Int) < (n : Int) := by omega
      have HP := uhide hp
      clear hp hORD hh hhy hcl hcy htr hty hm Ho
      go_wp2
      cases hls : lessO (kindU (rowU cs 17 p)) (kindU (rowU cs 17 q)) (nameU (rowU cs 17 p)) (nameU (rowU cs 17 q)) with
      | false =>
        have Hn := uhide (HBAD.out hls)
        rw [hls] at hle
        have hd : decide (0 ≤ ORD) = true := by simpa using hle
        clear HBAD HOKK hle hls
        refine wp_region_held_drew (S := fun w' => w'.rangeAt b (off + p * 17) ys ∧ w'.rangeAt b (off + q * 17) xs) (by kernel_rfl) ⟨range_below C1.out (Below.drew (Below.refl _ _)), range_below C0.out (Below.drew (Below.refl _ _))⟩ (fun hHeld => ?_)
        refine wpAnyH_take (i := 0) (oi := ⟨some 12, .move (.tmp 1), _, _, _, _⟩) (v := .func (.func 184) #[] #[]) rfl (by kernel_rfl) (by kernel_rfl) (by kernel_rfl) (fun _ _ _ h => h) (Or.inl ⟨by rfl, by intro w hSw; go_simp⟩) hHeld ?_
        simp only [Act.put, List.setIfInBounds_toArray, List.set_cons_zero, List.set_cons_succ]
        refine wpAnyH_take (i := 1) (oi := ⟨some 13, .move (.tmp 0), _, _, _, _⟩) (v := .slice (some ⟨b, off, none⟩) n cap) rfl (by kernel_rfl) (by kernel_rfl) (by kernel_rfl) (fun _ _ _ h => h) (Or.inl ⟨by rfl, by intro w hSw; go_simp⟩) hHeld ?_
        simp only [Act.put, List.setIfInBounds_toArray, List.set_cons_zero, List.set_cons_succ]
        refine wpAnyH_take (i := 2) (oi := ⟨some 14, .move (.tmp 5), _, _, _, _⟩) (v := .int .i64 (q : Int)) rfl (by kernel_rfl) (by kernel_rfl) (by kernel_rfl) (fun _ _ _ h => h) (Or.inl ⟨by rfl, by intro w hSw; go_simp⟩) hHeld ?_
        simp only [Act.put, List.setIfInBounds_toArray, List.set_cons_zero, List.set_cons_succ]
        refine wpAnyH_take (i := 3) (oi := ⟨some 15, .binOp .sub _ (.tmp 14) (.const (.int .i64 1)) _, _, _, _, _⟩) (v := .int .i64 (p : Int)) rfl (by kernel_rfl) (by kernel_rfl) (by kernel_rfl) (fun _ _ _ h => h) (Or.inl ⟨by rfl, by intro w hSw; go_simp⟩) hHeld ?_
        simp only [Act.put, List.setIfInBounds_toArray, List.set_cons_zero, List.set_cons_succ]
        refine wpAnyH_take (i := 4) (oi := ⟨some 16, .indexAddr _ (.tmp 13) (.tmp 15), _, _, _, _⟩) (v := .pointer (some ⟨b, off + p * 17, none⟩)) rfl (by kernel_rfl) (by kernel_rfl) (by kernel_rfl) (fun _ _ _ h => h) (Or.inl ⟨by rfl, by intro w hSw; go_simp⟩) hHeld ?_
        simp only [Act.put, List.setIfInBounds_toArray, List.set_cons_zero, List.set_cons_succ]
        refine wpAnyH_take (i := 5) (oi := ⟨some 17, .load _ (.tmp 16), _, _, _, _⟩) (v := .agg ys.toArray) rfl (by kernel_rfl) (by kernel_rfl) (by kernel_rfl) (fun _ _ _ h => h) (yieldsIf_load_row (by rfl) 138 _ rfl b (off + p * 17) rfl ys (fun w hS => hS.1) Tryz.rObj_impl_Obj HI2.out) hHeld ?_
        simp only [Act.put, List.setIfInBounds_toArray, List.set_cons_zero, List.set_cons_succ]
        refine wpAnyH_take (i := 6) (oi := ⟨some 18, .move (.tmp 0), _, _, _, _⟩) (v := .slice (some ⟨b, off, none⟩) n cap) rfl (by kernel_rfl) (by kernel_rfl) (by kernel_rfl) (fun _ _ _ h => h) (Or.inl ⟨by rfl, by intro w hSw; go_simp⟩) hHeld ?_
        simp only [Act.put, List.setIfInBounds_toArray, List.set_cons_zero, List.set_cons_succ]
        refine wpAnyH_take (i := 7) (oi := ⟨some 19, .move (.tmp 5), _, _, _, _⟩) (v := .int .i64 (q : Int)) rfl (by kernel_rfl) (by kernel_rfl) (by kernel_rfl) (fun _ _ _ h => h) (Or.inl ⟨by rfl, by intro w hSw; go_simp⟩) hHeld ?_
        simp only [Act.put, List.setIfInBounds_toArray, List.set_cons_zero, List.set_cons_succ]
        refine wpAnyH_take (i := 8) (oi := ⟨some 20, .indexAddr _ (.tmp 18) (.tmp 19), _, _, _, _⟩) (v := .pointer (some ⟨b, off + q * 17, none⟩)) rfl (by kernel_rfl) (by kernel_rfl) (by kernel_rfl) (fun _ _ _ h => h) (Or.inl ⟨by rfl, by intro w hSw; go_simp⟩) hHeld ?_
        simp only [Act.put, List.setIfInBounds_toArray, List.set_cons_zero, List.set_cons_succ]
        refine wpAnyH_take (i := 9) (oi := ⟨some 21, .load _ (.tmp 20), _, _, _, _⟩) (v := .agg xs.toArray) rfl (by kernel_rfl) (by kernel_rfl) (by kernel_rfl) (fun _ _ _ h => h) (yieldsIf_load_row (by rfl) 138 _ rfl b (off + q * 17) rfl xs (fun w hS => hS.2) Tryz.rObj_impl_Obj HI1.out) hHeld ?_
        simp only [Act.put, List.setIfInBounds_toArray, List.set_cons_zero, List.set_cons_succ]
        refine wpAnyH_ready (rs := [10]) (by kernel_rfl) (by simp) (AllReadyH.cons (o := ⟨some 22, .call { callee := .value (.tmp 12), args := #[.tmp 17, .tmp 21], argTypes := #[138, 138] }, _, _, _, _⟩) rfl (fun K hK => ?_) AllReadyH.nil)
        refine step_call_v (by rfl) (.tmp 12) 184 #[.tmp 17, .tmp 21] #[138, 138] rfl (by simp [Act.eval]) (callFunc_enter Tryz.func184 (by kernel_rfl) (by kernel_rfl)) #[.agg ys.toArray, .agg xs.toArray] (by simp [Act.eval]) (HC3.out _ (Below.drew (Below.refl _ _))) ?_
        rintro e w4 ⟨rfl, hb4⟩
        refine ⟨.int .i64 ORD, rfl, hK.out _ _ ⟨range_below C1.out hb4.out, range_below C0.out hb4.out⟩ (fun hHeld => ?_)⟩
        clear hK K
        simp only [Act.put, List.setIfInBounds_toArray, List.set_cons_zero, List.set_cons_succ]
        refine wpAnyH_take (i := 11) (oi := ⟨some 23, .binOp .geq _ (.tmp 22) (.const (.int .i64 0)) _, _, _, _, _⟩) (v := .bool true) rfl (by kernel_rfl) (by kernel_rfl) (by kernel_rfl) (fun _ _ _ h => h) (Or.inl ⟨by rfl, by intro w hSw; go_simp⟩) hHeld ?_
        simp only [Act.put, List.setIfInBounds_toArray, List.set_cons_zero, List.set_cons_succ]
        refine wpAnyH_done (by kernel_rfl) ?_ _
        clear hHeld
        go_wp2
        go_ret
        exact ⟨ret_bool Hn.out.symm, HB.out.trans (hb4.out.mono HB.out.size)⟩
      | true =>
        have Hn := uhide (HOKK.out hls)
        rw [hls] at hle
        have hd : decide (0 ≤ ORD) = false := by simpa using hle
        clear HBAD HOKK hle hls
        refine wp_region_held_drew (S := fun w' => w'.rangeAt b (off + p * 17) ys ∧ w'.rangeAt b (off + q * 17) xs) (by kernel_rfl) ⟨range_below C1.out (Below.drew (Below.refl _ _)), range_below C0.out (Below.drew (Below.refl _ _))⟩ (fun hHeld => ?_)
        refine wpAnyH_take (i := 0) (oi := ⟨some 12, .move (.tmp 1), _, _, _, _⟩) (v := .func (.func 184) #[] #[]) rfl (by kernel_rfl) (by kernel_rfl) (by kernel_rfl) (fun _ _ _ h => h) (Or.inl ⟨by rfl, by intro w hSw; go_simp⟩) hHeld ?_
        simp only [Act.put, List.setIfInBounds_toArray, List.set_cons_zero, List.set_cons_succ]
        refine wpAnyH_take (i := 1) (oi := ⟨some 13, .move (.tmp 0), _, _, _, _⟩) (v := .slice (some ⟨b, off, none⟩) n cap) rfl (by kernel_rfl) (by kernel_rfl) (by kernel_rfl) (fun _ _ _ h => h) (Or.inl ⟨by rfl, by intro w hSw; go_simp⟩) hHeld ?_
        simp only [Act.put, List.setIfInBounds_toArray, List.set_cons_zero, List.set_cons_succ]
        refine wpAnyH_take (i := 2) (oi := ⟨some 14, .move (.tmp 5), _, _, _, _⟩) (v := .int .i64 (q : Int)) rfl (by kernel_rfl) (by kernel_rfl) (by kernel_rfl) (fun _ _ _ h => h) (Or.inl ⟨by rfl, by intro w hSw; go_simp⟩) hHeld ?_
        simp only [Act.put, List.setIfInBounds_toArray, List.set_cons_zero, List.set_cons_succ]
        refine wpAnyH_take (i := 3) (oi := ⟨some 15, .binOp .sub _ (.tmp 14) (.const (.int .i64 1)) _, _, _, _, _⟩) (v := .int .i64 (p : Int)) rfl (by kernel_rfl) (by kernel_rfl) (by kernel_rfl) (fun _ _ _ h => h) (Or.inl ⟨by rfl, by intro w hSw; go_simp⟩) hHeld ?_
        simp only [Act.put, List.setIfInBounds_toArray, List.set_cons_zero, List.set_cons_succ]
        refine wpAnyH_take (i := 4) (oi := ⟨some 16, .indexAddr _ (.tmp 13) (.tmp 15), _, _, _, _⟩) (v := .pointer (some ⟨b, off + p * 17, none⟩)) rfl (by kernel_rfl) (by kernel_rfl) (by kernel_rfl) (fun _ _ _ h => h) (Or.inl ⟨by rfl, by intro w hSw; go_simp⟩) hHeld ?_
        simp only [Act.put, List.setIfInBounds_toArray, List.set_cons_zero, List.set_cons_succ]
        refine wpAnyH_take (i := 5) (oi := ⟨some 17, .load _ (.tmp 16), _, _, _, _⟩) (v := .agg ys.toArray) rfl (by kernel_rfl) (by kernel_rfl) (by kernel_rfl) (fun _ _ _ h => h) (yieldsIf_load_row (by rfl) 138 _ rfl b (off + p * 17) rfl ys (fun w hS => hS.1) Tryz.rObj_impl_Obj HI2.out) hHeld ?_
        simp only [Act.put, List.setIfInBounds_toArray, List.set_cons_zero, List.set_cons_succ]
        refine wpAnyH_take (i := 6) (oi := ⟨some 18, .move (.tmp 0), _, _, _, _⟩) (v := .slice (some ⟨b, off, none⟩) n cap) rfl (by kernel_rfl) (by kernel_rfl) (by kernel_rfl) (fun _ _ _ h => h) (Or.inl ⟨by rfl, by intro w hSw; go_simp⟩) hHeld ?_
        simp only [Act.put, List.setIfInBounds_toArray, List.set_cons_zero, List.set_cons_succ]
        refine wpAnyH_take (i := 7) (oi := ⟨some 19, .move (.tmp 5), _, _, _, _⟩) (v := .int .i64 (q : Int)) rfl (by kernel_rfl) (by kernel_rfl) (by kernel_rfl) (fun _ _ _ h => h) (Or.inl ⟨by rfl, by intro w hSw; go_simp⟩) hHeld ?_
        simp only [Act.put, List.setIfInBounds_toArray, List.set_cons_zero, List.set_cons_succ]
        refine wpAnyH_take (i := 8) (oi := ⟨some 20, .indexAddr _ (.tmp 18) (.tmp 19), _, _, _, _⟩) (v := .pointer (some ⟨b, off + q * 17, none⟩)) rfl (by kernel_rfl) (by kernel_rfl) (by kernel_rfl) (fun _ _ _ h => h) (Or.inl ⟨by rfl, by intro w hSw; go_simp⟩) hHeld ?_
        simp only [Act.put, List.setIfInBounds_toArray, List.set_cons_zero, List.set_cons_succ]
        refine wpAnyH_take (i := 9) (oi := ⟨some 21, .load _ (.tmp 20), _, _, _, _⟩) (v := .agg xs.toArray) rfl (by kernel_rfl) (by kernel_rfl) (by kernel_rfl) (fun _ _ _ h => h) (yieldsIf_load_row (by rfl) 138 _ rfl b (off + q * 17) rfl xs (fun w hS => hS.2) Tryz.rObj_impl_Obj HI1.out) hHeld ?_
        simp only [Act.put, List.setIfInBounds_toArray, List.set_cons_zero, List.set_cons_succ]
        refine wpAnyH_ready (rs := [10]) (by kernel_rfl) (by simp) (AllReadyH.cons (o := ⟨some 22, .call { callee := .value (.tmp 12), args := #[.tmp 17, .tmp 21], argTypes := #[138, 138] }, _, _, _, _⟩) rfl (fun K hK => ?_) AllReadyH.nil)
        refine step_call_v (by rfl) (.tmp 12) 184 #[.tmp 17, .tmp 21] #[138, 138] rfl (by simp [Act.eval]) (callFunc_enter Tryz.func184 (by kernel_rfl) (by kernel_rfl)) #[.agg ys.toArray, .agg xs.toArray] (by simp [Act.eval]) (HC3.out _ (Below.drew (Below.refl _ _))) ?_
        rintro e w4 ⟨rfl, hb4⟩
        refine ⟨.int .i64 ORD, rfl, hK.out _ _ ⟨range_below C1.out hb4.out, range_below C0.out hb4.out⟩ (fun hHeld => ?_)⟩
        clear hK K
        simp only [Act.put, List.setIfInBounds_toArray, List.set_cons_zero, List.set_cons_succ]
        refine wpAnyH_take (i := 11) (oi := ⟨some 23, .binOp .geq _ (.tmp 22) (.const (.int .i64 0)) _, _, _, _, _⟩) (v := .bool false) rfl (by kernel_rfl) (by kernel_rfl) (by kernel_rfl) (fun _ _ _ h => h) (Or.inl ⟨by rfl, by intro w hSw; go_simp⟩) hHeld ?_
        simp only [Act.put, List.setIfInBounds_toArray, List.set_cons_zero, List.set_cons_succ]
        refine wpAnyH_done (by kernel_rfl) ?_ _
        clear hHeld
        go_wp2
        go_roundw
        case rel => exact ⟨q + 1, by omega, by omega, by go_num, Hn, HB.out.trans (hb4.out.mono HB.out.size)⟩
        case measure => (simp [intOf] <;> omega)
    · have Hn : Hid (gb = true) := HG.out.2 (fun i hi => Ho.out i (by omega) hi)
      have hlt' : ¬ (q : Int) < (n : Int) := by omega
      clear Ho Hx Ht HG
      go_wp2
      go_ret
      exact ⟨ret_bool Hn.out.symm, HB.out⟩
set_option maxRecDepth 40000 in
set_option maxHeartbeats 6400000 in
theorem objsFit_any {lo hi : Nat} (n : Nat) (cs : UD) (c : Value) (f : Bool) (w : World) (ht : tyS 17 n cs 8) (hx : uS w lo hi 17 n cs c) (hf : f = true ↔ fitI cs n) :
    Calls Tryz.prog 214 #[c] w fun e w' => e = .returned (.bool f) ∧ Below w.heap.size w w' := by
  obtain ⟨a, cap, rfl, hx2⟩ := hx
  have Hx : Hid (uS w lo hi 17 n cs (.slice a n cap)) := ⟨a, cap, rfl, hx2⟩
  have Ht := uhide ht
  have HFI := uhide hf
  have no : ¬ fitI cs n → f = false := fun h => by
    cases hff : f with
    | false => rfl
    | true => exact (h (hf.1 hff)).elim
  by_cases h60 : n ≤ 60
  rotate_left
  · have hff := no (fun h => h60 h.1)
    subst hff
    have c60 : decide ((60 : Int) < (n : Int)) = true := by simp; omega
    have hmx := ht.2.2.1
    unfold maxLen at hmx
    clear hx2 ht hf no h60 Hx HFI Ht
    go_enter Tryz.func214, Tryz.ntmps214
    go_wp2
    go_ret
    exact ⟨rfl, Below.refl _ _⟩
  have c60 : decide ((60 : Int) < (n : Int)) = false := by simp; omega
  have NO := uhide no
  obtain ⟨i0, hi0, hz0, hz1, hz2⟩ := infoD Tryz.infoDInt
  obtain ⟨gb, hgb⟩ : ∃ gb : Bool, gb = true ↔ ∀ i, i < n → okF cs i := by
    by_cases h : ∀ i, i < n → okF cs i
    · exact ⟨true, ⟨fun _ => h, fun _ => rfl⟩⟩
    · exact ⟨false, ⟨fun g => (by cases g), fun g => (h g).elim⟩⟩
  have HAS : Hid (Calls Tryz.prog 235 #[.slice a n cap, .func (.func 184) #[] #[]] w fun e w' => e = .returned (.bool gb) ∧ Below w.heap.size w w') := ascObj_any n cs (.slice a n cap) gb w ht Hx.out h60 hgb
  have HGB := uhide hgb
  clear hx2 ht hf no hgb
  go_enter Tryz.func214, Tryz.ntmps214
  go_wp2_with fail
  refine HAS.out.mono ?_
  rintro e w1 ⟨rfl, hb1⟩
  have HB1 := uhide hb1
  clear hb1 HAS
  cases gb with
  | false =>
    have Hn : Hid (f = false) := NO.out (fun g => by have := HGB.out.2 g.2.1; cases this)
    clear HGB NO HFI Hx Ht
    go_wp2
    go_ret
    exact ⟨ret_bool Hn.out.symm, HB1.out⟩
  | true =>
  have HO : Hid (∀ i, i < n → okF cs i) := HGB.out.1 rfl
  have I0 : Hid (IR (w1.alloc (.cells #[] 3)) w.heap.size (.slice (some ⟨w1.heap.size, 0, none⟩) 0 0) (uidsI cs 0)) := IR.lit w1 w.heap.size HB1.out.size
  have B0 : Hid (Below w.heap.size w (w1.alloc (.cells #[] 3))) := HB1.out.alloc HB1.out.size _
  clear HGB HB1 NO
  go_wp2
  go_loopw [3, 17] (fun v i wr => ∃ (q cq g : Nat), q ≤ n ∧ i = .int .i64 q ∧ v = .slice (some ⟨g, 0, none⟩) q cq ∧ Hid (IR wr w.heap.size (.slice (some ⟨g, 0, none⟩) q cq) (uidsI cs q)) ∧ Hid (Below w.heap.size w wr)) (fun _ i _ => n - (intOf i).toNat)
  case atStart => exact ⟨0, 0, w1.heap.size, Nat.zero_le _, rfl, rfl, I0, B0⟩
  case round =>
    clear I0 B0
    obtain ⟨q, cq, g, hq, rfl, rfl, V, HB⟩ := hrel
    by_cases hlt : q < n
    · obtain ⟨b, off, rfl, hbb, hm⟩ := (Hx.out.below HB.out).cells (by omega)
      have htr := Ht.out.row hlt
      obtain ⟨xs, hh, hcl⟩ := (hm.row 17 q).hand
      have hxl : xs.length = 17 := by rw [hh.len, tyL.len htr]; rfl
      have ONE := uhide (one_cell htr hh)
      have HI1 : Hid ((Tryz.prog.info? 138).map (·.size) = some xs.length) := by show _ = _; rw [hxl]; exact Tryz.zObj_impl_Obj
      have RX : Hid (wr.rangeAt b (off + q * 17) xs) := hcl
      have TH : Hid ((wr.alloc (.cells ([.int .i64 0, .string ⟨#[]⟩, .int .i64 0, .int .i64 0, .int .i64 0, .bool false, .slice none 0 0, .int .i64 0, .string ⟨#[]⟩, .int .i64 0, .slice none 0 0, .slice none 0 0, .int .i64 0, .string ⟨#[]⟩, .int .i64 0, .slice none 0 0, .slice none 0 0] : List Value).toArray 138)).there wr.heap.size 0 xs.length) := by rw [hxl]; exact (objU.new2 _ _ rfl).there 0 17 (by decide)
      have HOX : Hid (∀ wy, wy = (wr.alloc (.cells ([.int .i64 0, .string ⟨#[]⟩, .int .i64 0, .int .i64 0, .int .i64 0, .bool false, .slice none 0 0, .int .i64 0, .string ⟨#[]⟩, .int .i64 0, .slice none 0 0, .slice none 0 0, .int .i64 0, .string ⟨#[]⟩, .int .i64 0, .slice none 0 0, .slice none 0 0] : List Value).toArray 138)).setCells wr.heap.size 0 xs → objU wy wr.heap.size 138 xs ∧ Below wr.heap.size wr wy) := fun wy e => by
        subst e
        have h1 := objU.setCells (t := 138) xs ([.int .i64 0, .string ⟨#[]⟩, .int .i64 0, .int .i64 0, .int .i64 0, .bool false, .slice none 0 0, .int .i64 0, .string ⟨#[]⟩, .int .i64 0, .slice none 0 0, .slice none 0 0, .int .i64 0, .string ⟨#[]⟩, .int .i64 0, .slice none 0 0, .slice none 0 0]) [] [] _ (objU.new2 (w := wr) _ _ rfl) (by rw [hxl]; rfl)
        refine ⟨by simpa using h1, ?_⟩
        exact ((Below.refl _ _).alloc (Nat.le_refl _) _).trans ((OutS.setCells _ _ _).below (fun t ht => by simp at ht; omega) (by simp))
      have hq0 : (0 : Int) ≤ (q : Int) := Int.natCast_nonneg _
      have hqn : (q : Int) < (n : Int) := by omega
      have hu2 := (obj_cells htr hh).2.2.1
      obtain ⟨U, hU⟩ : ∃ z, z = uidU (rowU cs 17 q) := ⟨_, rfl⟩
      rw [← hU] at hu2
      have X2 := uhide hu2
      have HU := uhide hU
      clear hxl hcl hu2 hU hm htr hh
      go_wp2_with (first
        | ((with_reducible refine wpList_load_row2 ?qqg148 138 ?qqx148 ?qqo148 b (off + q * 17) ?qqh148 xs Tryz.rObj_impl_Obj HI1.out RX.out ?_); (case qqg148 => rfl); (case qqo148 => rfl); (case qqh148 => simp [Act.eval, Act.put]))
        | ((with_reducible refine wpList_store_cells ?qqg149 138 ?qqx149 ?qqy149 ?qqo149 ?qqd149 wr.heap.size 0 ?qqh149 (.agg xs.toArray) ?qqv149 xs cells_agg ONE.out HI1.out TH.out ?_); (case qqg149 => rfl); (case qqo149 => rfl); (case qqd149 => rfl); (case qqh149 => simp [Act.eval, Act.put]); (case qqv149 => simp [Act.eval, Act.put]); intro wy ey; obtain ⟨hox, hbel⟩ := HOX.out wy ey; clear ey; have cu : wy.cell? ⟨wr.heap.size, 2, none⟩ = some (.int .i64 U) := hox.cell 2 _ X2.out; have HB2 : Hid (Below w.heap.size w wy) := HB.out.trans (hbel.mono HB.out.size); have V2 : Hid (IR wy w.heap.size (.slice (some ⟨g, 0, none⟩) q cq) (uidsI cs q)) := V.out.below hbel; have hws : w.heap.size ≤ wy.heap.size := HB2.out.size; have VN : Hid (∀ wx, Below wy.heap.size wy wx → wx.ownsRow w.heap.size 3 1 (.slice (some ⟨g, 0, none⟩) q cq) q ((uidsI cs q).map (Value.int .i64))) := fun wx hb => (by have := (V2.out.below hb).1; rw [uidsI_len] at this; exact this); clear hox hbel HOX TH ONE X2 V HB)
        | (at_builtin; refine wpList_append_own_at _ rfl _ _ 28 rfl w.heap.size 3 i0 _ 1 8 Tryz.underlying28 hi0 hz0 hz1 hz2 rfl (by decide) _ _ _ rfl (VN.out _ (by repeat (first | with_reducible exact Below.refl _ _ | with_reducible refine Below.drew ?_ | with_reducible refine below_drewN ?_ _ | with_reducible refine Below.alloc ?_ (by simp) _))) ⟨wy.heap.size, 0, none⟩ 1 1 [.int .i64 U] rfl rfl (cell_newI (t := 3) (by repeat (first | with_reducible exact Below.refl _ _ | with_reducible refine Below.drew ?_ | with_reducible refine below_drewN ?_ _))) (fun x hx => by simp at hx; rcases hx with rfl; rfl) (by unfold maxLen; omega) (by omega) (by simp; omega) ?_; intro v3 w5 hown hgrow hnil hat))
      have I3 : Hid (IR w5 w.heap.size v3 (uidsI cs (q + 1))) := by
        have h0 : IR (wy.alloc (.cells #[.int .i64 U] 3)) w.heap.size (.slice (some ⟨g, 0, none⟩) q cq) (uidsI cs q) := V2.out.below (by repeat (first | with_reducible exact Below.refl _ _ | with_reducible refine Below.drew ?_ | with_reducible refine Below.alloc ?_ (by simp) _))
        rw [uidsI_succ, ← HU.out]
        exact h0.snoc (by rw [uidsI_len]; exact hown) hat
      have HB3 : Hid (Below w.heap.size w w5) := Below.grown (HB2.out.alloc hws _) hgrow (by simp; omega) (fun j hj => V2.out.row j hj)
      obtain ⟨g3, cap3, e3, -, -⟩ := I3.out.shp
      rw [uidsI_len] at e3
      subst e3
      clear hown hgrow hnil hat VN V2 HB2
      go_roundw
      case rel => exact ⟨q + 1, cap3, g3, by omega, by go_num, rfl, I3, HB3⟩
      case measure => (simp [intOf] <;> omega)
    · have e : q = n := by omega
      subst e
      have HV : Hid (f = decide ((uidsI cs q).Nodup)) := by
        show f = _
        cases hff : f with
        | true => exact (decide_eq_true ((HFI.out.1 hff).2.2)).symm
        | false => exact (decide_eq_false (fun hn => by rw [HFI.out.2 ⟨h60, HO.out, hn⟩] at hff; cases hff)).symm
      have HS := uhide (uids_sorted w wr w.heap.size g q cq (uidsI cs q) (uidsI_len cs q) h60 V.out HB.out)
      clear HO V HB Hx Ht
      go_wp2_with (go_at_call 236; refine HS.out.mono ?_; rintro e w7 ⟨rfl, hb7, hc7⟩)
      go_wp2_with (go_at_call 237; refine hc7.out.mono ?_; rintro e w8 ⟨m, rfl, hm8, hb8⟩)
      go_ret
      have he : decide ((uidsI cs q).Nodup) = decide (m = q) := by rw [decide_eq_decide]; exact hm8.out.symm
      exact ⟨ret_bool (by rw [HV.out, he]; by_cases e : m = q <;> simp [e] <;> omega), hb8.out⟩
end Go.Proofs.YtdnodaoeflbfkaaGreat
/- Objects: the program's look at a list of them, whole. -/
namespace Go.Proofs.YtdnodaoeflbfkaaGreat
open Go.RowKit Go.BigFrame
set_option linter.unusedVariables false
set_option linter.unusedSimpArgs false
set_option maxRecDepth 40000 in
set_option maxHeartbeats 6400000 in
theorem standOk_any {lo hi : Nat} (d : UD) (xs : List Value) (rev next : Int) (w : World) (ht : tyL d (uE 8)) (hx : uH w lo hi d xs) (hn0 : -9223372036854775807 ≤ next) (hn1 : next ≤ 9223372036854775807) :
    Calls Tryz.prog 215 #[.agg xs.toArray, .int .i64 rev, .int .i64 (next - 1)] w fun e w' => e = .returned (.bool (objB d rev next && !endsB d)) ∧ Below w.heap.size w w' := by
  obtain ⟨ob, hob⟩ : ∃ z, z = objB d rev next := ⟨_, rfl⟩
  obtain ⟨en, hen⟩ : ∃ z, z = endsB d := ⟨_, rfl⟩
  have K1 : Hid (∀ wx, Below w.heap.size w wx → Calls Tryz.prog 216 #[.agg xs.toArray, .int .i64 rev, .int .i64 (next - 1)] wx fun e w' => e = .returned (.bool ob) ∧ Hid (Below wx.heap.size wx w')) := fun wx hb => hob ▸ objOk_any (lo := lo) (hi := hi) _ xs rev next wx ht (hx.below hb) hn0 hn1
  have K2 : Hid (∀ wx, Below w.heap.size w wx → Calls Tryz.prog 133 #[.agg xs.toArray] wx fun e w' => e = .returned (.bool en) ∧ Hid (Below wx.heap.size wx w')) := fun wx hb => hen ▸ iends_any (lo := lo) (hi := hi) _ xs wx ht (hx.below hb)
  have HI1 : Hid ((Tryz.prog.info? 138).map (·.size) = some xs.length) := by show _ = _; rw [hx.len, tyL.len ht]; exact Tryz.zObj_impl_Obj
  rw [← hob, ← hen]
  have C0 : Hid ((w.alloc (.cells xs.toArray 138)).rangeAt w.heap.size 0 xs) := (objU.new w 138 xs).range 0 xs (fun i v h => by rw [Nat.zero_add]; exact h)
  have B0 : Hid (Below w.heap.size w (w.alloc (.cells xs.toArray 138))) := (Below.refl _ _).alloc (Nat.le_refl _) _
  clear hob hen hx ht hn0 hn1
  cases ob with
  | false =>
    go_enter Tryz.func215, Tryz.ntmps215
    go_wp2_with (first
      | ((with_reducible refine wpList_load_rowG ?qqg23 138 ?qqx23 ?qqo23 w.heap.size 0 ?qqh23 xs Tryz.rObj_impl_Obj HI1.out C0.out ?_); (case qqg23 => rfl); (case qqo23 => rfl); (case qqh23 => simp [Act.eval, Act.put]))
      | (go_at_call 216; refine (K1.out _ B0.out).mono ?_; rintro e w2 ⟨rfl, hb2⟩)
      )
    go_ret
    exact ⟨rfl, B0.out.trans (hb2.out.mono B0.out.size)⟩
  | true =>
    go_enter Tryz.func215, Tryz.ntmps215
    go_wp2_with (first
      | ((with_reducible refine wpList_load_rowG ?qqg31 138 ?qqx31 ?qqo31 w.heap.size 0 ?qqh31 xs Tryz.rObj_impl_Obj HI1.out C0.out ?_); (case qqg31 => rfl); (case qqo31 => rfl); (case qqh31 => simp [Act.eval, Act.put]))
      | (go_at_call 216; refine (K1.out _ B0.out).mono ?_; rintro e w2 ⟨rfl, hb2⟩; have C2 := uhide (range_below C0.out hb2.out); have B2 : Hid (Below w.heap.size w w2) := B0.out.trans (hb2.out.mono B0.out.size))
      | ((with_reducible refine wpList_load_rowG ?qqg33 138 ?qqx33 ?qqo33 w.heap.size 0 ?qqh33 xs Tryz.rObj_impl_Obj HI1.out C2.out ?_); (case qqg33 => rfl); (case qqo33 => rfl); (case qqh33 => simp [Act.eval, Act.put]))
      | (go_at_call 133; refine (K2.out _ B2.out).mono ?_; rintro e w3 ⟨rfl, hb3⟩)
      )
    go_ret
    exact ⟨rfl, B2.out.trans (hb3.out.mono B2.out.size)⟩
set_option maxRecDepth 40000 in
set_option maxHeartbeats 6400000 in
theorem objsOk_any {lo hi : Nat} (n : Nat) (cs : UD) (c : Value) (rev next : Int) (w : World) (ht : tyS 17 n cs 8) (hx : uS w lo hi 17 n cs c) (hn0 : -9223372036854775807 ≤ next) (hn1 : next ≤ 9223372036854775807) :
    Calls Tryz.prog 173 #[c, .int .i64 rev, .int .i64 (next - 1)] w fun e w' => e = .returned (.bool (objsB cs n rev next)) ∧ Below w.heap.size w w' := by
  obtain ⟨a, cap, rfl, hx2⟩ := hx
  have Hx : Hid (uS w lo hi 17 n cs (.slice a n cap)) := ⟨a, cap, rfl, hx2⟩
  have Ht := uhide ht
  have HN := uhide (And.intro hn0 hn1)
  have hmx := ht.2.2.1
  unfold maxLen at hmx
  obtain ⟨f, hf⟩ : ∃ f : Bool, f = true ↔ fitI cs n := ⟨@decide (fitI cs n) (Classical.propDecidable _), by simp⟩
  have HIF := uhide (objsB_iff cs n rev next)
  have HFI := uhide hf
  have HC : Hid (Calls Tryz.prog 214 #[.slice a n cap] w fun e w' => e = .returned (.bool f) ∧ Hid (Below w.heap.size w w')) := objsFit_any (lo := lo) (hi := hi) n cs _ f w ht Hx.out hf
  obtain ⟨R, hR⟩ : ∃ R, R = objsB cs n rev next := ⟨_, rfl⟩
  rw [← hR] at HIF ⊢
  clear hx2 ht hn0 hn1 hf hR
  cases f with
  | false =>
    have hr : R = false := by
      cases hq : R with
      | false => rfl
      | true => have := HFI.out.2 (HIF.out.1 hq).1; cases this
    subst hr
    clear HIF HFI
    go_enter Tryz.func173, Tryz.ntmps173
    go_wp2_with (go_at_call 214; refine HC.out.mono ?_; rintro e w1 ⟨rfl, hb1⟩)
    go_ret
    exact ⟨rfl, hb1.out⟩
  | true =>
  have HFT := uhide (HFI.out.1 rfl)
  clear HFI
  go_enter Tryz.func173, Tryz.ntmps173
  go_wp2_with (go_at_call 214; refine HC.out.mono ?_; rintro e w1 ⟨rfl, hb1⟩)
  go_loopw [14] (fun i wr => ∃ q : Nat, q ≤ n ∧ i = .int .i64 q ∧ Hid (∀ j, j < q → objB (rowU cs 17 j) rev next = true ∧ endsB (rowU cs 17 j) = false) ∧ Hid (Below w.heap.size w wr)) (fun i _ => n - (intOf i).toNat)
  case atStart => exact ⟨0, Nat.zero_le _, rfl, fun j hj => by omega, hb1⟩
  case round =>
    clear hb1 HC
    obtain ⟨q, hq, rfl, Ho, HB⟩ := hrel
    by_cases hlt : q < n
    · obtain ⟨b, off, rfl, hbb, hm⟩ := (Hx.out.below HB.out).cells (by omega)
      have htr := Ht.out.row hlt
      obtain ⟨xs, hh, hcl⟩ := (hm.row 17 q).hand
      have hxl : xs.length = 17 := by rw [hh.len, tyL.len htr]; rfl
      have ONE := uhide (one_cell htr hh)
      have HI1 : Hid ((Tryz.prog.info? 138).map (·.size) = some xs.length) := by show _ = _; rw [hxl]; exact Tryz.zObj_impl_Obj
      have RX : Hid (wr.rangeAt b (off + q * 17) xs) := hcl
      have TH : Hid ((wr.alloc (.cells ([.int .i64 0, .string ⟨#[]⟩, .int .i64 0, .int .i64 0, .int .i64 0, .bool false, .slice none 0 0, .int .i64 0, .string ⟨#[]⟩, .int .i64 0, .slice none 0 0, .slice none 0 0, .int .i64 0, .string ⟨#[]⟩, .int .i64 0, .slice none 0 0, .slice none 0 0] : List Value).toArray 138)).there wr.heap.size 0 xs.length) := by rw [hxl]; exact (objU.new2 _ _ rfl).there 0 17 (by decide)
      have HOX : Hid (∀ wy, wy = (wr.alloc (.cells ([.int .i64 0, .string ⟨#[]⟩, .int .i64 0, .int .i64 0, .int .i64 0, .bool false, .slice none 0 0, .int .i64 0, .string ⟨#[]⟩, .int .i64 0, .slice none 0 0, .slice none 0 0, .int .i64 0, .string ⟨#[]⟩, .int .i64 0, .slice none 0 0, .slice none 0 0] : List Value).toArray 138)).setCells wr.heap.size 0 xs → objU wy wr.heap.size 138 xs ∧ Below wr.heap.size wr wy) := fun wy e => by
        subst e
        have h1 := objU.setCells (t := 138) xs ([.int .i64 0, .string ⟨#[]⟩, .int .i64 0, .int .i64 0, .int .i64 0, .bool false, .slice none 0 0, .int .i64 0, .string ⟨#[]⟩, .int .i64 0, .slice none 0 0, .slice none 0 0, .int .i64 0, .string ⟨#[]⟩, .int .i64 0, .slice none 0 0, .slice none 0 0]) [] [] _ (objU.new2 (w := wr) _ _ rfl) (by rw [hxl]; rfl)
        refine ⟨by simpa using h1, ?_⟩
        exact ((Below.refl _ _).alloc (Nat.le_refl _) _).trans ((OutS.setCells _ _ _).below (fun t ht => by simp at ht; omega) (by simp))
      have hq0 : (0 : Int) ≤ (q : Int) := Int.natCast_nonneg _
      have hqn : (q : Int) < (n : Int) := by omega
      obtain ⟨ok, hok⟩ : ∃ z, z = (objB (rowU cs 17 q) rev next && !endsB (rowU cs 17 q)) := ⟨_, rfl⟩
      have K1 : Hid (∀ wx, Below wr.heap.size wr wx → Calls Tryz.prog 215 #[.agg xs.toArray, .int .i64 rev, .int .i64 (next - 1)] wx fun e w' => e = .returned (.bool ok) ∧ Hid (Below wx.heap.size wx w')) := fun wx hb => hok ▸ standOk_any (lo := lo) (hi := hi) _ xs rev next wx htr (hh.below hb) HN.out.1 HN.out.2
      clear hxl hcl hm htr hh
      cases ok with
      | false =>
        have hr : R = false := by
          cases hq : R with
          | false => rfl
          | true => have := (HIF.out.1 hq).2 q hlt; rw [this.1, this.2] at hok; cases hok
        subst hr
        clear hok HIF Ho
        go_wp2_with (first
          | ((with_reducible refine wpList_load_row2 ?qqg107 138 ?qqx107 ?qqo107 b (off + q * 17) ?qqh107 xs Tryz.rObj_impl_Obj HI1.out RX.out ?_); (case qqg107 => rfl); (case qqo107 => rfl); (case qqh107 => simp [Act.eval, Act.put]))
          | ((with_reducible refine wpList_store_cells ?qqg108 138 ?qqx108 ?qqy108 ?qqo108 ?qqd108 wr.heap.size 0 ?qqh108 (.agg xs.toArray) ?qqv108 xs cells_agg ONE.out HI1.out TH.out ?_); (case qqg108 => rfl); (case qqo108 => rfl); (case qqd108 => rfl); (case qqh108 => simp [Act.eval, Act.put]); (case qqv108 => simp [Act.eval, Act.put]); intro wy ey; have C0 : Hid (wy.rangeAt wr.heap.size 0 xs) := (HOX.out wy ey).1.range 0 xs (fun i v h => by simpa using h); have HBEL := uhide (HOX.out wy ey).2; clear ey)
          | ((with_reducible refine wpList_load_row2 ?qqg109 138 ?qqx109 ?qqo109 wr.heap.size 0 ?qqh109 xs Tryz.rObj_impl_Obj HI1.out C0.out ?_); (case qqg109 => rfl); (case qqo109 => rfl); (case qqh109 => simp [Act.eval, Act.put]))
          | (go_at_call 215; refine (K1.out _ HBEL.out).mono ?_; rintro e w2 ⟨rfl, hb2⟩)
          )
        go_ret
        exact ⟨rfl, HB.out.trans (HBEL.out.trans (hb2.out.mono HBEL.out.size) |>.mono HB.out.size)⟩
      | true =>
        have HO2 : Hid (∀ j, j < q + 1 → objB (rowU cs 17 j) rev next = true ∧ endsB (rowU cs 17 j) = false) := fun j hj => by
          by_cases e : j = q
          · subst e
            cases h1 : objB (rowU cs 17 j) rev next <;> cases h2 : endsB (rowU cs 17 j) <;> simp [h1, h2] at hok <;> exact ⟨rfl, rfl⟩
          · exact Ho.out j (by omega)
        clear hok Ho
        go_wp2_with (first
          | ((with_reducible refine wpList_load_row2 ?qqg122 138 ?qqx122 ?qqo122 b (off + q * 17) ?qqh122 xs Tryz.rObj_impl_Obj HI1.out RX.out ?_); (case qqg122 => rfl); (case qqo122 => rfl); (case qqh122 => simp [Act.eval, Act.put]))
          | ((with_reducible refine wpList_store_cells ?qqg123 138 ?qqx123 ?qqy123 ?qqo123 ?qqd123 wr.heap.size 0 ?qqh123 (.agg xs.toArray) ?qqv123 xs cells_agg ONE.out HI1.out TH.out ?_); (case qqg123 => rfl); (case qqo123 => rfl); (case qqd123 => rfl); (case qqh123 => simp [Act.eval, Act.put]); (case qqv123 => simp [Act.eval, Act.put]); intro wy ey; have C0 : Hid (wy.rangeAt wr.heap.size 0 xs) := (HOX.out wy ey).1.range 0 xs (fun i v h => by simpa using h); have HBEL := uhide (HOX.out wy ey).2; clear ey)
          | ((with_reducible refine wpList_load_row2 ?qqg124 138 ?qqx124 ?qqo124 wr.heap.size 0 ?qqh124 xs Tryz.rObj_impl_Obj HI1.out C0.out ?_); (case qqg124 => rfl); (case qqo124 => rfl); (case qqh124 => simp [Act.eval, Act.put]))
          | (go_at_call 215; refine (K1.out _ HBEL.out).mono ?_; rintro e w2 ⟨rfl, hb2⟩)
          )
        have HB3 : Hid (Below w.heap.size w w2) := HB.out.trans (HBEL.out.trans (hb2.out.mono HBEL.out.size) |>.mono HB.out.size)
        go_roundw
        case rel => exact ⟨q + 1, by omega, by go_num, HO2, HB3⟩
        case measure => simp [intOf]; omega
    · have e : q = n := by omega
      subst e
      have hr : R = true := HIF.out.2 ⟨HFT.out, Ho.out⟩
      subst hr
      clear HIF HFT Ho
      go_wp2
      go_ret
      exact ⟨rfl, HB.out⟩
end Go.Proofs.YtdnodaoeflbfkaaGreat
/- Bases: the program's look at one. -/
namespace Go.Proofs.YtdnodaoeflbfkaaGreat
open Go.RowKit Go.BigFrame
set_option linter.unusedVariables false
set_option linter.unusedSimpArgs false
theorem within_anyB (n m : Int) (w : World) : Calls Tryz.prog 146 #[.int .i64 n, .int .i64 m] w fun e w' => e = .returned (.bool (inB n 0 m)) ∧ w' = w := by
  go_enter Tryz.func146, Tryz.ntmps146
  go_wp2
  all_goals go_ret
  all_goals exact ⟨ret_bool (by rw [Bool.eq_iff_iff]; simp [inB]; omega), rfl⟩
set_option maxRecDepth 40000 in
set_option maxHeartbeats 6400000 in
theorem iBaseOk_of {lo hi : Nat} (n0 : Nat) (c0 : UD) (rev next : Int) (n : Nat) (cs : UD) (v0 v3 : Value) (w : World) (g0 : tyS 17 n0 c0 8) (g3 : tyS 19 n cs 9) (s0 : uS w lo hi 17 n0 c0 v0) (s3 : uS w lo hi 19 n cs v3) :
    Calls Tryz.prog 93 #[.agg #[v0, .int .i64 rev, .int .i64 next, v3]] w fun e w' => e = .returned (.bool (baseB n0 c0 rev next n cs)) ∧ Below w.heap.size w w' := by
  have S0 := uhide s0
  have S3 := uhide s3
  obtain ⟨a0, cp0, rfl, s0c⟩ := s0
  obtain ⟨a3, cp3, rfl, s3c⟩ := s3
  have hmx := g3.2.2.1
  have hmy := g0.2.2.1
  unfold maxLen at hmx hmy
  obtain ⟨k0, hk0⟩ : ∃ k, k = inB rev 0 1000000 := ⟨_, rfl⟩
  obtain ⟨k1, hk1⟩ : ∃ k, k = inB next 1 1000000 := ⟨_, rfl⟩
  obtain ⟨k2, hk2⟩ : ∃ k, k = objsB c0 n0 rev next := ⟨_, rfl⟩
  obtain ⟨k3, hk3⟩ : ∃ k, k = logB cs n rev next := ⟨_, rfl⟩
  have HK0 : Hid (∀ wx : World, Below w.heap.size w wx → Calls Tryz.prog 146 #[.int .i64 rev, .int .i64 1000000] wx fun e w' => e = .returned (.bool k0) ∧ Below wx.heap.size wx w') := fun wx hb => hk0 ▸ (within_anyB _ _ wx).mono fun e w' h => ⟨h.1, h.2 ▸ Below.refl _ _⟩
  have HK1 : Hid (∀ wx : World, Below w.heap.size w wx → Calls Tryz.prog 172 #[.int .i64 next, .int .i64 1000000] wx fun e w' => e = .returned (.bool k1) ∧ Below wx.heap.size wx w') := fun wx hb => hk1 ▸ (fromOne_any _ _ wx).mono fun e w' h => ⟨h.1, h.2 ▸ Below.refl _ _⟩
  have HN : Hid (k1 = true → -9223372036854775807 ≤ next ∧ next ≤ 9223372036854775807) := fun h => by
    rw [hk1] at h
    unfold inB at h
    simp at h
    omega
  have HK2 : Hid (k1 = true → ∀ wx : World, Below w.heap.size w wx → Calls Tryz.prog 173 #[.slice a0 n0 cp0, .int .i64 rev, .int .i64 (next - 1)] wx fun e w' => e = .returned (.bool k2) ∧ Below wx.heap.size wx w')   := fun h wx hb => hk2 ▸ objsOk_any n0 c0 _ rev next wx g0 (S0.out.below hb) (HN.out h).1 (HN.out h).2
  have HK3 : Hid (k1 = true → ∀ wx : World, Below w.heap.size w wx → Calls Tryz.prog 174 #[.agg #[.slice a0 n0 cp0, .int .i64 rev, .int .i64 next, .slice a3 n cp3]] wx fun e w' => e = .returned (.bool k3) ∧ Below wx.heap.size wx w') := fun h wx hb => hk3 ▸ iLogOk_of n cs rev next _ _ wx g3 (S3.out.below hb) (HN.out h).1 (HN.out h).2
  have OA : Hid (objU (w.alloc (.cells #[.slice a0 n0 cp0, .int .i64 rev, .int .i64 next, .slice a3 n cp3] 69)) w.heap.size 69 [.slice a0 n0 cp0, .int .i64 rev, .int .i64 next, .slice a3 n cp3]) := objU.new2 _ _ rfl
  have BA : Hid (Below w.heap.size w (w.alloc (.cells #[.slice a0 n0 cp0, .int .i64 rev, .int .i64 next, .slice a3 n cp3] 69))) := (Below.refl _ _).alloc (Nat.le_refl _) _
  have ZB : Hid ((Tryz.prog.info? 69).map (·.size) = some ([.slice a0 n0 cp0, .int .i64 rev, .int .i64 next, .slice a3 n cp3] : List Value).length) := Tryz.zBase_impl_Base
  have RG : Hid (∀ wx : World, objU wx w.heap.size 69 [.slice a0 n0 cp0, .int .i64 rev, .int .i64 next, .slice a3 n cp3] → wx.rangeAt w.heap.size 0 [.slice a0 n0 cp0, .int .i64 rev, .int .i64 next, .slice a3 n cp3]) := fun wx h => h.range 0 _ (fun j v e => by rw [Nat.zero_add]; exact e)
  unfold baseB
  rw [← hk0, ← hk1, ← hk2, ← hk3]
  clear hk0 hk1 hk2 hk3 s0c g0 g3 s3c S0 S3
  by_cases h40 : n ≤ 40
  rotate_left
  · have d4 : decide ((40 : Int) < (n : Int)) = true := by rw [decide_eq_true_eq]; omega
    have H40 := uhide h40
    clear h40
    go_enter Tryz.func93, Tryz.ntmps93
    go_wp2_with (first
      | ((with_reducible refine wpList_load_oneG ?qqg52 3 ?qqx52 ?qqo52 w.heap.size 1 ?qqh52 (.int .i64 rev) Tryz.rBase_int (OA.out.cell 1 _ rfl) ?_); (case qqg52 => rfl); (case qqo52 => rfl); (case qqh52 => simp [Act.eval, Act.put]))
      | ((with_reducible refine wpList_load_oneG ?qqg54 67 ?qqx54 ?qqo54 w.heap.size 3 ?qqh54 (.slice a3 n cp3) Tryz.rBase_Limpl_Change (OA.out.cell 3 _ rfl) ?_); (case qqg54 => rfl); (case qqo54 => rfl); (case qqh54 => simp [Act.eval, Act.put]))
      )
    go_ret
    exact ⟨ret_bool (by simp [H40.out]), BA.out⟩
  have d4 : decide ((40 : Int) < (n : Int)) = false := by rw [decide_eq_false_iff_not]; omega
  have H40 := uhide h40
  clear h40
  cases k0 with
  | false =>
    go_enter Tryz.func93, Tryz.ntmps93
    go_wp2_with (first
      | ((with_reducible refine wpList_load_oneG ?qqg75 3 ?qqx75 ?qqo75 w.heap.size 1 ?qqh75 (.int .i64 rev) Tryz.rBase_int (OA.out.cell 1 _ rfl) ?_); (case qqg75 => rfl); (case qqo75 => rfl); (case qqh75 => simp [Act.eval, Act.put]))
      | ((with_reducible refine wpList_load_oneG ?qqg77 67 ?qqx77 ?qqo77 w.heap.size 3 ?qqh77 (.slice a3 n cp3) Tryz.rBase_Limpl_Change (OA.out.cell 3 _ rfl) ?_); (case qqg77 => rfl); (case qqo77 => rfl); (case qqh77 => simp [Act.eval, Act.put]))
      )
    refine (HK0.out _ BA.out).mono ?_
    rintro e w0 ⟨rfl, hb0⟩
    have O0 := uhide (OA.out.below hb0)
    have B0 : Hid (Below w.heap.size w w0) := BA.out.trans (hb0.mono BA.out.size)
    clear hb0
    go_wp2_with (first
      | ((with_reducible refine wpList_load_oneG ?qqg96 3 ?qqx96 ?qqo96 w.heap.size 2 ?qqh96 (.int .i64 next) Tryz.rBase_int (O0.out.cell 2 _ rfl) ?_); (case qqg96 => rfl); (case qqo96 => rfl); (case qqh96 => simp [Act.eval, Act.put]))
      )
    go_ret
    exact ⟨ret_bool (by simp [H40.out]), B0.out⟩
  | true =>
  cases k1 with
  | false =>
    go_enter Tryz.func93, Tryz.ntmps93
    go_wp2_with (first
      | ((with_reducible refine wpList_load_oneG ?qqg116 3 ?qqx116 ?qqo116 w.heap.size 1 ?qqh116 (.int .i64 rev) Tryz.rBase_int (OA.out.cell 1 _ rfl) ?_); (case qqg116 => rfl); (case qqo116 => rfl); (case qqh116 => simp [Act.eval, Act.put]))
      | ((with_reducible refine wpList_load_oneG ?qqg118 67 ?qqx118 ?qqo118 w.heap.size 3 ?qqh118 (.slice a3 n cp3) Tryz.rBase_Limpl_Change (OA.out.cell 3 _ rfl) ?_); (case qqg118 => rfl); (case qqo118 => rfl); (case qqh118 => simp [Act.eval, Act.put]))
      )
    refine (HK0.out _ BA.out).mono ?_
    rintro e w0 ⟨rfl, hb0⟩
    have O0 := uhide (OA.out.below hb0)
    have B0 : Hid (Below w.heap.size w w0) := BA.out.trans (hb0.mono BA.out.size)
    clear hb0
    go_wp2_with (first
      | ((with_reducible refine wpList_load_oneG ?qqg137 3 ?qqx137 ?qqo137 w.heap.size 2 ?qqh137 (.int .i64 next) Tryz.rBase_int (O0.out.cell 2 _ rfl) ?_); (case qqg137 => rfl); (case qqo137 => rfl); (case qqh137 => simp [Act.eval, Act.put]))
      )
    refine (HK1.out _ B0.out).mono ?_
    rintro e w1 ⟨rfl, hb1⟩
    have O1 := uhide (O0.out.below hb1)
    have B1 : Hid (Below w.heap.size w w1) := B0.out.trans (hb1.mono B0.out.size)
    clear hb1
    go_wp2_with (first
      | ((with_reducible refine wpList_load_oneG ?qqg155 63 ?qqx155 ?qqo155 w.heap.size 0 ?qqh155 (.slice a0 n0 cp0) Tryz.rBase_Limpl_Obj (O1.out.cell 0 _ rfl) ?_); (case qqg155 => rfl); (case qqo155 => rfl); (case qqh155 => simp [Act.eval, Act.put]))
      | ((with_reducible refine wpList_load_oneG ?qqg156 3 ?qqx156 ?qqo156 w.heap.size 1 ?qqh156 (.int .i64 rev) Tryz.rBase_int (O1.out.cell 1 _ rfl) ?_); (case qqg156 => rfl); (case qqo156 => rfl); (case qqh156 => simp [Act.eval, Act.put]))
      | ((with_reducible refine wpList_load_oneG ?qqg157 3 ?qqx157 ?qqo157 w.heap.size 2 ?qqh157 (.int .i64 next) Tryz.rBase_int (O1.out.cell 2 _ rfl) ?_); (case qqg157 => rfl); (case qqo157 => rfl); (case qqh157 => simp [Act.eval, Act.put]))
      )
    go_ret
    exact ⟨ret_bool (by simp [H40.out]), B1.out⟩
  | true =>
  have hwr : IntKind.i64.wrap (next - 1) = next - 1 := uwrap64 _ (by have := HN.out rfl; omega) (by have := HN.out rfl; omega)
  have hwr2 : wrap64 (next - 1) = next - 1 := by have := HN.out rfl; unfold wrap64; omega
  cases k2 with
  | false =>
    go_enter Tryz.func93, Tryz.ntmps93
    go_wp2_with (first
      | ((with_reducible refine wpList_load_oneG ?qqg179 3 ?qqx179 ?qqo179 w.heap.size 1 ?qqh179 (.int .i64 rev) Tryz.rBase_int (OA.out.cell 1 _ rfl) ?_); (case qqg179 => rfl); (case qqo179 => rfl); (case qqh179 => simp [Act.eval, Act.put]))
      | ((with_reducible refine wpList_load_oneG ?qqg181 67 ?qqx181 ?qqo181 w.heap.size 3 ?qqh181 (.slice a3 n cp3) Tryz.rBase_Limpl_Change (OA.out.cell 3 _ rfl) ?_); (case qqg181 => rfl); (case qqo181 => rfl); (case qqh181 => simp [Act.eval, Act.put]))
      )
    refine (HK0.out _ BA.out).mono ?_
    rintro e w0 ⟨rfl, hb0⟩
    have O0 := uhide (OA.out.below hb0)
    have B0 : Hid (Below w.heap.size w w0) := BA.out.trans (hb0.mono BA.out.size)
    clear hb0
    go_wp2_with (first
      | ((with_reducible refine wpList_load_oneG ?qqg200 3 ?qqx200 ?qqo200 w.heap.size 2 ?qqh200 (.int .i64 next) Tryz.rBase_int (O0.out.cell 2 _ rfl) ?_); (case qqg200 => rfl); (case qqo200 => rfl); (case qqh200 => simp [Act.eval, Act.put]))
      )
    refine (HK1.out _ B0.out).mono ?_
    rintro e w1 ⟨rfl, hb1⟩
    have O1 := uhide (O0.out.below hb1)
    have B1 : Hid (Below w.heap.size w w1) := B0.out.trans (hb1.mono B0.out.size)
    clear hb1
    go_wp2_with (first
      | ((with_reducible refine wpList_load_oneG ?qqg218 63 ?qqx218 ?qqo218 w.heap.size 0 ?qqh218 (.slice a0 n0 cp0) Tryz.rBase_Limpl_Obj (O1.out.cell 0 _ rfl) ?_); (case qqg218 => rfl); (case qqo218 => rfl); (case qqh218 => simp [Act.eval, Act.put]))
      | ((with_reducible refine wpList_load_oneG ?qqg219 3 ?qqx219 ?qqo219 w.heap.size 1 ?qqh219 (.int .i64 rev) Tryz.rBase_int (O1.out.cell 1 _ rfl) ?_); (case qqg219 => rfl); (case qqo219 => rfl); (case qqh219 => simp [Act.eval, Act.put]))
      | ((with_reducible refine wpList_load_oneG ?qqg220 3 ?qqx220 ?qqo220 w.heap.size 2 ?qqh220 (.int .i64 next) Tryz.rBase_int (O1.out.cell 2 _ rfl) ?_); (case qqg220 => rfl); (case qqo220 => rfl); (case qqh220 => simp [Act.eval, Act.put]))
      )
    refine (HK2.out (by first | rfl | trivial) _ B1.out).mono ?_
    rintro e w2 ⟨rfl, hb2⟩
    have O2 := uhide (O1.out.below hb2)
    have B2 : Hid (Below w.heap.size w w2) := B1.out.trans (hb2.mono B1.out.size)
    clear hb2
    go_wp2_with (first
      | ((with_reducible refine wpList_load_rowG ?qqg250 69 ?qqx250 ?qqo250 w.heap.size 0 ?qqh250 [.slice a0 n0 cp0, .int .i64 rev, .int .i64 next, .slice a3 n cp3] Tryz.rBase_impl_Base ZB.out (RG.out _ O2.out) ?_); (case qqg250 => rfl); (case qqo250 => rfl); (case qqh250 => simp [Act.eval, Act.put]))
      )
    go_ret
    exact ⟨ret_bool (by simp [H40.out]), B2.out⟩
  | true =>
  cases k3 with
  | false =>
    go_enter Tryz.func93, Tryz.ntmps93
    go_wp2_with (first
      | ((with_reducible refine wpList_load_oneG ?qqg260 3 ?qqx260 ?qqo260 w.heap.size 1 ?qqh260 (.int .i64 rev) Tryz.rBase_int (OA.out.cell 1 _ rfl) ?_); (case qqg260 => rfl); (case qqo260 => rfl); (case qqh260 => simp [Act.eval, Act.put]))
      | ((with_reducible refine wpList_load_oneG ?qqg262 67 ?qqx262 ?qqo262 w.heap.size 3 ?qqh262 (.slice a3 n cp3) Tryz.rBase_Limpl_Change (OA.out.cell 3 _ rfl) ?_); (case qqg262 => rfl); (case qqo262 => rfl); (case qqh262 => simp [Act.eval, Act.put]))
      )
    refine (HK0.out _ BA.out).mono ?_
    rintro e w0 ⟨rfl, hb0⟩
    have O0 := uhide (OA.out.below hb0)
    have B0 : Hid (Below w.heap.size w w0) := BA.out.trans (hb0.mono BA.out.size)
    clear hb0
    go_wp2_with (first
      | ((with_reducible refine wpList_load_oneG ?qqg281 3 ?qqx281 ?qqo281 w.heap.size 2 ?qqh281 (.int .i64 next) Tryz.rBase_int (O0.out.cell 2 _ rfl) ?_); (case qqg281 => rfl); (case qqo281 => rfl); (case qqh281 => simp [Act.eval, Act.put]))
      )
    refine (HK1.out _ B0.out).mono ?_
    rintro e w1 ⟨rfl, hb1⟩
    have O1 := uhide (O0.out.below hb1)
    have B1 : Hid (Below w.heap.size w w1) := B0.out.trans (hb1.mono B0.out.size)
    clear hb1
    go_wp2_with (first
      | ((with_reducible refine wpList_load_oneG ?qqg299 63 ?qqx299 ?qqo299 w.heap.size 0 ?qqh299 (.slice a0 n0 cp0) Tryz.rBase_Limpl_Obj (O1.out.cell 0 _ rfl) ?_); (case qqg299 => rfl); (case qqo299 => rfl); (case qqh299 => simp [Act.eval, Act.put]))
      | ((with_reducible refine wpList_load_oneG ?qqg300 3 ?qqx300 ?qqo300 w.heap.size 1 ?qqh300 (.int .i64 rev) Tryz.rBase_int (O1.out.cell 1 _ rfl) ?_); (case qqg300 => rfl); (case qqo300 => rfl); (case qqh300 => simp [Act.eval, Act.put]))
      | ((with_reducible refine wpList_load_oneG ?qqg301 3 ?qqx301 ?qqo301 w.heap.size 2 ?qqh301 (.int .i64 next) Tryz.rBase_int (O1.out.cell 2 _ rfl) ?_); (case qqg301 => rfl); (case qqo301 => rfl); (case qqh301 => simp [Act.eval, Act.put]))
      )
    refine (HK2.out (by first | rfl | trivial) _ B1.out).mono ?_
    rintro e w2 ⟨rfl, hb2⟩
    have O2 := uhide (O1.out.below hb2)
    have B2 : Hid (Below w.heap.size w w2) := B1.out.trans (hb2.mono B1.out.size)
    clear hb2
    go_wp2_with (first
      | ((with_reducible refine wpList_load_rowG ?qqg331 69 ?qqx331 ?qqo331 w.heap.size 0 ?qqh331 [.slice a0 n0 cp0, .int .i64 rev, .int .i64 next, .slice a3 n cp3] Tryz.rBase_impl_Base ZB.out (RG.out _ O2.out) ?_); (case qqg331 => rfl); (case qqo331 => rfl); (case qqh331 => simp [Act.eval, Act.put]))
      )
    refine (HK3.out (by first | rfl | trivial) _ B2.out).mono ?_
    rintro e w3 ⟨rfl, hb3⟩
    have O3 := uhide (O2.out.below hb3)
    have B3 : Hid (Below w.heap.size w w3) := B2.out.trans (hb3.mono B2.out.size)
    clear hb3
    go_wp2
    go_ret
    exact ⟨ret_bool (by simp [H40.out]), B3.out⟩
  | true =>
  go_enter Tryz.func93, Tryz.ntmps93
  go_wp2_with (first
    | ((with_reducible refine wpList_load_oneG ?qqg359 3 ?qqx359 ?qqo359 w.heap.size 1 ?qqh359 (.int .i64 rev) Tryz.rBase_int (OA.out.cell 1 _ rfl) ?_); (case qqg359 => rfl); (case qqo359 => rfl); (case qqh359 => simp [Act.eval, Act.put]))
    | ((with_reducible refine wpList_load_oneG ?qqg361 67 ?qqx361 ?qqo361 w.heap.size 3 ?qqh361 (.slice a3 n cp3) Tryz.rBase_Limpl_Change (OA.out.cell 3 _ rfl) ?_); (case qqg361 => rfl); (case qqo361 => rfl); (case qqh361 => simp [Act.eval, Act.put]))
    )
  refine (HK0.out _ BA.out).mono ?_
  rintro e w0 ⟨rfl, hb0⟩
  have O0 := uhide (OA.out.below hb0)
  have B0 : Hid (Below w.heap.size w w0) := BA.out.trans (hb0.mono BA.out.size)
  clear hb0
  go_wp2_with (first
    | ((with_reducible refine wpList_load_oneG ?qqg380 3 ?qqx380 ?qqo380 w.heap.size 2 ?qqh380 (.int .i64 next) Tryz.rBase_int (O0.out.cell 2 _ rfl) ?_); (case qqg380 => rfl); (case qqo380 => rfl); (case qqh380 => simp [Act.eval, Act.put]))
    )
  refine (HK1.out _ B0.out).mono ?_
  rintro e w1 ⟨rfl, hb1⟩
  have O1 := uhide (O0.out.below hb1)
  have B1 : Hid (Below w.heap.size w w1) := B0.out.trans (hb1.mono B0.out.size)
  clear hb1
  go_wp2_with (first
    | ((with_reducible refine wpList_load_oneG ?qqg398 63 ?qqx398 ?qqo398 w.heap.size 0 ?qqh398 (.slice a0 n0 cp0) Tryz.rBase_Limpl_Obj (O1.out.cell 0 _ rfl) ?_); (case qqg398 => rfl); (case qqo398 => rfl); (case qqh398 => simp [Act.eval, Act.put]))
    | ((with_reducible refine wpList_load_oneG ?qqg399 3 ?qqx399 ?qqo399 w.heap.size 1 ?qqh399 (.int .i64 rev) Tryz.rBase_int (O1.out.cell 1 _ rfl) ?_); (case qqg399 => rfl); (case qqo399 => rfl); (case qqh399 => simp [Act.eval, Act.put]))
    | ((with_reducible refine wpList_load_oneG ?qqg400 3 ?qqx400 ?qqo400 w.heap.size 2 ?qqh400 (.int .i64 next) Tryz.rBase_int (O1.out.cell 2 _ rfl) ?_); (case qqg400 => rfl); (case qqo400 => rfl); (case qqh400 => simp [Act.eval, Act.put]))
    )
  refine (HK2.out (by first | rfl | trivial) _ B1.out).mono ?_
  rintro e w2 ⟨rfl, hb2⟩
  have O2 := uhide (O1.out.below hb2)
  have B2 : Hid (Below w.heap.size w w2) := B1.out.trans (hb2.mono B1.out.size)
  clear hb2
  go_wp2_with (first
    | ((with_reducible refine wpList_load_rowG ?qqg430 69 ?qqx430 ?qqo430 w.heap.size 0 ?qqh430 [.slice a0 n0 cp0, .int .i64 rev, .int .i64 next, .slice a3 n cp3] Tryz.rBase_impl_Base ZB.out (RG.out _ O2.out) ?_); (case qqg430 => rfl); (case qqo430 => rfl); (case qqh430 => simp [Act.eval, Act.put]))
    )
  refine (HK3.out (by first | rfl | trivial) _ B2.out).mono ?_
  rintro e w3 ⟨rfl, hb3⟩
  have O3 := uhide (O2.out.below hb3)
  have B3 : Hid (Below w.heap.size w w3) := B2.out.trans (hb3.mono B2.out.size)
  clear hb3
  go_wp2
  go_ret
  exact ⟨ret_bool (by simp [H40.out]), B3.out⟩
end Go.Proofs.YtdnodaoeflbfkaaGreat
/- What a base lists, both sides. -/
namespace Go.Proofs.YtdnodaoeflbfkaaGreat
open Go.RowKit Go.BigFrame
set_option linter.unusedVariables false

noncomputable def listU (n0 : Nat) (c0 : UD) (rev next : Int) (n3 : Nat) (c3 : UD) : UD := if baseB n0 c0 rev next n3 c3 = true then .p (.int .i64 rev) (.l 17 n0 c0 .nil) else .p (.int .i64 0) (.l 17 0 .nil .nil)
set_option maxRecDepth 40000 in
set_option maxHeartbeats 3200000 in
theorem sList_N {lo hi : Nat} (n0 : Nat) (c0 : UD) (rev next : Int) (n3 : Nat) (c3 : UD) (xs : List Value) (w : World) (g0 : tyS 17 n0 c0 8) (g3 : tyS 19 n3 c3 9) (hwt : n0 + wt c0 ≤ 1048576) (hx : uH w lo hi (.l 17 n0 c0 (.p (.int .i64 rev) (.p (.int .i64 next) (.l 19 n3 c3 .nil)))) xs) :
    Calls Tryz.prog 34 #[.agg xs.toArray] w fun e w' => copied w w' (listU n0 c0 rev next n3 c3) e := by
  obtain ⟨v0, _, rfl, s0, ⟨_, rfl, ⟨_, rfl, ⟨v3, _, rfl, s3, rfl⟩⟩⟩⟩ := hx
  have S0' := uhide s0
  have S3' := uhide s3
  obtain ⟨a0, p0, rfl, -⟩ := uS.slice_of6 s0
  obtain ⟨a3, p3, rfl, -⟩ := uS.slice_of6 s3
  obtain ⟨k, hk⟩ : ∃ k, k = baseB n0 c0 rev next n3 c3 := ⟨_, rfl⟩
  have HK : Hid (∀ wx, Below w.heap.size w wx → Calls Tryz.prog 89 #[.agg #[.slice a0 n0 p0, .int .i64 rev, .int .i64 next, .slice a3 n3 p3]] wx fun e w' => e = .returned (.bool k) ∧ Hid (Below wx.heap.size wx w')) := fun wx hb => hk ▸ sBaseOk_of n0 c0 rev next n3 c3 _ _ wx g0 g3 (S0'.out.below hb) (S3'.out.below hb)
  have HC : Hid (∀ wx, Below w.heap.size w wx → Calls Tryz.prog 90 #[.slice a0 n0 p0] wx fun e w' => ∃ v p S, e = .returned (.slice v n0 p) ∧ Hid (oS w' 17 n0 c0 (.slice v n0 p) S) ∧ Hid (own2 S wx.heap.size w'.heap.size) ∧ Hid (Below wx.heap.size wx w')) := fun wx hb => (l7CopyObjs_N (lo := lo) (hi := hi) n0 c0 _ wx g0 hwt (S0'.out.below hb)).mono fun e w' ⟨c, S, h1, h2, h3, h4⟩ => by
    obtain ⟨v, p, rfl⟩ := h2.slice
    exact ⟨v, p, S, h1, h2, h3, h4⟩
  have BX : Hid (Below w.heap.size w ((w.alloc (.cells #[.slice a0 n0 p0, .int .i64 rev, .int .i64 next, .slice a3 n3 p3] 69)).alloc (.cells #[.int .i64 0, .slice none 0 0] 65))) := ((Below.refl _ _).alloc (Nat.le_refl _) _).alloc (by simp) _
  have OX : Hid (objU ((w.alloc (.cells #[.slice a0 n0 p0, .int .i64 rev, .int .i64 next, .slice a3 n3 p3] 69)).alloc (.cells #[.int .i64 0, .slice none 0 0] 65)) w.heap.size 69 [.slice a0 n0 p0, .int .i64 rev, .int .i64 next, .slice a3 n3 p3]) := (objU.new _ _ _).old _
  have OZ : Hid (objU ((w.alloc (.cells #[.slice a0 n0 p0, .int .i64 rev, .int .i64 next, .slice a3 n3 p3] 69)).alloc (.cells #[.int .i64 0, .slice none 0 0] 65)) (w.heap.size + 1) 65 [.int .i64 0, .slice none 0 0]) := objU.new2 _ _ (by simp)
  have SZ : Hid (w.heap.size + 2 ≤ ((w.alloc (.cells #[.slice a0 n0 p0, .int .i64 rev, .int .i64 next, .slice a3 n3 p3] 69)).alloc (.cells #[.int .i64 0, .slice none 0 0] 65)).heap.size) := by show _ ≤ _; simp
  have HL := uhide hk
  clear hk g0 g3 hwt s0 s3 S0' S3'
  cases k with
  | false =>
    have hl : listU n0 c0 rev next n3 c3 = .p (.int .i64 0) (.l 17 0 .nil .nil) := by unfold listU; rw [← HL.out]; rfl
    rw [hl]
    clear HC HL hl
    go_enter Tryz.func34, Tryz.ntmps34
    go_wp2_with fail
    refine (HK.out _ BX.out).mono ?_
    rintro e w2 ⟨rfl, hb⟩
    have OZ2 := uhide (OZ.out.below hb.out)
    have B2 : Hid (Below w.heap.size w w2) := BX.out.trans (hb.out.mono BX.out.size)
    have z0c := OZ2.out.cell 0 _ rfl
    have z1c := OZ2.out.cell 1 _ rfl
    have g0 := OZ2.out.fz 0
    have g1 := OZ2.out.fz 1
    clear HK OX OZ BX SZ hb
    go_wp2
    have HO : Hid (OutS [w.heap.size + 1] w2 ((w2.setCell ⟨w.heap.size + 1, 0, none⟩ (.int .i64 0)).setCell ⟨w.heap.size + 1, 1, none⟩ (.slice none 0 0))) := by
      show OutS _ _ _
      repeat (first | with_reducible exact OutS.refl _ _ | with_reducible refine OutS.setCell ?_ (show _ ∈ [w.heap.size + 1] by simp) _)
    refine bodyPost_ret (v := .agg #[.int .i64 0, .slice none 0 0]) ?_ rfl (copied.mk' (S := [] ++ []) (ys := [.int .i64 0, .slice none 0 0]) ?_ ?_ ?_)
    · simp [results, Tryz.results34, go_sem, z0c, z1c]
    · exact oH.consP _ (oH.consS ⟨by decide, 138, [], [], World.ownsRow_nil _ _ _ _, ⟨rfl, rfl⟩, rfl⟩ (oH.nil _))
    · exact own2.nil _ _
    · exact B2.out.trans (HO.out.below (fun t ht => by simp at ht; omega) B2.out.size)
  | true =>
    have hl : listU n0 c0 rev next n3 c3 = .p (.int .i64 rev) (.l 17 n0 c0 .nil) := by unfold listU; rw [← HL.out]; rfl
    rw [hl]
    clear HL hl
    go_enter Tryz.func34, Tryz.ntmps34
    go_wp2_with fail
    refine (HK.out _ BX.out).mono ?_
    rintro e w2 ⟨rfl, hb⟩
    have OX2 := uhide (OX.out.below hb.out)
    have OZ2 := uhide (OZ.out.below hb.out)
    have B2 : Hid (Below w.heap.size w w2) := BX.out.trans (hb.out.mono BX.out.size)
    have SZ2 : Hid (w.heap.size + 2 ≤ w2.heap.size) := Nat.le_trans SZ.out hb.out.size
    clear HK OX OZ BX SZ hb
    go_wp2_with fail
    refine wp_region_held_drew (S := fun w' => w'.cell? ⟨w.heap.size, 1, none⟩ = some (.int .i64 rev) ∧ w'.cell? ⟨w.heap.size, 0, none⟩ = some (.slice a0 n0 p0)) (by kernel_rfl) ⟨cellB (OX2.out.cell 1 _ rfl) (Below.drew (Below.refl _ _)), cellB (OX2.out.cell 0 _ rfl) (Below.drew (Below.refl _ _))⟩ (fun hHeld => ?_)
    refine wpAnyH_take (i := 0) (oi := ⟨some 7, .fieldAddr _ (.tmp 1) 1, _, _, _, _⟩) (v := .pointer (some ⟨w.heap.size, 1, none⟩)) rfl (by kernel_rfl) (by kernel_rfl) (by kernel_rfl) (fun _ _ _ h => h) (Or.inl ⟨by rfl, by intro w hSw; go_simp⟩) hHeld ?_
    simp only [Act.put, List.setIfInBounds_toArray, List.set_cons_zero, List.set_cons_succ]
    refine wpAnyH_take (i := 1) (oi := ⟨some 8, .load _ (.tmp 7), _, _, _, _⟩) (v := .int .i64 rev) rfl (by kernel_rfl) (by kernel_rfl) (by kernel_rfl) (fun _ _ _ h => h) (yields_cell (by rfl) _ _ rfl w.heap.size 1 rfl _ (fun w hS => hS.1) (by kernel_rfl)) hHeld ?_
    simp only [Act.put, List.setIfInBounds_toArray, List.set_cons_zero, List.set_cons_succ]
    refine wpAnyH_take (i := 2) (oi := ⟨some 9, .fieldAddr _ (.tmp 1) 0, _, _, _, _⟩) (v := .pointer (some ⟨w.heap.size, 0, none⟩)) rfl (by kernel_rfl) (by kernel_rfl) (by kernel_rfl) (fun _ _ _ h => h) (Or.inl ⟨by rfl, by intro w hSw; go_simp⟩) hHeld ?_
    simp only [Act.put, List.setIfInBounds_toArray, List.set_cons_zero, List.set_cons_succ]
    refine wpAnyH_take (i := 3) (oi := ⟨some 10, .load _ (.tmp 9), _, _, _, _⟩) (v := .slice a0 n0 p0) rfl (by kernel_rfl) (by kernel_rfl) (by kernel_rfl) (fun _ _ _ h => h) (yields_cell (by rfl) _ _ rfl w.heap.size 0 rfl _ (fun w hS => hS.2) (by kernel_rfl)) hHeld ?_
    simp only [Act.put, List.setIfInBounds_toArray, List.set_cons_zero, List.set_cons_succ]
    refine wpAnyH_ready (rs := [4]) (by kernel_rfl) (by simp) (AllReadyH.cons (o := ⟨some 11, .call { callee := .value (.func 90), args := #[.tmp 10], argTypes := #[63] }, _, _, _, _⟩) rfl (fun K hK => ?_) AllReadyH.nil)
    refine step_call_of rfl 90 #[.tmp 10] #[63] rfl (callFunc_enter Tryz.func90 (by kernel_rfl) (by kernel_rfl)) #[.slice a0 n0 p0] (by simp [Act.eval]) (HC.out w2.drew (B2.out.trans (Below.drew (Below.refl w2.heap.size w2) |>.mono B2.out.size))) ?_
    rintro e w3 ⟨v, p, S, rfl, hc, hS, hb3d⟩
    have hb3 : Hid (Below w2.heap.size w2 w3) := (Below.drew (Below.refl w2.heap.size w2)).trans (hb3d.out.mono (Below.drew (Below.refl w2.heap.size w2)).size)
    refine ⟨.slice v n0 p, rfl, hK.out _ _ ⟨cellB (OX2.out.cell 1 _ rfl) hb3.out, cellB (OX2.out.cell 0 _ rfl) hb3.out⟩ (fun hHeld => ?_)⟩
    clear hK K
    simp only [Act.put, List.setIfInBounds_toArray, List.set_cons_zero, List.set_cons_succ]
    refine wpAnyH_take (i := 5) (oi := ⟨some 12, .build _ #[(0, .tmp 8), (1, .tmp 11)], _, _, _, _⟩) (v := .agg #[.int .i64 rev, .slice v n0 p]) rfl (by kernel_rfl) (by kernel_rfl) (by kernel_rfl) (fun _ _ _ h => h) (Or.inl ⟨by rfl, by intro w hSw; go_simp⟩) hHeld ?_
    simp only [Act.put, List.setIfInBounds_toArray, List.set_cons_zero, List.set_cons_succ]
    have OZ3 := uhide (OZ2.out.below hb3.out)
    have B3 : Hid (Below w.heap.size w w3) := B2.out.trans (hb3.out.mono B2.out.size)
    have z0c := OZ3.out.cell 0 _ rfl
    have z1c := OZ3.out.cell 1 _ rfl
    have g0 := OZ3.out.fz 0
    have g1 := OZ3.out.fz 1
    refine wpAnyH_ready (rs := [6]) (by kernel_rfl) (by simp) (AllReadyH.cons (o := ⟨none, .store _ (.tmp 2) (.tmp 12), _, _, _, _⟩) rfl (fun K hK => ?_) AllReadyH.nil)
    refine step_store_cells (by rfl) _ _ _ rfl rfl (w.heap.size + 1) 0 rfl (.agg #[.int .i64 rev, .slice v n0 p]) rfl [.int .i64 rev, .slice v n0 p] rfl (by simp [Value.oneCell']) (by kernel_rfl) (OZ3.out.there 0 2 (by decide)) ?_
    intro w4 e4
    have HO : Hid (OutS [w.heap.size + 1] w3 w4) := by subst e4; exact OutS.setCells _ 0 w3
    have OR : Hid (objU w4 (w.heap.size + 1) 65 [.int .i64 rev, .slice v n0 p]) := by
      have h := objU.setCells [Value.int .i64 rev, .slice v n0 p] [Value.int .i64 0, .slice none 0 0] [] [] w3 (by simpa using OZ3.out) rfl
      subst e4; exact uhide (by simpa using h)
    clear e4
    refine hK.out _ _ ⟨(cellB (OX2.out.cell 1 _ rfl) hb3.out |> fun h => (HO.out.cell (p := ⟨w.heap.size, 1, none⟩) (World.block_lt_of_cell? _ _ h) (by simp)).trans h), (cellB (OX2.out.cell 0 _ rfl) hb3.out |> fun h => (HO.out.cell (p := ⟨w.heap.size, 0, none⟩) (World.block_lt_of_cell? _ _ h) (by simp)).trans h)⟩ (fun hHeld => ?_)
    clear hK K
    simp only [Act.put]
    refine wpAnyH_done (by kernel_rfl) ?_ _
    clear hHeld
    have r0 := OR.out.cell 0 _ rfl
    have r1 := OR.out.cell 1 _ rfl
    go_wp2
    refine bodyPost_ret (v := .agg #[.int .i64 rev, .slice v n0 p]) ?_ rfl (copied.mk' (S := S ++ []) (ys := [.int .i64 rev, .slice v n0 p]) ?_ ?_ ?_)
    · simp [results, Tryz.results34, go_sem, r0, r1]
    · exact oH.consP _ (oH.consS (hc.out.frame (fun g hg => HO.out.block g (hc.out.lt g hg) (by have := hS.out.2 g hg; have := SZ2.out; have := (Below.drew (Below.refl w2.heap.size w2)).size; simp; omega))) (oH.nil _))
    · rw [List.append_nil]; exact ⟨hS.out.1, fun s hs => by have := hS.out.2 s hs; have := SZ2.out; have := (Below.drew (Below.refl w2.heap.size w2)).size; have := HO.out.size; omega⟩
    · exact B3.out.trans (HO.out.below (fun t ht => by simp at ht; omega) B3.out.size)
set_option maxRecDepth 40000 in
set_option maxHeartbeats 3200000 in
theorem iList_N {lo hi : Nat} (n0 : Nat) (c0 : UD) (rev next : Int) (n3 : Nat) (c3 : UD) (xs : List Value) (S0 : List Nat) (w : World) (g0 : tyS 17 n0 c0 8) (g3 : tyS 19 n3 c3 9) (hwt : n0 + wt c0 ≤ 1048576) (hx : oH w (.l 17 n0 c0 (.p (.int .i64 rev) (.p (.int .i64 next) (.l 19 n3 c3 .nil)))) xs S0) (hS : S0.Nodup) :
    Calls Tryz.prog 36 #[.agg xs.toArray] w fun e w' => copied w w' (listU n0 c0 rev next n3 c3) e := by
  have hu := hx.hand (lo := 0) (hi := w.heap.size) (fun g hg => ⟨Nat.zero_le _, hx.lt _ _ _ g hg⟩)
  obtain ⟨v0, _, S1, S2, rfl, rfl, hk0, ⟨e0, zs0, o0, m0⟩, ⟨_, rfl, ⟨_, rfl, ⟨v3, _, _, _, rfl, rfl, _, _, ⟨rfl, rfl⟩⟩⟩⟩⟩ := hx
  have hS1 : (blkOf v0 ++ S1).Nodup := (List.nodup_append.1 hS).1
  have oS0 : oS w 17 n0 c0 v0 (blkOf v0 ++ S1) := ⟨hk0, e0, zs0, S1, o0, m0, rfl⟩
  obtain ⟨v0', _, h1, s0, ⟨_, h2, ⟨_, h3, ⟨v3', _, h4, s3, h5⟩⟩⟩⟩ := hu
  cases h1
  cases h2
  cases h3
  cases h4
  clear h5 o0 m0 hS
  have S0' := uhide s0
  have S3' := uhide s3
  obtain ⟨a0, p0, rfl, -⟩ := uS.slice_of6 s0
  obtain ⟨a3, p3, rfl, -⟩ := uS.slice_of6 s3
  obtain ⟨k, hk⟩ : ∃ k, k = baseB n0 c0 rev next n3 c3 := ⟨_, rfl⟩
  have HK : Hid (∀ wx, Below w.heap.size w wx → Calls Tryz.prog 93 #[.agg #[.slice a0 n0 p0, .int .i64 rev, .int .i64 next, .slice a3 n3 p3]] wx fun e w' => e = .returned (.bool k) ∧ Hid (Below wx.heap.size wx w')) := fun wx hb => hk ▸ iBaseOk_of n0 c0 rev next n3 c3 _ _ wx g0 g3 (S0'.out.below hb) (S3'.out.below hb)
  have HC : Hid (∀ wx, Below w.heap.size w wx → Calls Tryz.prog 94 #[.agg #[.int .i64 rev, .slice a0 n0 p0]] wx fun e w' => ∃ v p S, e = .returned (.agg #[.int .i64 rev, .slice v n0 p]) ∧ Hid (oH w' (.p (.int .i64 rev) (.l 17 n0 c0 .nil)) [.int .i64 rev, .slice v n0 p] S) ∧ Hid (own2 S wx.heap.size w'.heap.size) ∧ Hid (Below wx.heap.size wx w')) := fun wx hb => (copyOfMirror_N rev n0 c0 _ _ wx g0 hwt (oS0.below hb) hS1).mono fun e w' ⟨ys, S, h1, h2, h3, h4⟩ => by
    have h2' := h2
    obtain ⟨_, rfl, ⟨c, _, T1, T2, rfl, rfl, _, ⟨t, zs, q1, q2⟩, ⟨rfl, rfl⟩⟩⟩ := h2
    obtain ⟨v, p, rfl⟩ := uowns_slice q1
    exact ⟨v, p, _, h1, h2', h3, h4⟩
  have BX : Hid (Below w.heap.size w ((w.alloc (.cells #[.slice a0 n0 p0, .int .i64 rev, .int .i64 next, .slice a3 n3 p3] 69)).alloc (.cells #[.int .i64 0, .slice none 0 0] 65))) := ((Below.refl _ _).alloc (Nat.le_refl _) _).alloc (by simp) _
  have OX : Hid (objU ((w.alloc (.cells #[.slice a0 n0 p0, .int .i64 rev, .int .i64 next, .slice a3 n3 p3] 69)).alloc (.cells #[.int .i64 0, .slice none 0 0] 65)) w.heap.size 69 [.slice a0 n0 p0, .int .i64 rev, .int .i64 next, .slice a3 n3 p3]) := (objU.new _ _ _).old _
  have OZ : Hid (objU ((w.alloc (.cells #[.slice a0 n0 p0, .int .i64 rev, .int .i64 next, .slice a3 n3 p3] 69)).alloc (.cells #[.int .i64 0, .slice none 0 0] 65)) (w.heap.size + 1) 65 [.int .i64 0, .slice none 0 0]) := objU.new2 _ _ (by simp)
  have SZ : Hid (w.heap.size + 2 ≤ ((w.alloc (.cells #[.slice a0 n0 p0, .int .i64 rev, .int .i64 next, .slice a3 n3 p3] 69)).alloc (.cells #[.int .i64 0, .slice none 0 0] 65)).heap.size) := by show _ ≤ _; simp
  have HL := uhide hk
  clear hk g0 g3 hwt s0 s3 S0' S3' oS0 hS1
  cases k with
  | false =>
    have hl : listU n0 c0 rev next n3 c3 = .p (.int .i64 0) (.l 17 0 .nil .nil) := by unfold listU; rw [← HL.out]; rfl
    rw [hl]
    clear HC HL hl
    go_enter Tryz.func36, Tryz.ntmps36
    go_wp2_with fail
    refine (HK.out _ BX.out).mono ?_
    rintro e w2 ⟨rfl, hb⟩
    have OZ2 := uhide (OZ.out.below hb.out)
    have B2 : Hid (Below w.heap.size w w2) := BX.out.trans (hb.out.mono BX.out.size)
    have z0c := OZ2.out.cell 0 _ rfl
    have z1c := OZ2.out.cell 1 _ rfl
    have g0 := OZ2.out.fz 0
    have g1 := OZ2.out.fz 1
    clear HK OX OZ BX SZ hb
    go_wp2
    have HO : Hid (OutS [w.heap.size + 1] w2 ((w2.setCell ⟨w.heap.size + 1, 0, none⟩ (.int .i64 0)).setCell ⟨w.heap.size + 1, 1, none⟩ (.slice none 0 0))) := by
      show OutS _ _ _
      repeat (first | with_reducible exact OutS.refl _ _ | with_reducible refine OutS.setCell ?_ (show _ ∈ [w.heap.size + 1] by simp) _)
    refine bodyPost_ret (v := .agg #[.int .i64 0, .slice none 0 0]) ?_ rfl (copied.mk' (S := [] ++ []) (ys := [.int .i64 0, .slice none 0 0]) ?_ ?_ ?_)
    · simp [results, Tryz.results36, go_sem, z0c, z1c]
    · exact oH.consP _ (oH.consS ⟨by decide, 138, [], [], World.ownsRow_nil _ _ _ _, ⟨rfl, rfl⟩, rfl⟩ (oH.nil _))
    · exact own2.nil _ _
    · exact B2.out.trans (HO.out.below (fun t ht => by simp at ht; omega) B2.out.size)
  | true =>
    have hl : listU n0 c0 rev next n3 c3 = .p (.int .i64 rev) (.l 17 n0 c0 .nil) := by unfold listU; rw [← HL.out]; rfl
    rw [hl]
    clear HL hl
    go_enter Tryz.func36, Tryz.ntmps36
    go_wp2_with fail
    refine (HK.out _ BX.out).mono ?_
    rintro e w2 ⟨rfl, hb⟩
    have OX2 := uhide (OX.out.below hb.out)
    have OZ2 := uhide (OZ.out.below hb.out)
    have B2 : Hid (Below w.heap.size w w2) := BX.out.trans (hb.out.mono BX.out.size)
    have SZ2 : Hid (w.heap.size + 2 ≤ w2.heap.size) := Nat.le_trans SZ.out hb.out.size
    clear HK OX OZ BX SZ hb
    have x0 := OX2.out.cell 0 _ rfl
    have x1 := OX2.out.cell 1 _ rfl
    go_wp2_with fail
    refine (HC.out w2 B2.out).mono ?_
    rintro e w3 ⟨v, p, S, rfl, hc, hS, hb3⟩
    have OZ3 := uhide (OZ2.out.below hb3.out)
    have B3 : Hid (Below w.heap.size w w3) := B2.out.trans (hb3.out.mono B2.out.size)
    have z0c := OZ3.out.cell 0 _ rfl
    have z1c := OZ3.out.cell 1 _ rfl
    have g0 := OZ3.out.fz 0
    have g1 := OZ3.out.fz 1
    clear x0 x1 OX2 OZ2 HC
    go_wp2
    have HO : Hid (OutS [w.heap.size + 1] w3 ((w3.setCell ⟨w.heap.size + 1, 0, none⟩ (.int .i64 rev)).setCell ⟨w.heap.size + 1, 1, none⟩ (.slice v n0 p))) := by
      show OutS _ _ _
      repeat (first | with_reducible exact OutS.refl _ _ | with_reducible refine OutS.setCell ?_ (show _ ∈ [w.heap.size + 1] by simp) _)
    refine bodyPost_ret (v := .agg #[.int .i64 rev, .slice v n0 p]) ?_ rfl (copied.mk' (S := S) (ys := [.int .i64 rev, .slice v n0 p]) ?_ ?_ ?_)
    · simp [results, Tryz.results36, go_sem, z0c, z1c]
    · exact hc.out.outS HO.out (fun g hg => by have := hS.out.2 g hg; have := SZ2.out; simp; omega)
    · exact ⟨hS.out.1, fun s hs => by have := hS.out.2 s hs; have := SZ2.out; have := HO.out.size; omega⟩
    · exact B3.out.trans (HO.out.below (fun t ht => by simp at ht; omega) B3.out.size)
end Go.Proofs.YtdnodaoeflbfkaaGreat
/- Data as cells: the helpers of the laws over Change. -/
namespace Go.Proofs.YtdnodaoeflbfkaaGreat
open Go.RowKit Go.BigFrame
set_option linter.unusedVariables false
set_option linter.unusedSimpArgs false

set_option maxRecDepth 20000 in
set_option maxHeartbeats 1600000 in
theorem uszChange_any {lo hi : Nat} (d : UD) (xs : List Value) (left : Int) (w : World) (ht : tyL d (uE 9)) (hx : uH w lo hi d xs) (h0 : 0 ≤ left) (h1 : left ≤ 1048576) :
    Calls Tryz.prog 166 #[.agg xs.toArray, .int .i64 left] w fun e w' => e = .returned (.int .i64 (leftI left (wt d))) ∧ Below w.heap.size w w' := by
  replace ht : tyL d [.i .i64, .b, .i .i64, .s, .i .i64, .i .i64, .i .i64, .b, .l 1 0, .i .i64, .s, .i .i64, .l 1 0, .l 5 6, .i .i64, .s, .i .i64, .l 1 0, .l 5 6] := ht
  obtain ⟨z0, _, rfl, g0, h0⟩ := tyL.i ht
  obtain ⟨z1, _, rfl, h1⟩ := tyL.b h0
  clear h0
  obtain ⟨d2, _, rfl, g2, h2⟩ := tyL.split (f1 := uE 8) (f2 := []) h1
  clear h1
  obtain rfl := tyL.nil h2
  clear h2
  obtain ⟨_, rfl, h0⟩ := hx
  obtain ⟨_, rfl, h1⟩ := h0
  obtain ⟨y2, _, rfl, l2, s2, h2⟩ := uH.split h1
  replace l2 : y2.length = 17 := l2.trans (tyL.len g2)
  clear h1
  obtain rfl := h2
  obtain ⟨M0, hM0⟩ : ∃ M, M = (wt d2) := ⟨_, rfl⟩
  have HC0 : Hid (∀ (wx : World) (l : Int), Below w.heap.size w wx → 0 ≤ l → l ≤ 1048576 → Calls Tryz.prog 165 #[.agg y2.toArray, .int .i64 l] wx fun e w' => e = .returned (.int .i64 (leftI l M0)) ∧ Below wx.heap.size wx w') := fun wx l hb q0 q1 => hM0 ▸ uszObj_any (lo := lo) (hi := hi) d2 _ l wx g2 (s2.below hb) q0 q1
  have E : Hid (leftI left (wt (UD.p (.int .i64 z0) (UD.p (.bool z1) (UD.app d2 UD.nil)))) = leftI left (M0 + 0)) := by show _ = _; congr 1 <;> (simp only [wt, wtP, wt_app, hM0] <;> omega)
  generalize leftI left (wt (UD.p (.int .i64 z0) (UD.p (.bool z1) (UD.app d2 UD.nil)))) = R at *
  have HA : Hid (∀ o, Below w.heap.size w (w.alloc o)) := fun o => (Below.refl _ _).alloc (Nat.le_refl _) _
  obtain ⟨AX, hAX⟩ : ∃ AX : List Value, AX = (Value.int .i64 z0 :: (Value.bool z1 :: ((y2 ++ [])))) := ⟨_, rfl⟩
  rw [← hAX]
  have hlen : AX.length = 19 := by rw [hAX]; simp [l2]
  have e0 : AX[0]? = some (.int .i64 z0) := at_mid (i := 0) (pre := (([] : List Value))) (ys := [.int .i64 z0]) (post := (Value.bool z1 :: ((y2 ++ [])))) (by rw [hAX]; simp) (by simp) rfl
  have e1 : AX[1]? = some (.bool z1) := at_mid (i := 0) (pre := ([Value.int .i64 z0])) (ys := [.bool z1]) (post := ((y2 ++ []))) (by rw [hAX]; simp) (by simp) rfl
  have e2 : ∀ i v, y2[i]? = some v → AX[2 + i]? = some v := fun i v h => at_mid (pre := ([Value.int .i64 z0, Value.bool z1])) (ys := y2) (post := []) (by rw [hAX]; simp) (by simp) h
  clear hAX
  have E0 := uhide e0
  clear e0
  have E1 := uhide e1
  clear e1
  have YZ2 : Hid ((Tryz.prog.info? 214).map (·.size) = some y2.length) := by show _ = _; rw [l2]; exact Tryz.zChange_laws_Obj
  clear l2
  have E2 := uhide e2
  clear e2
  have OA0 : Hid (objU (w.alloc (.cells AX.toArray 217)) w.heap.size 217 AX) := objU.new2 _ _ rfl
  clear ht g0 g2 s2 hM0
  obtain ⟨y0q, hy0⟩ : ∃ y, y = leftI left M0 := ⟨_, rfl⟩
  have Y0q := uhide hy0
  by_cases k0 : y0q < 0
  · have EN : Hid (R = -1) := by show _ = _; rw [E.out]; exact leftI_neg _ (by omega) (by rw [← hy0]; exact k0)
    clear E hy0
    go_enter Tryz.func166, Tryz.ntmps166
    go_wp2_with (first
    | ((with_reducible refine wpList_load_row2 ?qqg57 214 ?qqx57 ?qqo57 w.heap.size 2 ?qqh57 y2 Tryz.rChange_laws_Obj YZ2.out (OA0.out.range 2 _ E2.out) ?_); (case qqg57 => rfl); (case qqo57 => rfl); (case qqh57 => simp [Act.eval, Act.put]))
    )
    refine (HC0.out _ _ (HA.out _) (by omega) (by omega)).mono ?_
    rintro e w1 ⟨rfl, hb1⟩
    have OA1 := uhide (OA0.out.below hb1)
    have B1 : Hid (Below w.heap.size w w1) := (HA.out _).trans (hb1.mono (by simp))
    clear hb1
    rw [show leftI left M0 = y0q from Y0q.out.symm]
    go_wp2
    go_ret
    exact ⟨ret_intU EN.out.symm, B1.out⟩
  replace E : Hid (R = leftI y0q (0)) := by
    obtain ⟨q1, q2, q3⟩ := leftI_pos (x := left) (a := M0) (0) (by rw [← hy0]; exact k0)
    show _ = _; rw [E.out, q1, ← hy0]
  have u0 : y0q ≤ left := by rw [hy0]; unfold leftI; split <;> omega
  clear hy0
  replace E : Hid (R = y0q) := E.out.trans (leftI_zero (by omega))
  go_enter Tryz.func166, Tryz.ntmps166
  go_wp2_with (first
    | ((with_reducible refine wpList_load_row2 ?qqg76 214 ?qqx76 ?qqo76 w.heap.size 2 ?qqh76 y2 Tryz.rChange_laws_Obj YZ2.out (OA0.out.range 2 _ E2.out) ?_); (case qqg76 => rfl); (case qqo76 => rfl); (case qqh76 => simp [Act.eval, Act.put]))
    )
  refine (HC0.out _ _ (HA.out _) (by omega) (by omega)).mono ?_
  rintro e w1 ⟨rfl, hb1⟩
  have OA1 := uhide (OA0.out.below hb1)
  have B1 : Hid (Below w.heap.size w w1) := (HA.out _).trans (hb1.mono (by simp))
  clear hb1
  rw [show leftI left M0 = y0q from Y0q.out.symm]
  go_wp2
  go_ret
  exact ⟨ret_intU E.out.symm, B1.out⟩
set_option maxRecDepth 20000 in
set_option maxHeartbeats 800000 in
set_option maxRecDepth 20000 in
theorem uszChangeS_any {lo hi : Nat} (n : Nat) (cs : UD) (c : Value) (left : Int) (w : World) (ht : tyS 19 n cs 9) (h0 : 0 ≤ left) (h1 : left ≤ 1048576) (hx : uS w lo hi 19 n cs c) :
    Calls Tryz.prog 88 #[c, .int .i64 left] w fun e w' => e = .returned (.int .i64 (leftI left (n + wt cs))) ∧ Below w.heap.size w w' := by
  obtain ⟨a, cap, rfl, hx2⟩ := hx
  have Hx : Hid (uS w lo hi 19 n cs (.slice a n cap)) := ⟨a, cap, rfl, hx2⟩
  have hmx := ht.2.2.1
  unfold maxLen at hmx
  have Ht := uhide ht
  clear hx2 ht
  by_cases c1 : left - (n : Int) < 0
  · have E : Hid (leftI left (n + wt cs) = -1) := by show _ = _; unfold leftI; rw [if_pos (by omega)]
    go_enter Tryz.func88, Tryz.ntmps88
    go_wp2
    go_ret
    exact ⟨ret_intU E.out.symm, Below.refl _ _⟩
  have E : Hid (leftI left (n + wt cs) = leftI (left - n) (wt (cs.dropN (0 * 19)))) := by
    show _ = _
    obtain ⟨g1, g2, g3⟩ := leftI_pos (x := left) (a := n) (wt cs) (by unfold leftI; split <;> omega)
    rw [g1, g2, Nat.zero_mul, UD.dropN_zero]
  go_enter Tryz.func88, Tryz.ntmps88
  go_wp2
  go_loopw [1, 5] (fun l i wr => ∃ (q : Nat) (x : Int), q ≤ n ∧ i = .int .i64 q ∧ l = .int .i64 x ∧ 0 ≤ x ∧ x ≤ 1048576 ∧ Hid (leftI left (n + wt cs) = leftI x (wt (cs.dropN (q * 19)))) ∧ Below w.heap.size w wr) (fun _ i _ => n - (intOf i).toNat)
  case atStart => exact ⟨0, _, Nat.zero_le _, rfl, rfl, by omega, by omega, E, Below.refl _ _⟩
  case round =>
    obtain ⟨q, x, hq, rfl, rfl, hx0, hx1, Hs, hbw⟩ := hrel
    by_cases hlt : q < n
    · obtain ⟨b, off, rfl, hbb, hm⟩ := (Hx.out.below hbw).cells (by omega)
      have htr := Ht.out.row hlt
      have hr := hm.row 19 q
      have hw : wt (cs.dropN (q * 19)) = wt (rowU cs 19 q) + wt (cs.dropN ((q + 1) * 19)) := by rw [UD.drop_row cs 19 q, wt_app]
      have hsz := uszD_row cs 19 q
      obtain ⟨xs, hh, hcl⟩ := hr.hand
      have Hcon : Hid (∀ wx, Below wr.heap.size wr wx → Calls Tryz.prog 166 #[.agg xs.toArray, .int .i64 x] wx fun e w' => e = .returned (.int .i64 (leftI x (wt (rowU cs 19 q)))) ∧ Below wx.heap.size wx w') := fun wx hb => uszChange_any (lo := lo) (hi := hi) _ _ x wx htr (hh.below hb) hx0 hx1
      have hxl : xs.length = 19 := by rw [hh.len, tyL.len htr]; rfl
      have lld := load_whole (P := Tryz.prog) (t := 217) (k := 19) (ad := ⟨b, off + q * 19, none⟩) (w := wr) Tryz.isAgg217 Tryz.sizeOf217 hxl (fun j v h => by rw [Go.WideShapes.add_plain]; exact hcl j v h)
      clear hcl hr hm htr hsz hh
      generalize xs.toArray = XS at *
      have LLD := uhide lld
      clear lld hxl
      generalize wt (rowU cs 19 q) = m at *
      have hneg0 := fun h => leftI_neg (x := x) (a := m) (wt (cs.dropN ((q + 1) * 19))) hx0 h
      have hpos0 := fun h => leftI_pos (x := x) (a := m) (wt (cs.dropN ((q + 1) * 19))) h
      have hle0 : leftI x m ≤ x := by unfold leftI; split <;> omega
      generalize leftI x m = y at *
      by_cases hneg : y < 0
      · have hr : Hid (leftI left (n + wt cs) = -1) := by show _ = _; rw [Hs.out, hw]; exact hneg0 hneg
        clear hw Hs E hneg0 hpos0
        go_wp2_with (with_reducible refine wpList_load_eq rfl 217 _ rfl ⟨b, off + q * 19, none⟩ (by simp [Act.eval]) (.agg XS) LLD.out ?_)
        refine (Hcon.out _ (by repeat (first | exact Below.refl _ _ | refine Below.alloc ?_ (by simp) _))).mono ?_
        rintro e w1 ⟨rfl, hb⟩
        go_wp2
        go_ret
        exact ⟨ret_intU hr.out.symm, hbw.trans (hb.mono hbw.size)⟩
      · have hr : Hid (leftI left (n + wt cs) = leftI y (wt (cs.dropN ((q + 1) * 19)))) := by
          show _ = _
          rw [Hs.out, hw]; exact (hpos0 hneg).1
        clear hw Hs E hneg0 hpos0
        go_wp2_with (with_reducible refine wpList_load_eq rfl 217 _ rfl ⟨b, off + q * 19, none⟩ (by simp [Act.eval]) (.agg XS) LLD.out ?_)
        refine (Hcon.out _ (by repeat (first | exact Below.refl _ _ | refine Below.alloc ?_ (by simp) _))).mono ?_
        rintro e w1 ⟨rfl, hb⟩
        go_wp2
        go_roundw
        case rel => exact ⟨q + 1, _, by omega, by go_num, rfl, by omega, by omega, hr, hbw.trans (hb.mono hbw.size)⟩
        case measure => simp [intOf]; omega
    · have e : q = n := by omega
      subst e
      have hr : Hid (leftI left (q + wt cs) = x) := by
        show _ = _
        rw [Hs.out, ← Ht.out.2.2.2.1, UD.dropN_all]
        exact leftI_zero hx0
      clear Hs E
      go_wp2
      go_ret
      exact ⟨ret_intU hr.out.symm, hbw⟩
end Go.Proofs.YtdnodaoeflbfkaaGreat
/- Data as cells: the helpers of the laws over Base. -/
namespace Go.Proofs.YtdnodaoeflbfkaaGreat
open Go.RowKit Go.BigFrame
set_option linter.unusedVariables false
set_option linter.unusedSimpArgs false

set_option maxRecDepth 20000 in
set_option maxHeartbeats 1600000 in
theorem uszBase_any {lo hi : Nat} (d : UD) (xs : List Value) (left : Int) (w : World) (ht : tyL d (uE 10)) (hx : uH w lo hi d xs) (h0 : 0 ≤ left) (h1 : left ≤ 1048576) :
    Calls Tryz.prog 33 #[.agg xs.toArray, .int .i64 left] w fun e w' => e = .returned (.int .i64 (leftI left (wt d))) ∧ Below w.heap.size w w' := by
  replace ht : tyL d [.l 17 8, .i .i64, .i .i64, .l 19 9] := ht
  obtain ⟨n0, c0, _, rfl, g0, h0⟩ := tyL.l ht
  obtain ⟨z1, _, rfl, g1, h1⟩ := tyL.i h0
  clear h0
  obtain ⟨z2, _, rfl, g2, h2⟩ := tyL.i h1
  clear h1
  obtain ⟨n3, c3, _, rfl, g3, h3⟩ := tyL.l h2
  clear h2
  obtain rfl := tyL.nil h3
  clear h3
  obtain ⟨v0, _, rfl, s0, h0⟩ := hx
  obtain ⟨_, rfl, h1⟩ := h0
  obtain ⟨_, rfl, h2⟩ := h1
  obtain ⟨v3, _, rfl, s3, h3⟩ := h2
  obtain rfl := h3
  obtain ⟨M0, hM0⟩ : ∃ M, M = (n0 + wt c0) := ⟨_, rfl⟩
  have HC0 : Hid (∀ (wx : World) (l : Int), Below w.heap.size w wx → 0 ≤ l → l ≤ 1048576 → Calls Tryz.prog 87 #[v0, .int .i64 l] wx fun e w' => e = .returned (.int .i64 (leftI l M0)) ∧ Below wx.heap.size wx w') := fun wx l hb q0 q1 => hM0 ▸ uszObjS_any (lo := lo) (hi := hi) n0 c0 _ l wx g0 q0 q1 (s0.below hb)
  obtain ⟨M1, hM1⟩ : ∃ M, M = (n3 + wt c3) := ⟨_, rfl⟩
  have HC1 : Hid (∀ (wx : World) (l : Int), Below w.heap.size w wx → 0 ≤ l → l ≤ 1048576 → Calls Tryz.prog 88 #[v3, .int .i64 l] wx fun e w' => e = .returned (.int .i64 (leftI l M1)) ∧ Below wx.heap.size wx w') := fun wx l hb q0 q1 => hM1 ▸ uszChangeS_any (lo := lo) (hi := hi) n3 c3 _ l wx g3 q0 q1 (s3.below hb)
  have E : Hid (leftI left (wt (UD.l 17 n0 c0 (UD.p (.int .i64 z1) (UD.p (.int .i64 z2) (UD.l 19 n3 c3 UD.nil))))) = leftI left (M0 + (M1 + 0))) := by show _ = _; congr 1 <;> (simp only [wt, wtP, hM0, hM1] <;> omega)
  generalize leftI left (wt (UD.l 17 n0 c0 (UD.p (.int .i64 z1) (UD.p (.int .i64 z2) (UD.l 19 n3 c3 UD.nil))))) = R at *
  have HA : Hid (∀ o, Below w.heap.size w (w.alloc o)) := fun o => (Below.refl _ _).alloc (Nat.le_refl _) _
  obtain ⟨AX, hAX⟩ : ∃ AX : List Value, AX = (v0 :: (Value.int .i64 z1 :: (Value.int .i64 z2 :: (v3 :: [])))) := ⟨_, rfl⟩
  rw [← hAX]
  have hlen : AX.length = 4 := by rw [hAX]; simp
  have e0 : AX[0]? = some (v0) := at_mid (i := 0) (pre := (([] : List Value))) (ys := [v0]) (post := (Value.int .i64 z1 :: (Value.int .i64 z2 :: (v3 :: [])))) (by rw [hAX]; simp) (by simp) rfl
  have e1 : AX[1]? = some (.int .i64 z1) := at_mid (i := 0) (pre := ([v0])) (ys := [.int .i64 z1]) (post := (Value.int .i64 z2 :: (v3 :: []))) (by rw [hAX]; simp) (by simp) rfl
  have e2 : AX[2]? = some (.int .i64 z2) := at_mid (i := 0) (pre := ([v0, Value.int .i64 z1])) (ys := [.int .i64 z2]) (post := (v3 :: [])) (by rw [hAX]; simp) (by simp) rfl
  have e3 : AX[3]? = some (v3) := at_mid (i := 0) (pre := ([v0, Value.int .i64 z1, Value.int .i64 z2])) (ys := [v3]) (post := []) (by rw [hAX]; simp) (by simp) rfl
  clear hAX
  have E0 := uhide e0
  clear e0
  have E1 := uhide e1
  clear e1
  have E2 := uhide e2
  clear e2
  have E3 := uhide e3
  clear e3
  have OA0 : Hid (objU (w.alloc (.cells AX.toArray 61)) w.heap.size 61 AX) := objU.new2 _ _ rfl
  clear ht g0 s0 g1 g2 g3 s3 hM0 hM1
  obtain ⟨y0q, hy0⟩ : ∃ y, y = leftI left M0 := ⟨_, rfl⟩
  have Y0q := uhide hy0
  by_cases k0 : y0q < 0
  · have EN : Hid (R = -1) := by show _ = _; rw [E.out]; exact leftI_neg _ (by omega) (by rw [← hy0]; exact k0)
    clear E hy0
    go_enter Tryz.func33, Tryz.ntmps33
    go_wp2_with (first
    | ((with_reducible refine wpList_load_one ?qqg62 58 ?qqx62 ?qqo62 w.heap.size 0 ?qqh62 (v0) Tryz.rBase_Llaws_Obj (OA0.out.cell 0 _ E0.out) ?_); (case qqg62 => rfl); (case qqo62 => rfl); (case qqh62 => simp [Act.eval, Act.put]))
    | ((with_reducible refine wpList_load_one ?qqg63 59 ?qqx63 ?qqo63 w.heap.size 3 ?qqh63 (v3) Tryz.rBase_Llaws_Change (OA0.out.cell 3 _ E3.out) ?_); (case qqg63 => rfl); (case qqo63 => rfl); (case qqh63 => simp [Act.eval, Act.put]))
    )
    refine (HC0.out _ _ (HA.out _) (by omega) (by omega)).mono ?_
    rintro e w1 ⟨rfl, hb1⟩
    have OA1 := uhide (OA0.out.below hb1)
    have B1 : Hid (Below w.heap.size w w1) := (HA.out _).trans (hb1.mono (by simp))
    clear hb1
    rw [show leftI left M0 = y0q from Y0q.out.symm]
    go_wp2
    go_ret
    exact ⟨ret_intU EN.out.symm, B1.out⟩
  replace E : Hid (R = leftI y0q (M1 + 0)) := by
    obtain ⟨q1, q2, q3⟩ := leftI_pos (x := left) (a := M0) (M1 + 0) (by rw [← hy0]; exact k0)
    show _ = _; rw [E.out, q1, ← hy0]
  have u0 : y0q ≤ left := by rw [hy0]; unfold leftI; split <;> omega
  clear hy0
  obtain ⟨y1q, hy1⟩ : ∃ y, y = leftI y0q M1 := ⟨_, rfl⟩
  have Y1q := uhide hy1
  by_cases k1 : y1q < 0
  · have EN : Hid (R = -1) := by show _ = _; rw [E.out]; exact leftI_neg _ (by omega) (by rw [← hy1]; exact k1)
    clear E hy1
    go_enter Tryz.func33, Tryz.ntmps33
    go_wp2_with (first
    | ((with_reducible refine wpList_load_one ?qqg86 58 ?qqx86 ?qqo86 w.heap.size 0 ?qqh86 (v0) Tryz.rBase_Llaws_Obj (OA0.out.cell 0 _ E0.out) ?_); (case qqg86 => rfl); (case qqo86 => rfl); (case qqh86 => simp [Act.eval, Act.put]))
    | ((with_reducible refine wpList_load_one ?qqg87 59 ?qqx87 ?qqo87 w.heap.size 3 ?qqh87 (v3) Tryz.rBase_Llaws_Change (OA0.out.cell 3 _ E3.out) ?_); (case qqg87 => rfl); (case qqo87 => rfl); (case qqh87 => simp [Act.eval, Act.put]))
    )
    refine (HC0.out _ _ (HA.out _) (by omega) (by omega)).mono ?_
    rintro e w1 ⟨rfl, hb1⟩
    have OA1 := uhide (OA0.out.below hb1)
    have B1 : Hid (Below w.heap.size w w1) := (HA.out _).trans (hb1.mono (by simp))
    clear hb1
    rw [show leftI left M0 = y0q from Y0q.out.symm]
    go_wp2_with (first
    | ((with_reducible refine wpList_load_one ?qqg96 58 ?qqx96 ?qqo96 w.heap.size 0 ?qqh96 (v0) Tryz.rBase_Llaws_Obj (OA1.out.cell 0 _ E0.out) ?_); (case qqg96 => rfl); (case qqo96 => rfl); (case qqh96 => simp [Act.eval, Act.put]))
    | ((with_reducible refine wpList_load_one ?qqg97 59 ?qqx97 ?qqo97 w.heap.size 3 ?qqh97 (v3) Tryz.rBase_Llaws_Change (OA1.out.cell 3 _ E3.out) ?_); (case qqg97 => rfl); (case qqo97 => rfl); (case qqh97 => simp [Act.eval, Act.put]))
    )
    refine (HC1.out _ _ B1.out (by omega) (by omega)).mono ?_
    rintro e w2 ⟨rfl, hb2⟩
    have OA2 := uhide (OA1.out.below hb2)
    have B2 : Hid (Below w.heap.size w w2) := B1.out.trans (hb2.mono B1.out.size)
    clear hb2
    rw [show leftI y0q M1 = y1q from Y1q.out.symm]
    go_wp2
    go_ret
    exact ⟨ret_intU EN.out.symm, B2.out⟩
  replace E : Hid (R = leftI y1q (0)) := by
    obtain ⟨q1, q2, q3⟩ := leftI_pos (x := y0q) (a := M1) (0) (by rw [← hy1]; exact k1)
    show _ = _; rw [E.out, q1, ← hy1]
  have u1 : y1q ≤ y0q := by rw [hy1]; unfold leftI; split <;> omega
  clear hy1
  replace E : Hid (R = y1q) := E.out.trans (leftI_zero (by omega))
  go_enter Tryz.func33, Tryz.ntmps33
  go_wp2_with (first
    | ((with_reducible refine wpList_load_one ?qqg116 58 ?qqx116 ?qqo116 w.heap.size 0 ?qqh116 (v0) Tryz.rBase_Llaws_Obj (OA0.out.cell 0 _ E0.out) ?_); (case qqg116 => rfl); (case qqo116 => rfl); (case qqh116 => simp [Act.eval, Act.put]))
    | ((with_reducible refine wpList_load_one ?qqg117 59 ?qqx117 ?qqo117 w.heap.size 3 ?qqh117 (v3) Tryz.rBase_Llaws_Change (OA0.out.cell 3 _ E3.out) ?_); (case qqg117 => rfl); (case qqo117 => rfl); (case qqh117 => simp [Act.eval, Act.put]))
    )
  refine (HC0.out _ _ (HA.out _) (by omega) (by omega)).mono ?_
  rintro e w1 ⟨rfl, hb1⟩
  have OA1 := uhide (OA0.out.below hb1)
  have B1 : Hid (Below w.heap.size w w1) := (HA.out _).trans (hb1.mono (by simp))
  clear hb1
  rw [show leftI left M0 = y0q from Y0q.out.symm]
  go_wp2_with (first
    | ((with_reducible refine wpList_load_one ?qqg126 58 ?qqx126 ?qqo126 w.heap.size 0 ?qqh126 (v0) Tryz.rBase_Llaws_Obj (OA1.out.cell 0 _ E0.out) ?_); (case qqg126 => rfl); (case qqo126 => rfl); (case qqh126 => simp [Act.eval, Act.put]))
    | ((with_reducible refine wpList_load_one ?qqg127 59 ?qqx127 ?qqo127 w.heap.size 3 ?qqh127 (v3) Tryz.rBase_Llaws_Change (OA1.out.cell 3 _ E3.out) ?_); (case qqg127 => rfl); (case qqo127 => rfl); (case qqh127 => simp [Act.eval, Act.put]))
    )
  refine (HC1.out _ _ B1.out (by omega) (by omega)).mono ?_
  rintro e w2 ⟨rfl, hb2⟩
  have OA2 := uhide (OA1.out.below hb2)
  have B2 : Hid (Below w.heap.size w w2) := B1.out.trans (hb2.mono B1.out.size)
  clear hb2
  rw [show leftI y0q M1 = y1q from Y1q.out.symm]
  go_wp2
  go_ret
  exact ⟨ret_intU E.out.symm, B2.out⟩
end Go.Proofs.YtdnodaoeflbfkaaGreat
/- What a base lists: both sides answer alike. -/
namespace Go.Proofs.YtdnodaoeflbfkaaGreat
open Go.RowKit Go.BigFrame
set_option linter.unusedVariables false
theorem list_both (dA0 : UD) (htA0 : tyL dA0 (uE 10)) (hw : (wt dA0) ≤ 1048576) :
    ∃ (dR0 : UD), tyL dR0 (uE 11) ∧ cnt dR0 ≤ 50000000 ∧ (∀ (w : World) (loA0 hiA0 : Nat) (xsA0 : List Value), uH w loA0 hiA0 dA0 xsA0 → Calls Tryz.prog 34 #[.agg xsA0.toArray] w fun e w' => ∃ (ysR0 : List Value), e = .returned (.agg ysR0.toArray) ∧ uH w' 0 w'.heap.size dR0 ysR0 ∧ Below w.heap.size w w') ∧
    (∀ (w : World) (loA0 hiA0 : Nat) (xsA0 : List Value) (SA0 : List Nat), oH w dA0 xsA0 SA0 → own2 SA0 loA0 hiA0 → Calls Tryz.prog 36 #[.agg xsA0.toArray] w fun e w' => ∃ (ysR0 : List Value) (SR0 : List Nat), e = .returned (.agg ysR0.toArray) ∧ oH w' dR0 ysR0 SR0 ∧ own2 SR0 w.heap.size w'.heap.size ∧ Below w.heap.size w w') := by
  obtain ⟨n0, c0, z1, z2, n3, c3, hd, g0, g1, g2, g3⟩ := partsBase htA0
  have hw0 : n0 + wt c0 ≤ 1048576 := by
    rw [hd] at hw
    simp only [wt, wtP] at hw
    omega
  refine ⟨listU n0 c0 z1 z2 n3 c3, ?_, ?_, fun w lo hi xs hx => ?_, fun w lo hi xs S hx hS => ?_⟩
  · unfold listU
    split
    · exact ⟨_, _, rfl, ⟨z1, rfl, g1⟩, _, _, rfl, g0, rfl⟩
    · exact ⟨_, _, rfl, ⟨0, rfl, by constructor <;> decide⟩, _, _, rfl, ⟨by decide, rfl, by decide, rfl, trivial⟩, rfl⟩
  · unfold listU
    have := cnt_wt g0
    split <;> simp only [cnt] <;> omega
  · rw [hd] at hx
    exact (sList_N n0 c0 z1 z2 n3 c3 xs w g0 g3 hw0 hx).mono fun e w' ⟨ys, S, q1, q2, q3, q4⟩ => ⟨ys, q1, q2.hand (fun g hg => ⟨Nat.zero_le _, (q3.2 g hg).2⟩), q4⟩
  · rw [hd] at hx
    exact (iList_N (lo := 0) (hi := 0) n0 c0 z1 z2 n3 c3 xs S w g0 g3 hw0 hx hS.1).mono fun e w' ⟨ys, S, q1, q2, q3, q4⟩ => ⟨ys, S, q1, q2, q3, q4⟩
end Go.Proofs.YtdnodaoeflbfkaaGreat
/- Data as cells: the helpers of the laws over Base. -/
namespace Go.Proofs.YtdnodaoeflbfkaaGreat
open Go.RowKit Go.BigFrame
set_option linter.unusedVariables false
set_option linter.unusedSimpArgs false

set_option maxRecDepth 20000 in
set_option maxHeartbeats 1600000 in
theorem ueqBase_any {lo hi lo' hi' : Nat} (d : UD) (xs ys : List Value) (w : World) (ht : tyL d (uE 10)) (hx : uH w lo hi d xs) (hy : uH w lo' hi' d ys) :
    Calls Tryz.prog 38 #[.agg xs.toArray, .agg ys.toArray] w fun e w' => e = .returned (.bool true) ∧ Below w.heap.size w w' := by
  replace ht : tyL d [.l 17 8, .i .i64, .i .i64, .l 19 9] := ht
  obtain ⟨n0, c0, _, rfl, g0, h0⟩ := tyL.l ht
  obtain ⟨z1, _, rfl, g1, h1⟩ := tyL.i h0
  clear h0
  obtain ⟨z2, _, rfl, g2, h2⟩ := tyL.i h1
  clear h1
  obtain ⟨n3, c3, _, rfl, g3, h3⟩ := tyL.l h2
  clear h2
  obtain rfl := tyL.nil h3
  clear h3
  obtain ⟨v0, _, rfl, s0, h0⟩ := hx
  obtain ⟨_, rfl, h1⟩ := h0
  obtain ⟨_, rfl, h2⟩ := h1
  obtain ⟨v3, _, rfl, s3, h3⟩ := h2
  obtain rfl := h3
  obtain ⟨v0r, _, rfl, s0r, h0r⟩ := hy
  obtain ⟨_, rfl, h1r⟩ := h0r
  obtain ⟨_, rfl, h2r⟩ := h1r
  obtain ⟨v3r, _, rfl, s3r, h3r⟩ := h2r
  obtain rfl := h3r
  have HC0 : Hid (∀ wx : World, Below w.heap.size w wx → Calls Tryz.prog 95 #[v0, v0r] wx fun e w' => e = .returned (.bool true) ∧ Below wx.heap.size wx w') := fun wx hb => ueqObjS_any (lo := lo) (hi := hi) (lo' := lo') (hi' := hi') n0 c0 _ _ wx g0 (s0.below hb) (s0r.below hb)
  have HC1 : Hid (∀ wx : World, Below w.heap.size w wx → Calls Tryz.prog 44 #[v3, v3r] wx fun e w' => e = .returned (.bool true) ∧ Below wx.heap.size wx w') := fun wx hb => ueqChangeS_any (lo := lo) (hi := hi) (lo' := lo') (hi' := hi') n3 c3 _ _ wx g3 (s3.below hb) (s3r.below hb)
  have q1 : (z1 != z1) = false := by simp
  have q2 : (z2 != z2) = false := by simp
  have HB : Hid (∀ o o', Below w.heap.size w ((w.alloc o).alloc o')) := fun o o' => ((Below.refl _ _).alloc (Nat.le_refl _) _).alloc (by simp) _
  obtain ⟨AX, hAX⟩ : ∃ AX : List Value, AX = (v0 :: (Value.int .i64 z1 :: (Value.int .i64 z2 :: (v3 :: [])))) := ⟨_, rfl⟩
  rw [← hAX]
  have hlen : AX.length = 4 := by rw [hAX]; simp
  have e0 : AX[0]? = some (v0) := at_mid (i := 0) (pre := (([] : List Value))) (ys := [v0]) (post := (Value.int .i64 z1 :: (Value.int .i64 z2 :: (v3 :: [])))) (by rw [hAX]; simp) (by simp) rfl
  have e1 : AX[1]? = some (.int .i64 z1) := at_mid (i := 0) (pre := ([v0])) (ys := [.int .i64 z1]) (post := (Value.int .i64 z2 :: (v3 :: []))) (by rw [hAX]; simp) (by simp) rfl
  have e2 : AX[2]? = some (.int .i64 z2) := at_mid (i := 0) (pre := ([v0, Value.int .i64 z1])) (ys := [.int .i64 z2]) (post := (v3 :: [])) (by rw [hAX]; simp) (by simp) rfl
  have e3 : AX[3]? = some (v3) := at_mid (i := 0) (pre := ([v0, Value.int .i64 z1, Value.int .i64 z2])) (ys := [v3]) (post := []) (by rw [hAX]; simp) (by simp) rfl
  clear hAX
  have E0 := uhide e0
  clear e0
  have E1 := uhide e1
  clear e1
  have E2 := uhide e2
  clear e2
  have E3 := uhide e3
  clear e3
  obtain ⟨AY, hAY⟩ : ∃ AY : List Value, AY = (v0r :: (Value.int .i64 z1 :: (Value.int .i64 z2 :: (v3r :: [])))) := ⟨_, rfl⟩
  rw [← hAY]
  have hlenr : AY.length = 4 := by rw [hAY]; simp
  have e0r : AY[0]? = some (v0r) := at_mid (i := 0) (pre := (([] : List Value))) (ys := [v0r]) (post := (Value.int .i64 z1 :: (Value.int .i64 z2 :: (v3r :: [])))) (by rw [hAY]; simp) (by simp) rfl
  have e1r : AY[1]? = some (.int .i64 z1) := at_mid (i := 0) (pre := ([v0r])) (ys := [.int .i64 z1]) (post := (Value.int .i64 z2 :: (v3r :: []))) (by rw [hAY]; simp) (by simp) rfl
  have e2r : AY[2]? = some (.int .i64 z2) := at_mid (i := 0) (pre := ([v0r, Value.int .i64 z1])) (ys := [.int .i64 z2]) (post := (v3r :: [])) (by rw [hAY]; simp) (by simp) rfl
  have e3r : AY[3]? = some (v3r) := at_mid (i := 0) (pre := ([v0r, Value.int .i64 z1, Value.int .i64 z2])) (ys := [v3r]) (post := []) (by rw [hAY]; simp) (by simp) rfl
  clear hAY
  have Er0 := uhide e0r
  clear e0r
  have Er1 := uhide e1r
  clear e1r
  have Er2 := uhide e2r
  clear e2r
  have Er3 := uhide e3r
  clear e3r
  have OA0 : Hid (objU ((w.alloc (.cells AX.toArray 69)).alloc (.cells AY.toArray 69)) w.heap.size 69 AX) := (objU.new2 _ _ rfl).old _
  have OB0 : Hid (objU ((w.alloc (.cells AX.toArray 69)).alloc (.cells AY.toArray 69)) (w.heap.size + 1) 69 AY) := objU.new2 _ _ (by simp)
  clear ht g0 s0 s0r g1 g2 g3 s3 s3r
  go_enter Tryz.func38, Tryz.ntmps38
  go_wp2_with (first
    | ((with_reducible refine wpList_load_one ?qqg77 63 ?qqx77 ?qqo77 w.heap.size 0 ?qqh77 (v0) Tryz.rBase_Limpl_Obj (OA0.out.cell 0 _ E0.out) ?_); (case qqg77 => rfl); (case qqo77 => rfl); (case qqh77 => simp [Act.eval, Act.put]))
    | ((with_reducible refine wpList_load_one ?qqg78 3 ?qqx78 ?qqo78 w.heap.size 1 ?qqh78 (.int .i64 z1) Tryz.rBase_int (OA0.out.cell 1 _ E1.out) ?_); (case qqg78 => rfl); (case qqo78 => rfl); (case qqh78 => simp [Act.eval, Act.put]))
    | ((with_reducible refine wpList_load_one ?qqg79 3 ?qqx79 ?qqo79 w.heap.size 2 ?qqh79 (.int .i64 z2) Tryz.rBase_int (OA0.out.cell 2 _ E2.out) ?_); (case qqg79 => rfl); (case qqo79 => rfl); (case qqh79 => simp [Act.eval, Act.put]))
    | ((with_reducible refine wpList_load_one ?qqg80 67 ?qqx80 ?qqo80 w.heap.size 3 ?qqh80 (v3) Tryz.rBase_Limpl_Change (OA0.out.cell 3 _ E3.out) ?_); (case qqg80 => rfl); (case qqo80 => rfl); (case qqh80 => simp [Act.eval, Act.put]))
    | ((with_reducible refine wpList_load_one ?qqg81 63 ?qqx81 ?qqo81 (w.heap.size + 1) 0 ?qqh81 (v0r) Tryz.rBase_Limpl_Obj (OB0.out.cell 0 _ Er0.out) ?_); (case qqg81 => rfl); (case qqo81 => rfl); (case qqh81 => simp [Act.eval, Act.put]))
    | ((with_reducible refine wpList_load_one ?qqg82 3 ?qqx82 ?qqo82 (w.heap.size + 1) 1 ?qqh82 (.int .i64 z1) Tryz.rBase_int (OB0.out.cell 1 _ Er1.out) ?_); (case qqg82 => rfl); (case qqo82 => rfl); (case qqh82 => simp [Act.eval, Act.put]))
    | ((with_reducible refine wpList_load_one ?qqg83 3 ?qqx83 ?qqo83 (w.heap.size + 1) 2 ?qqh83 (.int .i64 z2) Tryz.rBase_int (OB0.out.cell 2 _ Er2.out) ?_); (case qqg83 => rfl); (case qqo83 => rfl); (case qqh83 => simp [Act.eval, Act.put]))
    | ((with_reducible refine wpList_load_one ?qqg84 67 ?qqx84 ?qqo84 (w.heap.size + 1) 3 ?qqh84 (v3r) Tryz.rBase_Limpl_Change (OB0.out.cell 3 _ Er3.out) ?_); (case qqg84 => rfl); (case qqo84 => rfl); (case qqh84 => simp [Act.eval, Act.put]))
    )
  refine (HC0.out _ (HB.out _ _)).mono ?_
  rintro e w1 ⟨rfl, hb1⟩
  have OA1 := uhide (OA0.out.below hb1)
  have OB1 := uhide (OB0.out.below hb1)
  have B1 : Hid (Below w.heap.size w w1) := (HB.out _ _).trans (hb1.mono (by simp; omega))
  clear hb1 OA0 OB0
  go_wp2_with (first
    | ((with_reducible refine wpList_load_one ?qqg93 63 ?qqx93 ?qqo93 w.heap.size 0 ?qqh93 (v0) Tryz.rBase_Limpl_Obj (OA1.out.cell 0 _ E0.out) ?_); (case qqg93 => rfl); (case qqo93 => rfl); (case qqh93 => simp [Act.eval, Act.put]))
    | ((with_reducible refine wpList_load_one ?qqg94 3 ?qqx94 ?qqo94 w.heap.size 1 ?qqh94 (.int .i64 z1) Tryz.rBase_int (OA1.out.cell 1 _ E1.out) ?_); (case qqg94 => rfl); (case qqo94 => rfl); (case qqh94 => simp [Act.eval, Act.put]))
    | ((with_reducible refine wpList_load_one ?qqg95 3 ?qqx95 ?qqo95 w.heap.size 2 ?qqh95 (.int .i64 z2) Tryz.rBase_int (OA1.out.cell 2 _ E2.out) ?_); (case qqg95 => rfl); (case qqo95 => rfl); (case qqh95 => simp [Act.eval, Act.put]))
    | ((with_reducible refine wpList_load_one ?qqg96 67 ?qqx96 ?qqo96 w.heap.size 3 ?qqh96 (v3) Tryz.rBase_Limpl_Change (OA1.out.cell 3 _ E3.out) ?_); (case qqg96 => rfl); (case qqo96 => rfl); (case qqh96 => simp [Act.eval, Act.put]))
    | ((with_reducible refine wpList_load_one ?qqg97 63 ?qqx97 ?qqo97 (w.heap.size + 1) 0 ?qqh97 (v0r) Tryz.rBase_Limpl_Obj (OB1.out.cell 0 _ Er0.out) ?_); (case qqg97 => rfl); (case qqo97 => rfl); (case qqh97 => simp [Act.eval, Act.put]))
    | ((with_reducible refine wpList_load_one ?qqg98 3 ?qqx98 ?qqo98 (w.heap.size + 1) 1 ?qqh98 (.int .i64 z1) Tryz.rBase_int (OB1.out.cell 1 _ Er1.out) ?_); (case qqg98 => rfl); (case qqo98 => rfl); (case qqh98 => simp [Act.eval, Act.put]))
    | ((with_reducible refine wpList_load_one ?qqg99 3 ?qqx99 ?qqo99 (w.heap.size + 1) 2 ?qqh99 (.int .i64 z2) Tryz.rBase_int (OB1.out.cell 2 _ Er2.out) ?_); (case qqg99 => rfl); (case qqo99 => rfl); (case qqh99 => simp [Act.eval, Act.put]))
    | ((with_reducible refine wpList_load_one ?qqg100 67 ?qqx100 ?qqo100 (w.heap.size + 1) 3 ?qqh100 (v3r) Tryz.rBase_Limpl_Change (OB1.out.cell 3 _ Er3.out) ?_); (case qqg100 => rfl); (case qqo100 => rfl); (case qqh100 => simp [Act.eval, Act.put]))
    )
  refine (HC1.out _ B1.out).mono ?_
  rintro e w2 ⟨rfl, hb2⟩
  have OA2 := uhide (OA1.out.below hb2)
  have OB2 := uhide (OB1.out.below hb2)
  have B2 : Hid (Below w.heap.size w w2) := B1.out.trans (hb2.mono B1.out.size)
  clear hb2 OA1 OB1
  go_wp2
  go_ret
  exact ⟨rfl, B2.out⟩
end Go.Proofs.YtdnodaoeflbfkaaGreat
