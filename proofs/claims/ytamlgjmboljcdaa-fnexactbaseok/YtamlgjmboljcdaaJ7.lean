/- Texts of one claim, joined: each in its own section, in build order. -/
import Derived.Test.YtamlgjmboljcdaaJ6
import Derived.Lib.SlicesCompact
import Derived.Test.YtamlgjmboljcdaaJ3
import Derived.Test.YtamlgjmboljcdaaChecked
import Derived.Test.YtamlgjmboljcdaaJ1
import Derived.Test.YtamlgjmboljcdaaJ2
import Derived.Maps.AppendAt
import Derived.Shelf.Small.Bits
import Derived.Shelf.Small.Wraps
import Derived.Shelf.Strconv.Itoa0
import Derived.Shelf.Sort.Plain
import Derived.Ground.Names2Prog
import Derived.Shelf.Slices.CompactI
import Derived.Shelf.Slices.SearchI
import Derived.Shelf.Slices.Cells
import Derived.Shelf.Slices.In.SortNone
import Derived.Test.YtamlgjmboljcdaaProg
import Derived.Test.YtamlgjmboljcdaaJ5
import Derived.WideShapes
import Derived.Lib.OwnBridge
import Derived.Test.YtamlgjmboljcdaaJ4
/- Numbers sorted and compacted are as many as before just if no two are alike. -/
namespace Go.Proofs.Ytamlgjmboljcdaa
open Go.Lib
set_option linter.unusedVariables false

theorem compactUpTo_le (d : Array Int) : ∀ m, (compactUpTo d m).length ≤ m
  | 0 => by simp [compactUpTo]
  | m + 1 => by
    rw [compactUpTo_succ, List.length_append]
    have := compactUpTo_le d m
    split <;> simp <;> omega
theorem compactUpTo_eq (d : Array Int) : ∀ m, (compactUpTo d m).length = m ↔ ∀ j, j < m → keeps d j = true
  | 0 => by simp [compactUpTo]
  | m + 1 => by
    rw [compactUpTo_succ, List.length_append]
    have hle := compactUpTo_le d m
    have ih := compactUpTo_eq d m
    constructor
    · intro h
      have hk : keeps d m = true := by
        cases hk : keeps d m with
        | true => rfl
        | false => rw [hk] at h; simp at h; omega
      rw [hk] at h
      simp at h
      intro j hj
      by_cases e : j = m
      · rw [e]; exact hk
      · exact ih.1 h j (by omega)
    · intro h
      have h1 := ih.2 (fun j hj => h j (by omega))
      rw [h m (by omega), h1]
      simp
theorem keeps_iff (l : List Int) {j : Nat} (hj : j < l.length) : keeps l.toArray j = true ↔ (0 < j → l[j - 1]! ≠ l[j]!) := by
  unfold keeps
  cases j with
  | zero => simp
  | succ j => simp; exact ⟨fun h e => h e.symm, fun h e => h e.symm⟩
theorem sorted_nodup : ∀ (l : List Int), l.Pairwise (· ≤ ·) → ((∀ j, j < l.length → 0 < j → l[j - 1]! ≠ l[j]!) ↔ l.Nodup)
  | [], _ => by simp
  | [x], _ => by simp
  | x :: y :: r, h => by
    obtain ⟨h1, h2⟩ := List.pairwise_cons.1 h
    have ih := sorted_nodup (y :: r) h2
    constructor
    · intro hk
      have hn : (y :: r).Nodup := ih.1 (fun j hj h0 => by
        have := hk (j + 1) (by simp at hj ⊢; omega) (by omega)
        obtain ⟨i, rfl⟩ : ∃ i, j = i + 1 := ⟨j - 1, by omega⟩
        simpa using this)
      refine List.nodup_cons.2 ⟨fun hx => ?_, hn⟩
      have h01 := hk 1 (by simp) (by omega)
      have hxy : x ≠ y := by simpa using h01
      have hyx := h1 y (by simp)
      have hle : y ≤ x := by
        rcases List.mem_cons.1 hx with e | hm
        · exact (hxy e).elim
        · exact (List.pairwise_cons.1 h2).1 x hm
      exact hxy (by omega)
    · intro hn j hj h0
      obtain ⟨hx, hn2⟩ := List.nodup_cons.1 hn
      cases j with
      | zero => omega
      | succ j =>
        cases j with
        | zero => simp; exact fun e => hx (by simp [e])
        | succ j =>
          have := ih.2 hn2 (j + 1) (by simp at hj ⊢; omega) (by omega)
          simpa using this
theorem compact_sorted (zs : List Int) : (compact (zs.mergeSort fun x y => decide (x ≤ y))).length = zs.length ↔ zs.Nodup := by
  have hl : (zs.mergeSort fun x y => decide (x ≤ y)).length = zs.length := List.length_mergeSort zs
  have hp : (zs.mergeSort fun x y => decide (x ≤ y)).Perm zs := List.mergeSort_perm zs _
  have hs : (zs.mergeSort fun x y => decide (x ≤ y)).Pairwise (· ≤ ·) := by
    have := List.pairwise_mergeSort (le := fun x y : Int => decide (x ≤ y)) (by intro a b c h1 h2; simp at *; omega) (by intro a b; simp; omega) zs
    exact this.imp (fun h => by simpa using h)
  generalize (zs.mergeSort fun x y => decide (x ≤ y)) = l at *
  rw [← hl, ← hp.nodup_iff, ← sorted_nodup l hs]
  unfold compact
  rw [compactUpTo_eq]
  exact ⟨fun h j hj h0 => (keeps_iff l hj).1 (h j hj) h0, fun h j hj => (keeps_iff l hj).2 (fun h0 => h j hj h0)⟩
end Go.Proofs.Ytamlgjmboljcdaa
/- Data as cells: rows of plain numbers. -/
namespace Go.Proofs.Ytamlgjmboljcdaa
open Go.RowKit
set_option linter.unusedVariables false

/-- the numbers of a row of plain numbers -/
def intL : UD → List Int
  | .nil => []
  | .p (.int _ z) r => z :: intL r
  | .p _ r => intL r
  | .l _ _ _ r => intL r
theorem intL_get : ∀ (d : UD) (i : Nat), tyU d (uE 1) i → (intL d).length = d.len ∧ ∀ j (h : j < (intL d).length), d.at? j = some (.p (.int .i64 ((intL d)[j]'h))) ∧ inK .i64 ((intL d)[j]'h)
  | .nil, i, _ => ⟨rfl, fun j h => by cases h⟩
  | .p v r, i, ⟨⟨f, hf, hv⟩, h2⟩ => by
    have hf' : f = .i .i64 := by
      have : (i % (uE 1).length) = 0 := by show i % 1 = 0; omega
      rw [this] at hf
      exact (Option.some.inj hf).symm
    subst hf'
    obtain ⟨z, rfl, hz⟩ := hv
    obtain ⟨h3, h4⟩ := intL_get r (i + 1) h2
    refine ⟨by show (intL r).length + 1 = _; rw [h3, UD.len_p], fun j h => ?_⟩
    cases j with
    | zero => exact ⟨rfl, hz⟩
    | succ j => exact h4 j (by simpa [intL] using h)
  | .l k n cs r, i, ⟨⟨t, hf, _⟩, _⟩ => by
    have : (i % (uE 1).length) = 0 := by show i % 1 = 0; omega
    rw [this] at hf
    cases hf
theorem intL_inj : ∀ (a b : UD) (i j : Nat), tyU a (uE 1) i → tyU b (uE 1) j → intL a = intL b → a = b
  | .nil, .nil, _, _, _, _, _ => rfl
  | .nil, b, i, j, ha, hb, h => by
    have h1 := (intL_get b j hb).1
    rw [← h] at h1
    exact (UD.len_nil h1.symm).symm
  | a, .nil, i, j, ha, hb, h => by
    have h1 := (intL_get a i ha).1
    rw [h] at h1
    exact UD.len_nil h1.symm
  | .p v r, .p v' r', i, j, ha, hb, h => by
    obtain ⟨⟨f, hf, hv⟩, h2⟩ := ha
    obtain ⟨⟨f', hf', hv'⟩, h2'⟩ := hb
    have e1 : f = .i .i64 := by
      have : (i % (uE 1).length) = 0 := by show i % 1 = 0; omega
      rw [this] at hf; exact (Option.some.inj hf).symm
    have e2 : f' = .i .i64 := by
      have : (j % (uE 1).length) = 0 := by show j % 1 = 0; omega
      rw [this] at hf'; exact (Option.some.inj hf').symm
    subst e1 e2
    obtain ⟨s, rfl, _⟩ := hv
    obtain ⟨s', rfl, _⟩ := hv'
    obtain ⟨rfl, h3⟩ := List.cons.inj (show s :: intL r = s' :: intL r' from h)
    rw [intL_inj r r' (i + 1) (j + 1) h2 h2' h3]
  | .l k n cs r, _, i, _, ha, _, _ => by
    obtain ⟨⟨t, hf, _⟩, _⟩ := ha
    have : (i % (uE 1).length) = 0 := by show i % 1 = 0; omega
    rw [this] at hf
    cases hf
  | _, .l k n cs r, _, j, _, hb, _ => by
    obtain ⟨⟨t, hf, _⟩, _⟩ := hb
    have : (j % (uE 1).length) = 0 := by show j % 1 = 0; omega
    rw [this] at hf
    cases hf
theorem intL_len {n : Nat} {c : UD} (h : tyS 1 n c 1) : (intL c).length = n := by rw [(intL_get c 0 h.2.2.2.2).1, h.2.2.2.1, Nat.mul_one]
/-- a row of numbers in memory -/
theorem int_at {w : World} {lo hi n : Nat} {c : UD} {b off cap : Nat} (ht : tyS 1 n c 1) (h : uS w lo hi 1 n c (.slice (some ⟨b, off, none⟩) n cap)) (j : Nat) (hj : j < (intL c).length) : w.cell? ⟨b, off + j, none⟩ = some (.int .i64 ((intL c)[j]'hj)) := by
  have hl := intL_len ht
  obtain ⟨b', off', e, _, hm⟩ := h.cells (by omega)
  cases e
  obtain ⟨c', q1, q2⟩ := hm.get j _ ((intL_get c 0 ht.2.2.2.2).2 j hj).1
  rw [q1, show c' = _ from q2]
theorem int_in {n : Nat} {c : UD} (ht : tyS 1 n c 1) (j : Nat) (hj : j < (intL c).length) : -9223372036854775808 ≤ (intL c)[j]'hj ∧ (intL c)[j]'hj ≤ 9223372036854775807 := ((intL_get c 0 ht.2.2.2.2).2 j hj).2
theorem cntU_int : ∀ (c : UD) (i : Nat), tyU c (uE 1) i → cnt c = c.len
  | .nil, _, _ => rfl
  | .p v r, i, h => by rw [UD.len_p]; show 1 + cnt r = _; rw [cntU_int r (i + 1) h.2]; omega
  | .l k n cs r, i, h => by
    obtain ⟨⟨t, hf, _⟩, _⟩ := h
    have : (i % (uE 1).length) = 0 := by show i % 1 = 0; omega
    rw [this] at hf
    cases hf
theorem cnt_int {n : Nat} {c : UD} (h : tyS 1 n c 1) : cnt c = n := by rw [cntU_int c 0 h.2.2.2.2, h.2.2.2.1, Nat.mul_one]
/-- the cells of a row of numbers -/
def ofInts : List Int → UD
  | [] => .nil
  | z :: r => .p (.int .i64 z) (ofInts r)
theorem intL_of : ∀ l : List Int, intL (ofInts l) = l
  | [] => rfl
  | z :: r => by show z :: intL (ofInts r) = _; rw [intL_of r]
theorem ofInts_len : ∀ l : List Int, (ofInts l).len = l.length
  | [] => rfl
  | z :: r => by show (UD.p _ (ofInts r)).len = _; rw [UD.len_p, ofInts_len r]; rfl
theorem ofInts_ty : ∀ (l : List Int) (i : Nat), (∀ z ∈ l, inK .i64 z) → tyU (ofInts l) (uE 1) i
  | [], _, _ => trivial
  | z :: r, i, h => ⟨⟨.i .i64, by have : (i % (uE 1).length) = 0 := by show i % 1 = 0; omega
                                  rw [this]; rfl, z, rfl, h z (by simp)⟩, ofInts_ty r (i + 1) (fun x hx => h x (by simp [hx]))⟩
theorem ofInts_tyS {l : List Int} (h : ∀ z ∈ l, inK .i64 z) (hl : l.length ≤ maxLen) : tyS 1 l.length (ofInts l) 1 := ⟨by decide, rfl, hl, by rw [ofInts_len, Nat.mul_one], ofInts_ty l 0 h⟩
theorem wt_ofInts : ∀ l : List Int, wt (ofInts l) = 0
  | [] => rfl
  | z :: r => by show wtP _ + wt (ofInts r) = 0; rw [wt_ofInts r]; rfl
theorem cnt_ofInts : ∀ l : List Int, cnt (ofInts l) = l.length
  | [] => rfl
  | z :: r => by show 1 + cnt (ofInts r) = _; rw [cnt_ofInts r, List.length_cons]; omega
theorem ofInts_own {w : World} : ∀ l : List Int, oH w (ofInts l) (l.map (Value.int .i64)) []
  | [] => ⟨rfl, rfl⟩
  | z :: r => ⟨_, rfl, ofInts_own r⟩
theorem Try.infoDInt : (Try.prog.info? 3).map (fun i => (i.zero, i.size, i.bytes)) = some (some (.int .i64 0), 1, 8) := by kernel_rfl
theorem infoD {P : Program} {t : TypeId} {z : Value} {k b : Nat} (h : (P.info? t).map (fun i => (i.zero, i.size, i.bytes)) = some (some z, k, b)) : ∃ i, P.info? t = some i ∧ i.zero = some z ∧ i.size = k ∧ i.bytes = b := by
  cases e : P.info? t with
  | none => rw [e] at h; cases h
  | some i => rw [e] at h; simp at h; exact ⟨i, rfl, h.1, h.2.1, h.2.2⟩
end Go.Proofs.Ytamlgjmboljcdaa
/- Rows of numbers that a call builds by append. -/
namespace Go.Proofs.Ytamlgjmboljcdaa
open Go.RowKit Go.BigFrame
set_option linter.unusedVariables false
/-- a row of numbers of the call's own, from base on -/
def IR (w : World) (base : Nat) (v : Value) (l : List Int) : Prop := w.ownsRow base 3 1 v l.length (l.map (Value.int .i64)) ∧ ∃ g, v.ownBlock = some g ∧ base ≤ g ∧ g < w.heap.size
theorem IR.frame {w w' : World} {base : Nat} {v : Value} {l : List Int} (h : IR w base v l) (hs : w.heap.size ≤ w'.heap.size) (hf : ∀ g, v.ownBlock = some g → w'.heap[g]? = w.heap[g]?) : IR w' base v l := by
  obtain ⟨h1, g, h2, h3, h4⟩ := h
  refine ⟨uowns_frame h1 (fun x hx => ?_), g, h2, h3, by omega⟩
  unfold blkOf at hx
  rw [h2] at hx
  have : x = g := by simpa using hx
  subst this
  exact hf x h2
theorem IR.below {w w' : World} {base : Nat} {v : Value} {l : List Int} (h : IR w base v l) (hb : Below w.heap.size w w') : IR w' base v l :=
  h.frame hb.size (fun g hg => hb.block g (by obtain ⟨g', h2, h3, h4⟩ := h.2; rw [h2] at hg; cases hg; exact h4))
theorem IR.grown {w w' : World} {base : Nat} {v u : Value} {l : List Int} (h : IR w base v l) (hg : w.grownBy w' u.ownBlock) (hne : v.ownBlock ≠ u.ownBlock) : IR w' base v l :=
  h.frame hg.size (fun g hv => by
    obtain ⟨g', h2, h3, h4⟩ := h.2
    rw [h2] at hv; cases hv
    exact hg.block g h4 (by rw [← h2]; exact hne))
theorem IR.lit (w : World) (base : Nat) (hb : base ≤ w.heap.size) : IR (w.alloc (.cells #[] 3)) base (.slice (some ⟨w.heap.size, 0, none⟩) 0 0) [] :=
  ⟨World.ownsRow_lit w #[] 0 hb (by decide) rfl, w.heap.size, rfl, hb, by simp⟩
theorem IR.snoc {w w' : World} {base : Nat} {v v' : Value} {l : List Int} {x : Int} (h : IR w base v l) (hown : w'.ownsRow base 3 1 v' (l.length + 1) (l.map (Value.int .i64) ++ [.int .i64 x])) (hat : v'.ownBlock = v.ownBlock ∨ v'.ownBlock = some w.heap.size) : IR w' base v' (l ++ [x]) := by
  refine ⟨by rw [List.length_append, List.map_append]; exact hown, ?_⟩
  obtain ⟨g, h2, h3, h4⟩ := h.2
  rcases hat with e | e
  · rw [h2] at e; exact ⟨g, e, uowns_blk hown e⟩
  · exact ⟨_, e, uowns_blk hown e⟩
theorem IR.row {w : World} {base : Nat} {v : Value} {l : List Int} (h : IR w base v l) : ∀ k, v.ownBlock = some k → base ≤ k := fun k e => by
  obtain ⟨g, h2, h3, h4⟩ := h.2
  rw [h2] at e; cases e; exact h3
theorem IR.apart {w : World} {base : Nat} {u v v' : Value} {l : List Int} (hu : IR w base u l) (hne : v.ownBlock ≠ u.ownBlock) (hat : v'.ownBlock = v.ownBlock ∨ v'.ownBlock = some w.heap.size) : v'.ownBlock ≠ u.ownBlock := by
  rcases hat with e | e
  · rw [e]; exact hne
  · obtain ⟨g, h2, h3, h4⟩ := hu.2
    rw [e, h2]
    intro hh; cases hh; omega
/-- numbers in range, not more than so many -/
def goodI (l : List Int) (k : Nat) : Prop := l.length ≤ k ∧ ∀ x ∈ l, -9223372036854775808 ≤ x ∧ x ≤ 9223372036854775807
theorem goodI.snoc {l : List Int} {k : Nat} {x : Int} (h : goodI l k) (hx : -9223372036854775808 ≤ x ∧ x ≤ 9223372036854775807) : goodI (l ++ [x]) (k + 1) :=
  ⟨by rw [List.length_append, List.length_singleton]; have := h.1; omega, fun y hy => by
    rcases List.mem_append.1 hy with hy | hy
    · exact h.2 y hy
    · simp at hy; rw [hy]; exact hx⟩
theorem goodI.mono {l : List Int} {k k' : Nat} (h : goodI l k) (hk : k ≤ k') : goodI l k' := ⟨by have := h.1; omega, h.2⟩
end Go.Proofs.Ytamlgjmboljcdaa
/- The library contracts that this seat's road meets, laid by the kit's own command, in plain words. -/
namespace Go.Proofs
open Go.Shelf
def Try.lays128_ren : Go.Shelf.Ren := ⟨fun | 128 => 112 | n => n, fun | 51 => 151 | 3 => 3 | 4 => 4 | 46 => 126 | 5 => 5 | 9 => 9 | n => n, fun | n => n⟩
theorem Try.lays128 : Go.Proofs.Lays.n128 Try.prog Try.lays128_ren := {
  mixed := by kernel_rfl
  f128 := Try.func112.trans (congrArg some (by kernel_rfl))
  t3 := Try.underlying3
  a3 := Try.isAgg3
  z3 := Try.sizeOf3
  v3 := Try.zeroValue3
  t4 := Try.underlying4
  a4 := Try.isAgg4
  z4 := Try.sizeOf4
  v4 := Try.zeroValue4
  t5 := Try.underlying5
  a5 := Try.isAgg5
  z5 := Try.sizeOf5
  v5 := Try.zeroValue5
  t9 := Try.underlying9
  a9 := Try.isAgg9
  z9 := Try.sizeOf9
  v9 := Try.zeroValue9
  t46 := Try.underlying126
  a46 := Try.isAgg126
  z46 := Try.sizeOf126
  v46 := Try.zeroValue126
  t51 := Try.underlying151
  a51 := Try.isAgg151
  z51 := Try.sizeOf151
  v51 := Try.zeroValue151 }
theorem Try.bits_Len32 (x : Int) (w : World) (h0 : 0 ≤ x) (h1 : x ≤ 4294967295) :
    Calls Try.prog 112 #[.int .u32 x] w fun e w' => e = .returned (.int .i64 (Lib.bitLen x.toNat)) ∧ w' = w := Any.bits_Len32 Try.lays128 x w h0 h1
def Try.lays125_ren : Go.Shelf.Ren := ⟨fun | 125 => 97 | 128 => 112 | 129 => 113 | n => n, fun | 46 => 126 | 3 => 3 | 51 => 151 | 53 => 153 | 4 => 4 | 5 => 5 | 9 => 9 | n => n, fun | n => n⟩
theorem Try.lays125 : Go.Proofs.Lays.n125 Try.prog Try.lays125_ren := {
  mixed := by kernel_rfl
  f125 := Try.func97.trans (congrArg some (by kernel_rfl))
  f128 := Try.func112.trans (congrArg some (by kernel_rfl))
  f129 := Try.func113.trans (congrArg some (by kernel_rfl))
  t3 := Try.underlying3
  a3 := Try.isAgg3
  z3 := Try.sizeOf3
  v3 := Try.zeroValue3
  t4 := Try.underlying4
  a4 := Try.isAgg4
  z4 := Try.sizeOf4
  v4 := Try.zeroValue4
  t5 := Try.underlying5
  a5 := Try.isAgg5
  z5 := Try.sizeOf5
  v5 := Try.zeroValue5
  t9 := Try.underlying9
  a9 := Try.isAgg9
  z9 := Try.sizeOf9
  v9 := Try.zeroValue9
  t46 := Try.underlying126
  a46 := Try.isAgg126
  z46 := Try.sizeOf126
  v46 := Try.zeroValue126
  t51 := Try.underlying151
  a51 := Try.isAgg151
  z51 := Try.sizeOf151
  v51 := Try.zeroValue151
  t53 := Try.underlying153
  a53 := Try.isAgg153
  z53 := Try.sizeOf153
  v53 := Try.zeroValue153 }
theorem Try.bits_Len (x : Int) (w : World) (h0 : 0 ≤ x) (h1 : x ≤ 18446744073709551615) :
    Calls Try.prog 97 #[.int .u64 x] w fun e w' => e = .returned (.int .i64 (Lib.bitLen x.toNat)) ∧ w' = w := Any.bits_Len Try.lays125 x w h0 h1
def Try.lays215_ren : Go.Shelf.Ren := ⟨fun | 215 => 101 | n => n, fun | 3 => 3 | 4 => 4 | n => n, fun | n => n⟩
theorem Try.lays215 : Go.Proofs.Lays.n215 Try.prog Try.lays215_ren := {
  mixed := by kernel_rfl
  f215 := Try.func101.trans (congrArg some (by kernel_rfl))
  t3 := Try.underlying3
  a3 := Try.isAgg3
  z3 := Try.sizeOf3
  v3 := Try.zeroValue3
  t4 := Try.underlying4
  a4 := Try.isAgg4
  z4 := Try.sizeOf4
  v4 := Try.zeroValue4 }
open Go.RowKit in
theorem Try.cmp_isNaN_int (x : Int) (w : World) :
    Calls Try.prog 101 #[.int .i64 x] w fun e w' => e = .returned (.bool false) ∧ w' = w := Any.cmp_isNaN_int Try.lays215 x w
def Try.lays122_ren : Go.Shelf.Ren := ⟨fun | 122 => 94 | 215 => 101 | n => n, fun | 3 => 3 | 4 => 4 | n => n, fun | n => n⟩
theorem Try.lays122 : Go.Proofs.Lays.n122 Try.prog Try.lays122_ren := {
  mixed := by kernel_rfl
  f122 := Try.func94.trans (congrArg some (by kernel_rfl))
  f215 := Try.func101.trans (congrArg some (by kernel_rfl))
  t3 := Try.underlying3
  a3 := Try.isAgg3
  z3 := Try.sizeOf3
  v3 := Try.zeroValue3
  t4 := Try.underlying4
  a4 := Try.isAgg4
  z4 := Try.sizeOf4
  v4 := Try.zeroValue4 }
open Go.RowKit in
theorem Try.cmp_Compare_int (x y : Int) (w : World) :
    Calls Try.prog 94 #[.int .i64 x, .int .i64 y] w fun e w' => e = .returned (.int .i64 (Lib.compareInt x y)) ∧ w' = w := Any.cmp_Compare_int Try.lays122 x y w
def Try.lays129_ren : Go.Shelf.Ren := ⟨fun | 129 => 113 | n => n, fun | 53 => 153 | 3 => 3 | 4 => 4 | 46 => 126 | 5 => 5 | 9 => 9 | n => n, fun | n => n⟩
theorem Try.lays129 : Go.Proofs.Lays.n129 Try.prog Try.lays129_ren := {
  mixed := by kernel_rfl
  f129 := Try.func113.trans (congrArg some (by kernel_rfl))
  t3 := Try.underlying3
  a3 := Try.isAgg3
  z3 := Try.sizeOf3
  v3 := Try.zeroValue3
  t4 := Try.underlying4
  a4 := Try.isAgg4
  z4 := Try.sizeOf4
  v4 := Try.zeroValue4
  t5 := Try.underlying5
  a5 := Try.isAgg5
  z5 := Try.sizeOf5
  v5 := Try.zeroValue5
  t9 := Try.underlying9
  a9 := Try.isAgg9
  z9 := Try.sizeOf9
  v9 := Try.zeroValue9
  t46 := Try.underlying126
  a46 := Try.isAgg126
  z46 := Try.sizeOf126
  v46 := Try.zeroValue126
  t53 := Try.underlying153
  a53 := Try.isAgg153
  z53 := Try.sizeOf153
  v53 := Try.zeroValue153 }
theorem Try.bits_Len64 (x : Int) (w : World) (h0 : 0 ≤ x) (h1 : x ≤ 18446744073709551615) :
    Calls Try.prog 113 #[.int .u64 x] w fun e w' => e = .returned (.int .i64 (Lib.bitLen x.toNat)) ∧ w' = w := Any.bits_Len64 Try.lays129 x w h0 h1
def Try.lays189_ren : Go.Shelf.Ren := ⟨fun | 189 => 80 | 125 => 97 | 257 => 96 | 128 => 112 | 129 => 113 | 294 => 103 | 295 => 104 | 296 => 105 | 297 => 106 | 298 => 107 | 299 => 108 | 216 => 109 | 300 => 110 | 301 => 111 | 328 => 115 | 329 => 116 | 330 => 117 | 331 => 118 | 332 => 119 | 215 => 101 | 343 => 121 | n => n, fun | 28 => 106 | 3 => 3 | 46 => 126 | 0 => 0 | 51 => 151 | 53 => 153 | 4 => 4 | 183 => 144 | 182 => 143 | 131 => 148 | 5 => 5 | 9 => 9 | 218 => 155 | 222 => 159 | 228 => 161 | 229 => 162 | n => n, fun | n => n⟩
theorem Try.lays189 : Go.Proofs.Lays.n189 Try.prog Try.lays189_ren := {
  mixed := by kernel_rfl
  f125 := Try.func97.trans (congrArg some (by kernel_rfl))
  f128 := Try.func112.trans (congrArg some (by kernel_rfl))
  f129 := Try.func113.trans (congrArg some (by kernel_rfl))
  f189 := Try.func80.trans (congrArg some (by kernel_rfl))
  f215 := Try.func101.trans (congrArg some (by kernel_rfl))
  f216 := Try.func109.trans (congrArg some (by kernel_rfl))
  f257 := Try.func96.trans (congrArg some (by kernel_rfl))
  f294 := Try.func103.trans (congrArg some (by kernel_rfl))
  f295 := Try.func104.trans (congrArg some (by kernel_rfl))
  f296 := Try.func105.trans (congrArg some (by kernel_rfl))
  f297 := Try.func106.trans (congrArg some (by kernel_rfl))
  f298 := Try.func107.trans (congrArg some (by kernel_rfl))
  f299 := Try.func108.trans (congrArg some (by kernel_rfl))
  f300 := Try.func110.trans (congrArg some (by kernel_rfl))
  f301 := Try.func111.trans (congrArg some (by kernel_rfl))
  f328 := Try.func115.trans (congrArg some (by kernel_rfl))
  f329 := Try.func116.trans (congrArg some (by kernel_rfl))
  f330 := Try.func117.trans (congrArg some (by kernel_rfl))
  f331 := Try.func118.trans (congrArg some (by kernel_rfl))
  f332 := Try.func119.trans (congrArg some (by kernel_rfl))
  f343 := Try.func121.trans (congrArg some (by kernel_rfl))
  t0 := Try.underlying0
  a0 := Try.isAgg0
  z0 := Try.sizeOf0
  v0 := Try.zeroValue0
  t3 := Try.underlying3
  a3 := Try.isAgg3
  z3 := Try.sizeOf3
  v3 := Try.zeroValue3
  t4 := Try.underlying4
  a4 := Try.isAgg4
  z4 := Try.sizeOf4
  v4 := Try.zeroValue4
  t5 := Try.underlying5
  a5 := Try.isAgg5
  z5 := Try.sizeOf5
  v5 := Try.zeroValue5
  t9 := Try.underlying9
  a9 := Try.isAgg9
  z9 := Try.sizeOf9
  v9 := Try.zeroValue9
  t28 := Try.underlying106
  a28 := Try.isAgg106
  z28 := Try.sizeOf106
  v28 := Try.zeroValue106
  t46 := Try.underlying126
  a46 := Try.isAgg126
  z46 := Try.sizeOf126
  v46 := Try.zeroValue126
  t51 := Try.underlying151
  a51 := Try.isAgg151
  z51 := Try.sizeOf151
  v51 := Try.zeroValue151
  t53 := Try.underlying153
  a53 := Try.isAgg153
  z53 := Try.sizeOf153
  v53 := Try.zeroValue153
  t131 := Try.underlying148
  a131 := Try.isAgg148
  z131 := Try.sizeOf148
  v131 := Try.zeroValue148
  t182 := Try.underlying143
  a182 := Try.isAgg143
  z182 := Try.sizeOf143
  v182 := Try.zeroValue143
  t183 := Try.underlying144
  a183 := Try.isAgg144
  z183 := Try.sizeOf144
  v183 := Try.zeroValue144
  t218 := Try.underlying155
  a218 := Try.isAgg155
  z218 := Try.sizeOf155
  v218 := Try.zeroValue155
  t222 := Try.underlying159
  a222 := Try.isAgg159
  z222 := Try.sizeOf159
  v222 := Try.zeroValue159
  t228 := Try.underlying161
  a228 := Try.isAgg161
  z228 := Try.sizeOf161
  v228 := Try.zeroValue161
  t229 := Try.underlying162
  a229 := Try.isAgg162
  z229 := Try.sizeOf162
  v229 := Try.zeroValue162 }
open Go.Sort Go.RowKit in
theorem Try.slices_Sort_int (blk off cap : Nat) (zs : List Int) (w : World) (hH : Holds (Value.int .i64) w blk off zs.toArray) (hblk : blk < w.heap.size) (hsz : zs.length < 4611686018427387904) :
    Calls Try.prog 80 #[.slice (some ⟨blk, off, none⟩) zs.length cap] w fun e w' =>
      e = .returned (.tuple #[]) ∧ ∃ n os, w' = grow (putRow (Value.int .i64) (Sort.ahead w n) blk off (zs.mergeSort fun x y => decide (x ≤ y)).toArray) os := Any.slices_Sort_int Try.lays189 blk off cap zs w hH hblk hsz
def Try.laysNm220_ren : Go.Shelf.Ren := ⟨fun | 20 => 81 | n => n, fun | 22 => 106 | 3 => 3 | 4 => 4 | 0 => 0 | n => n, fun | n => n⟩
theorem Try.laysNm220 : Go.Proofs.Lays2.n20 Try.prog Try.laysNm220_ren := {
  mixed := by kernel_rfl
  f20 := Try.func81.trans (congrArg some (by kernel_rfl))
  t0 := Try.underlying0
  a0 := Try.isAgg0
  z0 := Try.sizeOf0
  v0 := Try.zeroValue0
  t3 := Try.underlying3
  a3 := Try.isAgg3
  z3 := Try.sizeOf3
  v3 := Try.zeroValue3
  t4 := Try.underlying4
  a4 := Try.isAgg4
  z4 := Try.sizeOf4
  v4 := Try.zeroValue4
  t22 := Try.underlying106
  a22 := Try.isAgg106
  z22 := Try.sizeOf106
  v22 := Try.zeroValue106
  i3 := by kernel_rfl }
open Go.RowKit Go.Lib Go.Sort in
theorem Try.slices_Compact_int_arr (blk off cap : Nat) (d : Array Int) (w : World) (hH : Holds encI w blk off d) (hsz : d.size ≤ 9223372036854775807) (hcap : d.size ≤ cap) :
    Calls Try.prog 81 #[.slice (some ⟨blk, off, none⟩) d.size cap] w fun e w' => e = .returned (.slice (some ⟨blk, off, none⟩) (compactUpTo d d.size).length cap) ∧ ∃ q, w' = putRow encI (Sort.ahead w q) blk off (compactUpTo d d.size ++ List.replicate (d.size - (compactUpTo d d.size).length) 0).toArray := Any.slices_Compact_int_arr Try.laysNm220 blk off cap d w hH hsz hcap
open Go.RowKit Go.Lib Go.Sort in
theorem Try.slices_Compact_int (blk off cap : Nat) (zs : List Int) (w : World) (hH : Holds (Value.int .i64) w blk off zs.toArray) (hsz : zs.length ≤ 9223372036854775807) (hcap : zs.length ≤ cap) :
    Calls Try.prog 81 #[.slice (some ⟨blk, off, none⟩) zs.length cap] w fun e w' => e = .returned (.slice (some ⟨blk, off, none⟩) (Lib.compact zs).length cap) ∧ ∃ q, w' = putRow (Value.int .i64) (Sort.ahead w q) blk off (Lib.compact zs ++ List.replicate (zs.length - (Lib.compact zs).length) 0).toArray := Any.slices_Compact_int Try.laysNm220 blk off cap zs w hH hsz hcap
open Go.RowKit Go.Lib Go.Sort in
theorem Try.slices_Compact_int_empty (a : Option Addr) (cap : Nat) (w : World) :
    Calls Try.prog 81 #[.slice a 0 cap] w fun e w' => e = .returned (.slice a 0 cap) ∧ w' = w := Any.slices_Compact_int_empty Try.laysNm220 a cap w
def Try.laysNm237_ren : Go.Shelf.Ren := ⟨fun | 37 => 101 | n => n, fun | 3 => 3 | 4 => 4 | n => n, fun | n => n⟩
theorem Try.laysNm237 : Go.Proofs.Lays2.n37 Try.prog Try.laysNm237_ren := {
  mixed := by kernel_rfl
  f37 := Try.func101.trans (congrArg some (by kernel_rfl))
  t3 := Try.underlying3
  a3 := Try.isAgg3
  z3 := Try.sizeOf3
  v3 := Try.zeroValue3
  t4 := Try.underlying4
  a4 := Try.isAgg4
  z4 := Try.sizeOf4
  v4 := Try.zeroValue4 }
open Go.RowKit Go.Lib in
theorem Try.cmp_isNaN_int2 (x : Int) (w : World) :
    Calls Try.prog 101 #[.int .i64 x] w fun e w' => e = .returned (.bool false) ∧ w' = w := Any.cmp_isNaN_int2 Try.laysNm237 x w
def Try.laysNm231_ren : Go.Shelf.Ren := ⟨fun | 31 => 109 | 37 => 101 | n => n, fun | 3 => 3 | 4 => 4 | n => n, fun | n => n⟩
theorem Try.laysNm231 : Go.Proofs.Lays2.n31 Try.prog Try.laysNm231_ren := {
  mixed := by kernel_rfl
  f31 := Try.func109.trans (congrArg some (by kernel_rfl))
  f37 := Try.func101.trans (congrArg some (by kernel_rfl))
  t3 := Try.underlying3
  a3 := Try.isAgg3
  z3 := Try.sizeOf3
  v3 := Try.zeroValue3
  t4 := Try.underlying4
  a4 := Try.isAgg4
  z4 := Try.sizeOf4
  v4 := Try.zeroValue4 }
open Go.RowKit Go.Lib in
theorem Try.cmp_Less_int2 (x y : Int) (w : World) :
    Calls Try.prog 109 #[.int .i64 x, .int .i64 y] w fun e w' => e = .returned (.bool (decide (x < y))) ∧ w' = w := Any.cmp_Less_int2 Try.laysNm231 x y w
open Go.RowKit Go.Lib Go.Sort in
theorem Try.slices_Compact_int_cells (b off n c : Nat) (zs : List Int) (w : World) (hz : n ≤ zs.length) (hbig : n ≤ 9223372036854775807) (hcap : n ≤ c) (hc : ∀ j, j < zs.length → w.cell? ⟨b, off + j, none⟩ = some (.int .i64 (zs.getD j 0))) (hf : ∀ j, j < n → w.frozen? ⟨b, off + j, none⟩ = false) :
    Calls Try.prog 81 #[.slice (some ⟨b, off, none⟩) n c] w fun e w' => e = .returned (.slice (some ⟨b, off, none⟩) (Lib.compact (zs.take n)).length c) ∧ ∃ q, w' = (w.drewN q).setCells b off ((Lib.compact (zs.take n) ++ List.replicate (n - (Lib.compact (zs.take n)).length) 0).map (Value.int .i64)) := Any.slices_Compact_int_cells Try.laysNm220 b off n c zs w hz hbig hcap hc hf
open Go.RowKit Go.Sort in
theorem Try.slices_Sort_int_none (p : Option Addr) (cap : Nat) (w : World) :
    Calls Try.prog 80 #[.slice p 0 cap] w fun e w' => e = .returned (.tuple #[]) ∧ w' = w := Any.slices_Sort_int_none Try.lays189 p cap w
end Go.Proofs
/- Objects: the program's look at a list of them. -/
namespace Go.Proofs.Ytamlgjmboljcdaa
open Go.RowKit Go.BigFrame
set_option linter.unusedVariables false
set_option linter.unusedSimpArgs false
theorem IR.shp {w : World} {base : Nat} {v : Value} {l : List Int} (h : IR w base v l) : ∃ g cap, v = .slice (some ⟨g, 0, none⟩) l.length cap ∧ base ≤ g ∧ g < w.heap.size := by
  obtain ⟨h1, g, h2, h3, h4⟩ := h
  rcases h1.2 with ⟨e, _⟩ | ⟨g', cap, cur, e, hb, hh, _⟩
  · rw [e] at h2; cases h2
  · subst e
    have : g' = g := by simpa [Value.ownBlock] using h2
    subst this
    exact ⟨g', cap, rfl, h3, h4⟩
theorem cell_newI {w wx : World} {x : Value} {t : TypeId} (hb : Below (w.heap.size + 1) (w.alloc (.cells #[x] t)) wx) : ∀ j u, [x][j]? = some u → wx.cell? ((⟨w.heap.size, 0, none⟩ : Addr).add j) = some u := fun j u h =>
  (hb.cell (p := (⟨w.heap.size, 0, none⟩ : Addr).add j) (by rw [Go.WideShapes.add_plain]; show w.heap.size < _; omega)).trans (cell_one_new w x t j u h)
def uidsI (cs : UD) (q : Nat) : List Int := (List.range q).map fun j => uidU (rowU cs 17 j)
theorem uidsI_len (cs : UD) (q : Nat) : (uidsI cs q).length = q := by unfold uidsI; simp
theorem uidsI_succ (cs : UD) (q : Nat) : uidsI cs (q + 1) = uidsI cs q ++ [uidU (rowU cs 17 q)] := by unfold uidsI; rw [List.range_succ, List.map_append]; rfl
def okF (cs : UD) (i : Nat) : Prop := 0 < i → lessO (kindU (rowU cs 17 (i - 1))) (kindU (rowU cs 17 i)) (nameU (rowU cs 17 (i - 1))) (nameU (rowU cs 17 i)) = true
def fitI (cs : UD) (n : Nat) : Prop := n ≤ 60 ∧ (∀ i, i < n → okF cs i) ∧ (uidsI cs n).Nodup
theorem uidsI_nodup (cs : UD) (n : Nat) : (uidsI cs n).Nodup ↔ ∀ i, i < n → ∀ k, k < i → uidU (rowU cs 17 k) ≠ uidU (rowU cs 17 i) := by
  unfold List.Nodup
  rw [List.pairwise_iff_getElem]
  constructor
  · intro h i hi k hk
    have := h k i (by rw [uidsI_len]; omega) (by rw [uidsI_len]; exact hi) hk
    simpa [uidsI] using this
  · intro h k i hk hi hki
    rw [uidsI_len] at hi
    have := h i hi k hki
    simpa [uidsI] using this
theorem objsB_iff (cs : UD) (n : Nat) (rev next : Int) : objsB cs n rev next = true ↔ fitI cs n ∧ ∀ i, i < n → objB (rowU cs 17 i) rev next = true ∧ endsB (rowU cs 17 i) = false := by
  by_cases h : ∀ i, i < n → okO cs rev next i
  · rw [objsB_end h]
    constructor
    · intro h60
      exact ⟨⟨by simpa using h60, fun i hi => (h i hi).2.1, (uidsI_nodup cs n).2 (fun i hi => (h i hi).2.2)⟩, fun i hi => (h i hi).1⟩
    · rintro ⟨⟨h60, _⟩, _⟩
      exact decide_eq_true h60
  · constructor
    · intro hb
      exfalso
      apply h
      intro i hi
      apply Classical.byContradiction
      intro hc
      rw [objsB_bad hi hc] at hb
      cases hb
    · rintro ⟨⟨h60, h1, h2⟩, h3⟩
      exact (h (fun i hi => ⟨h3 i hi, h1 i hi, (uidsI_nodup cs n).1 h2 i hi⟩)).elim
theorem below_growI {B : Nat} {a W : World} (os : Array Obj) (h : Below B a W) (hB : B ≤ W.heap.size) : Below B a (Go.Sort.grow W os) :=
  ⟨h.os, h.tape, h.output, Nat.le_trans h.size (by rw [Go.Sort.size_grow]; omega), fun k hk => (Go.Sort.heap_grow_old W os (by omega)).trans (h.block k hk)⟩
theorem uids_sorted (w0 w : World) (base g q cq : Nat) (zs : List Int) (hl : zs.length = q) (h60 : q ≤ 60) (hV : IR w base (.slice (some ⟨g, 0, none⟩) q cq) zs) (hB : Below base w0 w) :
    Calls Try.prog 80 #[.slice (some ⟨g, 0, none⟩) q cq] w fun e w' => e = .returned (.tuple #[]) ∧ Hid (Below base w0 w') ∧ Hid (Calls Try.prog 81 #[.slice (some ⟨g, 0, none⟩) q cq] w' fun e w'' => ∃ m, e = .returned (.slice (some ⟨g, 0, none⟩) m cq) ∧ Hid (m = q ↔ zs.Nodup) ∧ Hid (Below base w0 w'')) := by
  subst hl
  obtain ⟨g', cap, e, hbg, hgw, hnc, hcm, -, hH⟩ := Go.Lib.holds_of_ownsRow (enc := Value.int .i64) hV.1 (by simp)
  cases e
  refine (Try.slices_Sort_int g 0 cq zs w hH hgw (by omega)).mono ?_
  rintro e w' ⟨rfl, n, os, rfl⟩
  have hcs := compact_sorted zs
  have hs : (zs.mergeSort fun x y => decide (x ≤ y)).length = zs.length := List.length_mergeSort zs
  generalize (zs.mergeSort fun x y => decide (x ≤ y)) = ys at *
  have hz : (Go.Sort.putRow (Value.int .i64) (Go.Sort.ahead w n) g 0 ys.toArray).heap.size = w.heap.size := by simp [Go.Sort.putRow, Go.Sort.mapBlock, Go.Sort.ahead]
  have hb1 : Below base w0 (Go.Sort.grow (Go.Sort.putRow (Value.int .i64) (Go.Sort.ahead w n) g 0 ys.toArray) os) := below_growI os (Go.Lib.below_putRow hB hbg) (by rw [hz]; omega)
  have hH2 : Go.Sort.Holds (Value.int .i64) (Go.Sort.grow (Go.Sort.putRow (Value.int .i64) (Go.Sort.ahead w n) g 0 ys.toArray) os) g 0 ys.toArray := Go.Sort.holds_grow _ _ _ _ _ _ (by rw [hz]; exact hgw) (Go.Sort.holds_putRow _ _ _ _ zs.toArray _ (fun j hj => hH j hj) (by simp [hs]))
  refine ⟨rfl, hb1, ?_⟩
  have hc := Try.slices_Compact_int g 0 cq ys _ hH2 (by omega) (by omega)
  rw [hs] at hc
  refine hc.mono ?_
  rintro e w'' ⟨rfl, k, rfl⟩
  exact ⟨_, rfl, hcs, Go.Lib.below_putRow hb1 hbg⟩
set_option maxRecDepth 40000 in
set_option maxHeartbeats 6400000 in
theorem objsFit_any {lo hi : Nat} (n : Nat) (cs : UD) (c : Value) (f : Bool) (w : World) (ht : tyS 17 n cs 8) (hx : uS w lo hi 17 n cs c) (hf : f = true ↔ fitI cs n) :
    Calls Try.prog 67 #[c] w fun e w' => e = .returned (.bool f) ∧ Below w.heap.size w w' := by
  obtain ⟨a, cap, rfl, hx2⟩ := hx
  have Hx : Hid (uS w lo hi 17 n cs (.slice a n cap)) := ⟨a, cap, rfl, hx2⟩
  have Ht := uhide ht
  have HFI := uhide hf
  have no : ¬ fitI cs n → f = false := fun h => by
    cases hff : f with
    | false => rfl
    | true => exact (h (hf.1 hff)).elim
  by_cases h60 : n ≤ 60
  rotate_left
  · have hff := no (fun h => h60 h.1)
    subst hff
    have c60 : decide ((60 : Int) < (n : Int)) = true := by simp; omega
    have hmx := ht.2.2.1
    unfold maxLen at hmx
    clear hx2 ht hf no h60 Hx HFI Ht
    go_enter Try.func67, Try.ntmps67
    go_wp2
    go_ret
    exact ⟨rfl, Below.refl _ _⟩
  have c60 : decide ((60 : Int) < (n : Int)) = false := by simp; omega
  have NO := uhide no
  obtain ⟨i0, hi0, hz0, hz1, hz2⟩ := infoD Try.infoDInt
  have I0 : Hid (IR (w.alloc (.cells #[] 3)) w.heap.size (.slice (some ⟨w.heap.size, 0, none⟩) 0 0) (uidsI cs 0)) := IR.lit w w.heap.size (Nat.le_refl _)
  have B0 : Hid (Below w.heap.size w (w.alloc (.cells #[] 3))) := (Below.refl _ _).alloc (Nat.le_refl _) _
  clear hx2 ht hf no
  go_enter Try.func67, Try.ntmps67
  go_wp2
  go_loopw [3, 12] (fun v i wr => ∃ (q cq g : Nat), q ≤ n ∧ i = .int .i64 q ∧ v = .slice (some ⟨g, 0, none⟩) q cq ∧ Hid (∀ j, j < q → okF cs j) ∧ Hid (IR wr w.heap.size (.slice (some ⟨g, 0, none⟩) q cq) (uidsI cs q)) ∧ Hid (Below w.heap.size w wr)) (fun _ i _ => n - (intOf i).toNat)
  case atStart => exact ⟨0, 0, w.heap.size, Nat.zero_le _, rfl, rfl, fun j hj => by omega, I0, B0⟩
  case round =>
    clear I0 B0
    obtain ⟨q, cq, g, hq, rfl, rfl, Ho, V, HB⟩ := hrel
    by_cases hlt : q < n
    · obtain ⟨b, off, rfl, hbb, hm⟩ := (Hx.out.below HB.out).cells (by omega)
      have htr := Ht.out.row hlt
      obtain ⟨xs, hh, hcl⟩ := (hm.row 17 q).hand
      have hxl : xs.length = 17 := by rw [hh.len, tyL.len htr]; rfl
      have ONE := uhide (one_cell htr hh)
      have HI1 : Hid ((Try.prog.info? 43).map (·.size) = some xs.length) := by show _ = _; rw [hxl]; exact Try.zObj_impl_Obj
      have RX : Hid (wr.rangeAt b (off + q * 17) xs) := hcl
      have TH : Hid ((wr.alloc (.cells ([.int .i64 0, .string ⟨#[]⟩, .int .i64 0, .int .i64 0, .int .i64 0, .bool false, .slice none 0 0, .int .i64 0, .string ⟨#[]⟩, .int .i64 0, .slice none 0 0, .slice none 0 0, .int .i64 0, .string ⟨#[]⟩, .int .i64 0, .slice none 0 0, .slice none 0 0] : List Value).toArray 43)).there wr.heap.size 0 xs.length) := by rw [hxl]; exact (objU.new2 _ _ rfl).there 0 17 (by decide)
      have HOX : Hid (∀ wy, wy = (wr.alloc (.cells ([.int .i64 0, .string ⟨#[]⟩, .int .i64 0, .int .i64 0, .int .i64 0, .bool false, .slice none 0 0, .int .i64 0, .string ⟨#[]⟩, .int .i64 0, .slice none 0 0, .slice none 0 0, .int .i64 0, .string ⟨#[]⟩, .int .i64 0, .slice none 0 0, .slice none 0 0] : List Value).toArray 43)).setCells wr.heap.size 0 xs → objU wy wr.heap.size 43 xs ∧ Below wr.heap.size wr wy) := fun wy e => by
        subst e
        have h1 := objU.setCells (t := 43) xs ([.int .i64 0, .string ⟨#[]⟩, .int .i64 0, .int .i64 0, .int .i64 0, .bool false, .slice none 0 0, .int .i64 0, .string ⟨#[]⟩, .int .i64 0, .slice none 0 0, .slice none 0 0, .int .i64 0, .string ⟨#[]⟩, .int .i64 0, .slice none 0 0, .slice none 0 0]) [] [] _ (objU.new2 (w := wr) _ _ rfl) (by rw [hxl]; rfl)
        refine ⟨by simpa using h1, ?_⟩
        exact ((Below.refl _ _).alloc (Nat.le_refl _) _).trans ((OutS.setCells _ _ _).below (fun t ht => by simp at ht; omega) (by simp))
      have hq0 : (0 : Int) ≤ (q : Int) := Int.natCast_nonneg _
      have hqn : (q : Int) < (n : Int) := by omega
      have hu2 := (obj_cells htr hh).2.2.1
      obtain ⟨U, hU⟩ : ∃ z, z = uidU (rowU cs 17 q) := ⟨_, rfl⟩
      rw [← hU] at hu2
      have X2 := uhide hu2
      have HU := uhide hU
      have HBAD : Hid ((0 < q ∧ lessO (kindU (rowU cs 17 (q - 1))) (kindU (rowU cs 17 q)) (nameU (rowU cs 17 (q - 1))) (nameU (rowU cs 17 q)) = false) → f = false) := fun h => NO.out (fun g => by
        have := g.2.1 q hlt h.1
        rw [this] at h; cases h.2)
      have HOKK : Hid ((0 < q → lessO (kindU (rowU cs 17 (q - 1))) (kindU (rowU cs 17 q)) (nameU (rowU cs 17 (q - 1))) (nameU (rowU cs 17 q)) = true) → ∀ j, j < q + 1 → okF cs j) := fun h3 j hj => by
        by_cases e : j = q
        · subst e
          exact h3
        · exact Ho.out j (by omega)
      have HM := uhide hm
      have HTR := uhide htr
      have HHH := uhide hh
      clear hxl hcl hu2 hU hm htr hh Ho
      go_wp2_with (first
        | ((with_reducible refine wpList_load_row2 ?qqg148 43 ?qqx148 ?qqo148 b (off + q * 17) ?qqh148 xs Try.rObj_impl_Obj HI1.out RX.out ?_); (case qqg148 => rfl); (case qqo148 => rfl); (case qqh148 => simp [Act.eval, Act.put]))
        | ((with_reducible refine wpList_store_cells ?qqg149 43 ?qqx149 ?qqy149 ?qqo149 ?qqd149 wr.heap.size 0 ?qqh149 (.agg xs.toArray) ?qqv149 xs cells_agg ONE.out HI1.out TH.out ?_); (case qqg149 => rfl); (case qqo149 => rfl); (case qqd149 => rfl); (case qqh149 => simp [Act.eval, Act.put]); (case qqv149 => simp [Act.eval, Act.put]); intro wy ey; have HY := uhide (HOX.out wy ey); clear ey)
        )
      obtain ⟨hox, hbel⟩ := HY.out
      have C0 : Hid (wy.rangeAt wr.heap.size 0 xs) := hox.range 0 xs (fun i v h => by simpa using h)
      have C2 : Hid (wy.cell? ⟨wr.heap.size, 2, none⟩ = some (.int .i64 U)) := hox.cell 2 _ X2.out
      have HBY : Hid (Below w.heap.size w wy) := HB.out.trans (hbel.mono HB.out.size)
      have VY : Hid (IR wy w.heap.size (.slice (some ⟨g, 0, none⟩) q cq) (uidsI cs q)) := V.out.below hbel
      have HLT : Hid (wr.heap.size < wy.heap.size) := hox.lt
      have HBEL := uhide hbel
      clear hox hbel HY HOX TH ONE X2 V HB
      rcases Nat.eq_zero_or_pos q with hz | hz
      · subst hz
        have Hn := uhide (HOKK.out (fun h => by omega))
        clear HBAD HOKK
        refine wp_region_held_drew (S := fun w' => w'.rangeAt wr.heap.size 0 xs ∧ True) (by kernel_rfl) ⟨range_below C0.out (Below.drew (Below.refl _ _)), trivial⟩ (fun hHeld => ?_)
        refine wpAnyH_take (i := 0) (oi := ⟨some 17, .move (.tmp 4), _, _, _, _⟩) (v := .int .i64 0) rfl (by kernel_rfl) (by kernel_rfl) (by kernel_rfl) (fun _ _ _ h => h) (Or.inl ⟨by rfl, by intro w hSw; go_simp⟩) hHeld ?_
        simp only [Act.put, List.setIfInBounds_toArray, List.set_cons_zero, List.set_cons_succ]
        refine wpAnyH_take (i := 1) (oi := ⟨some 18, .binOp .gtr _ (.tmp 17) (.const (.int .i64 0)) _, _, _, _, _⟩) (v := .bool false) rfl (by kernel_rfl) (by kernel_rfl) (by kernel_rfl) (fun _ _ _ h => h) (Or.inl ⟨by rfl, by intro w hSw; go_simp⟩) hHeld ?_
        simp only [Act.put, List.setIfInBounds_toArray, List.set_cons_zero, List.set_cons_succ]
        refine wpAnyH_take (i := 2) (oi := ⟨some 19, .move (.tmp 18), _, _, _, _⟩) (v := .bool false) rfl (by kernel_rfl) (by kernel_rfl) (by kernel_rfl) (fun _ _ _ h => h) (Or.inl ⟨by rfl, by intro w hSw; go_simp⟩) hHeld ?_
        simp only [Act.put, List.setIfInBounds_toArray, List.set_cons_zero, List.set_cons_succ]
        refine wpAnyH_take (i := 3) (oi := ⟨some 20, .move (.tmp 0), _, _, _, _⟩) (v := undef) rfl (by kernel_rfl) (by kernel_rfl) (by kernel_rfl) (fun _ _ _ h => h) (Or.inr ⟨by rfl, rfl⟩) hHeld ?_
        simp only [Act.put, List.setIfInBounds_toArray, List.set_cons_zero, List.set_cons_succ]
        refine wpAnyH_take (i := 4) (oi := ⟨some 21, .move (.tmp 4), _, _, _, _⟩) (v := undef) rfl (by kernel_rfl) (by kernel_rfl) (by kernel_rfl) (fun _ _ _ h => h) (Or.inr ⟨by rfl, rfl⟩) hHeld ?_
        simp only [Act.put, List.setIfInBounds_toArray, List.set_cons_zero, List.set_cons_succ]
        refine wpAnyH_take (i := 5) (oi := ⟨some 22, .binOp .sub _ (.tmp 21) (.const (.int .i64 1)) _, _, _, _, _⟩) (v := undef) rfl (by kernel_rfl) (by kernel_rfl) (by kernel_rfl) (fun _ _ _ h => h) (Or.inr ⟨by rfl, rfl⟩) hHeld ?_
        simp only [Act.put, List.setIfInBounds_toArray, List.set_cons_zero, List.set_cons_succ]
        refine wpAnyH_take (i := 6) (oi := ⟨some 23, .indexAddr _ (.tmp 20) (.tmp 22), _, _, _, _⟩) (v := undef) rfl (by kernel_rfl) (by kernel_rfl) (by kernel_rfl) (fun _ _ _ h => h) (Or.inr ⟨by rfl, rfl⟩) hHeld ?_
        simp only [Act.put, List.setIfInBounds_toArray, List.set_cons_zero, List.set_cons_succ]
        refine wpAnyH_take (i := 7) (oi := ⟨some 24, .load _ (.tmp 23), _, _, _, _⟩) (v := undef) rfl (by kernel_rfl) (by kernel_rfl) (by kernel_rfl) (fun _ _ _ h => h) (Or.inr ⟨by rfl, rfl⟩) hHeld ?_
        simp only [Act.put, List.setIfInBounds_toArray, List.set_cons_zero, List.set_cons_succ]
        refine wpAnyH_take (i := 8) (oi := ⟨some 25, .load _ (.tmp 5), _, _, _, _⟩) (v := undef) rfl (by kernel_rfl) (by kernel_rfl) (by kernel_rfl) (fun _ _ _ h => h) (Or.inr ⟨by rfl, rfl⟩) hHeld ?_
        simp only [Act.put, List.setIfInBounds_toArray, List.set_cons_zero, List.set_cons_succ]
        refine wpAnyH_take (i := 9) (oi := ⟨some 26, _, _, _, _, _⟩) (v := undef) rfl (by kernel_rfl) (by kernel_rfl) (by kernel_rfl) (fun _ _ _ h => h) (Or.inr ⟨by rfl, rfl⟩) hHeld ?_
        simp only [Act.put, List.setIfInBounds_toArray, List.set_cons_zero, List.set_cons_succ]
        refine wpAnyH_take (i := 10) (oi := ⟨some 27, .binOp .geq _ (.tmp 26) (.const (.int .i64 0)) _, _, _, _, _⟩) (v := undef) rfl (by kernel_rfl) (by kernel_rfl) (by kernel_rfl) (fun _ _ _ h => h) (Or.inr ⟨by rfl, rfl⟩) hHeld ?_
        simp only [Act.put, List.setIfInBounds_toArray, List.set_cons_zero, List.set_cons_succ]
        refine wpAnyH_take (i := 11) (oi := ⟨some 28, .pick (.tmp 19) (.tmp 27) (.const (.bool false)), _, _, _, _⟩) (v := .bool false) rfl (by kernel_rfl) (by kernel_rfl) (by kernel_rfl) (fun _ _ _ h => h) (Or.inl ⟨by rfl, by intro w hSw; go_simp⟩) hHeld ?_
        simp only [Act.put, List.setIfInBounds_toArray, List.set_cons_zero, List.set_cons_succ]
        refine wpAnyH_done (by kernel_rfl) ?_ _
        clear hHeld
        have hb3 : Hid (Below wy.heap.size wy wy.drew) := Below.drew (Below.refl _ _)
        generalize wy.drew = w3 at *
        have cu : w3.cell? ⟨wr.heap.size, 2, none⟩ = some (.int .i64 U) := (hb3.out.cell (p := ⟨wr.heap.size, 2, none⟩) HLT.out).trans C2.out
        have V2 : Hid (IR w3 w.heap.size (.slice (some ⟨g, 0, none⟩) (0) cq) (uidsI cs (0))) := VY.out.below hb3.out
        have HB2 : Hid (Below w.heap.size w w3) := HBY.out.trans (hb3.out.mono HBY.out.size)
        have hws : w.heap.size ≤ w3.heap.size := HB2.out.size
        have VN : Hid (∀ wx, Below w3.heap.size w3 wx → wx.ownsRow w.heap.size 3 1 (.slice (some ⟨g, 0, none⟩) (0) cq) (0) ((uidsI cs (0)).map (Value.int .i64))) := fun wx hb => by
          have := (V2.out.below hb).1
          rw [uidsI_len] at this; exact this
        go_wp2_with (at_builtin; refine wpList_append_own_at _ rfl _ _ 106 rfl w.heap.size 3 i0 _ 1 8 Try.underlying106 hi0 hz0 hz1 hz2 rfl (by decide) _ _ _ rfl (VN.out _ (by repeat (first | with_reducible exact Below.refl _ _ | with_reducible refine Below.drew ?_ | with_reducible refine below_drewN ?_ _ | with_reducible refine Below.alloc ?_ (by simp) _))) ⟨w3.heap.size, 0, none⟩ 1 1 [.int .i64 U] rfl rfl (cell_newI (t := 3) (by repeat (first | with_reducible exact Below.refl _ _ | with_reducible refine Below.drew ?_ | with_reducible refine below_drewN ?_ _))) (fun x hx => by simp at hx; rcases hx with rfl; rfl) (by unfold maxLen; omega) (by omega) (by simp; omega) ?_; intro v3 w5 hown hgrow hnil hat)
        have I3 : Hid (IR w5 w.heap.size v3 (uidsI cs (0 + 1))) := by
          have h0 : IR (w3.alloc (.cells #[.int .i64 U] 3)) w.heap.size (.slice (some ⟨g, 0, none⟩) (0) cq) (uidsI cs (0)) := V2.out.below (by repeat (first | with_reducible exact Below.refl _ _ | with_reducible refine Below.drew ?_ | with_reducible refine Below.alloc ?_ (by simp) _))
          rw [uidsI_succ, ← HU.out]
          exact h0.snoc (by rw [uidsI_len]; exact hown) hat
        have HB3 : Hid (Below w.heap.size w w5) := Below.grown (HB2.out.alloc hws _) hgrow (by simp; omega) (fun j hj => V2.out.row j hj)
        obtain ⟨g3, cap3, e3, -, -⟩ := I3.out.shp
        rw [uidsI_len] at e3
        subst e3
        clear hown hgrow hnil hat VN V2 HB2
        go_roundw
        case rel => exact ⟨0 + 1, cap3, g3, by omega, by go_num, rfl, Hn, I3, HB3⟩
        case measure => (simp [intOf] <;> omega)
      · obtain ⟨p, rfl⟩ : ∃ p, q = p + 1 := ⟨q - 1, by omega⟩
        obtain ⟨ys, hhy, hcy⟩ := (HM.out.row 17 p).hand
        have hty := Ht.out.row (show p < n by omega)
        have C1 : Hid (wy.rangeAt b (off + p * 17) ys) := range_below hcy (HBEL.out.mono (Nat.le_refl _))
        have HI2 : Hid ((Try.prog.info? 43).map (·.size) = some ys.length) := by show _ = _; rw [hhy.len, tyL.len hty]; exact Try.zObj_impl_Obj
        obtain ⟨ORD, hORD⟩ : ∃ z, z = ordO (kindU (rowU cs 17 p)) (kindU (rowU cs 17 (p + 1))) (nameU (rowU cs 17 p)) (nameU (rowU cs 17 (p + 1))) := ⟨_, rfl⟩
        have HC3 : Hid (∀ wx, Below wy.heap.size wy wx → Calls Try.prog 79 #[.agg ys.toArray, .agg xs.toArray] wx fun e w' => e = .returned (.int .i64 ORD) ∧ Hid (Below wy.heap.size wy w')) := fun wx hb => (hORD ▸ iorder_any (lo := lo) (hi := hi) (lo' := lo) (hi' := hi) _ _ ys xs wx hty HTR.out (hhy.below (HBEL.out.trans (hb.mono HBEL.out.size))) (HHH.out.below (HBEL.out.trans (hb.mono HBEL.out.size)))).mono fun e w' h => ⟨h.1, hb.trans (h.2.mono hb.size)⟩
        have hpp0 : (0 : Int) ≤ (p : Int) := Int.natCast_nonneg _
        have hppn : (p : Int) < (n : Int) := by omega
        have hpp1 : (0 : Int) < (p : Int) + 1 := by omega
        have hwp : IntKind.i64.wrap (p : Int) = (p : Int) := by rw [IntKind.wrap_i64]; omega
        have hle := ordO_less (kindU (rowU cs 17 p)) (kindU (rowU cs 17 (p + 1))) (nameU (rowU cs 17 p)) (nameU (rowU cs 17 (p + 1)))
        rw [← hORD] at hle
        cases hls : lessO (kindU (rowU cs 17 p)) (kindU (rowU cs 17 (p + 1))) (nameU (rowU cs 17 p)) (nameU (rowU cs 17 (p + 1))) with
        | false =>
          have Hn := uhide (HBAD.out ⟨by omega, by rw [Nat.add_sub_cancel]; exact hls⟩)
          rw [hls] at hle
          have hd : decide (0 ≤ ORD) = true := by simpa using hle
          clear HBAD HOKK hhy hcy hty hORD hle hls HM HTR HHH
          refine wp_region_held_drew (S := fun w' => w'.rangeAt wr.heap.size 0 xs ∧ w'.rangeAt b (off + p * 17) ys) (by kernel_rfl) ⟨range_below C0.out (Below.drew (Below.refl _ _)), range_below C1.out (Below.drew (Below.refl _ _))⟩ (fun hHeld => ?_)
          refine wpAnyH_take (i := 0) (oi := ⟨some 17, .move (.tmp 4), _, _, _, _⟩) (v := .int .i64 ((p + 1 : Nat) : Int)) rfl (by kernel_rfl) (by kernel_rfl) (by kernel_rfl) (fun _ _ _ h => h) (Or.inl ⟨by rfl, by intro w hSw; go_simp⟩) hHeld ?_
          simp only [Act.put, List.setIfInBounds_toArray, List.set_cons_zero, List.set_cons_succ]
          refine wpAnyH_take (i := 1) (oi := ⟨some 18, .binOp .gtr _ (.tmp 17) (.const (.int .i64 0)) _, _, _, _, _⟩) (v := .bool true) rfl (by kernel_rfl) (by kernel_rfl) (by kernel_rfl) (fun _ _ _ h => h) (Or.inl ⟨by rfl, by intro w hSw; go_simp⟩) hHeld ?_
          simp only [Act.put, List.setIfInBounds_toArray, List.set_cons_zero, List.set_cons_succ]
          refine wpAnyH_take (i := 2) (oi := ⟨some 19, .move (.tmp 18), _, _, _, _⟩) (v := .bool true) rfl (by kernel_rfl) (by kernel_rfl) (by kernel_rfl) (fun _ _ _ h => h) (Or.inl ⟨by rfl, by intro w hSw; go_simp⟩) hHeld ?_
          simp only [Act.put, List.setIfInBounds_toArray, List.set_cons_zero, List.set_cons_succ]
          refine wpAnyH_take (i := 3) (oi := ⟨some 20, .move (.tmp 0), _, _, _, _⟩) (v := .slice (some ⟨b, off, none⟩) n cap) rfl (by kernel_rfl) (by kernel_rfl) (by kernel_rfl) (fun _ _ _ h => h) (Or.inl ⟨by rfl, by intro w hSw; go_simp⟩) hHeld ?_
          simp only [Act.put, List.setIfInBounds_toArray, List.set_cons_zero, List.set_cons_succ]
          refine wpAnyH_take (i := 4) (oi := ⟨some 21, .move (.tmp 4), _, _, _, _⟩) (v := .int .i64 ((p + 1 : Nat) : Int)) rfl (by kernel_rfl) (by kernel_rfl) (by kernel_rfl) (fun _ _ _ h => h) (Or.inl ⟨by rfl, by intro w hSw; go_simp⟩) hHeld ?_
          simp only [Act.put, List.setIfInBounds_toArray, List.set_cons_zero, List.set_cons_succ]
          refine wpAnyH_take (i := 5) (oi := ⟨some 22, .binOp .sub _ (.tmp 21) (.const (.int .i64 1)) _, _, _, _, _⟩) (v := .int .i64 (p : Int)) rfl (by kernel_rfl) (by kernel_rfl) (by kernel_rfl) (fun _ _ _ h => h) (Or.inl ⟨by rfl, by intro w hSw; go_simp⟩) hHeld ?_
          simp only [Act.put, List.setIfInBounds_toArray, List.set_cons_zero, List.set_cons_succ]
          refine wpAnyH_take (i := 6) (oi := ⟨some 23, .indexAddr _ (.tmp 20) (.tmp 22), _, _, _, _⟩) (v := .pointer (some ⟨b, off + p * 17, none⟩)) rfl (by kernel_rfl) (by kernel_rfl) (by kernel_rfl) (fun _ _ _ h => h) (Or.inl ⟨by rfl, by intro w hSw; go_simp⟩) hHeld ?_
          simp only [Act.put, List.setIfInBounds_toArray, List.set_cons_zero, List.set_cons_succ]
          refine wpAnyH_take (i := 7) (oi := ⟨some 24, .load _ (.tmp 23), _, _, _, _⟩) (v := .agg ys.toArray) rfl (by kernel_rfl) (by kernel_rfl) (by kernel_rfl) (fun _ _ _ h => h) (yieldsIf_load_row (by rfl) 43 _ rfl b (off + p * 17) rfl ys (fun w hS => hS.2) Try.rObj_impl_Obj HI2.out) hHeld ?_
          simp only [Act.put, List.setIfInBounds_toArray, List.set_cons_zero, List.set_cons_succ]
          refine wpAnyH_take (i := 8) (oi := ⟨some 25, .load _ (.tmp 5), _, _, _, _⟩) (v := .agg xs.toArray) rfl (by kernel_rfl) (by kernel_rfl) (by kernel_rfl) (fun _ _ _ h => h) (yieldsIf_load_row (by rfl) 43 _ rfl (wr.heap.size) 0 rfl xs (fun w hS => hS.1) Try.rObj_impl_Obj HI1.out) hHeld ?_
          simp only [Act.put, List.setIfInBounds_toArray, List.set_cons_zero, List.set_cons_succ]
          refine wpAnyH_ready (rs := [9]) (by kernel_rfl) (by simp) (AllReadyH.cons (o := ⟨some 26, .call { callee := .value (.func 79), args := #[.tmp 24, .tmp 25], argTypes := #[43, 43] }, _, _, _, _⟩) rfl (fun K hK => ?_) AllReadyH.nil)
          refine step_call_w (by rfl) 79 #[.tmp 24, .tmp 25] #[43, 43] rfl (callFunc_enter Try.func79 (by kernel_rfl) (by kernel_rfl)) #[.agg ys.toArray, .agg xs.toArray] (by simp [Act.eval]) (HC3.out _ (Below.drew (Below.refl _ _))) ?_
          rintro e w4 ⟨rfl, hb4⟩
          refine ⟨.int .i64 ORD, rfl, hK.out _ _ ⟨range_below C0.out hb4.out, range_below C1.out hb4.out⟩ (fun hHeld => ?_)⟩
          clear hK K
          simp only [Act.put, List.setIfInBounds_toArray, List.set_cons_zero, List.set_cons_succ]
          refine wpAnyH_take (i := 10) (oi := ⟨some 27, .binOp .geq _ (.tmp 26) (.const (.int .i64 0)) _, _, _, _, _⟩) (v := .bool true) rfl (by kernel_rfl) (by kernel_rfl) (by kernel_rfl) (fun _ _ _ h => h) (Or.inl ⟨by rfl, by intro w hSw; go_simp⟩) hHeld ?_
          simp only [Act.put, List.setIfInBounds_toArray, List.set_cons_zero, List.set_cons_succ]
          refine wpAnyH_take (i := 11) (oi := ⟨some 28, .pick (.tmp 19) (.tmp 27) (.const (.bool false)), _, _, _, _⟩) (v := .bool true) rfl (by kernel_rfl) (by kernel_rfl) (by kernel_rfl) (fun _ _ _ h => h) (Or.inl ⟨by rfl, by intro w hSw; go_simp⟩) hHeld ?_
          simp only [Act.put, List.setIfInBounds_toArray, List.set_cons_zero, List.set_cons_succ]
          refine wpAnyH_done (by kernel_rfl) ?_ _
          clear hHeld
          go_wp2
          go_ret
          exact ⟨ret_bool Hn.out.symm, HBY.out.trans (hb4.out.mono HBY.out.size)⟩
        | true =>
          have Hn := uhide (HOKK.out (fun _ => by rw [Nat.add_sub_cancel]; exact hls))
          rw [hls] at hle
          have hd : decide (0 ≤ ORD) = false := by simpa using hle
          clear HBAD HOKK hhy hcy hty hORD hle hls HM HTR HHH
          refine wp_region_held_drew (S := fun w' => w'.rangeAt wr.heap.size 0 xs ∧ w'.rangeAt b (off + p * 17) ys) (by kernel_rfl) ⟨range_below C0.out (Below.drew (Below.refl _ _)), range_below C1.out (Below.drew (Below.refl _ _))⟩ (fun hHeld => ?_)
          refine wpAnyH_take (i := 0) (oi := ⟨some 17, .move (.tmp 4), _, _, _, _⟩) (v := .int .i64 ((p + 1 : Nat) : Int)) rfl (by kernel_rfl) (by kernel_rfl) (by kernel_rfl) (fun _ _ _ h => h) (Or.inl ⟨by rfl, by intro w hSw; go_simp⟩) hHeld ?_
          simp only [Act.put, List.setIfInBounds_toArray, List.set_cons_zero, List.set_cons_succ]
          refine wpAnyH_take (i := 1) (oi := ⟨some 18, .binOp .gtr _ (.tmp 17) (.const (.int .i64 0)) _, _, _, _, _⟩) (v := .bool true) rfl (by kernel_rfl) (by kernel_rfl) (by kernel_rfl) (fun _ _ _ h => h) (Or.inl ⟨by rfl, by intro w hSw; go_simp⟩) hHeld ?_
          simp only [Act.put, List.setIfInBounds_toArray, List.set_cons_zero, List.set_cons_succ]
          refine wpAnyH_take (i := 2) (oi := ⟨some 19, .move (.tmp 18), _, _, _, _⟩) (v := .bool true) rfl (by kernel_rfl) (by kernel_rfl) (by kernel_rfl) (fun _ _ _ h => h) (Or.inl ⟨by rfl, by intro w hSw; go_simp⟩) hHeld ?_
          simp only [Act.put, List.setIfInBounds_toArray, List.set_cons_zero, List.set_cons_succ]
          refine wpAnyH_take (i := 3) (oi := ⟨some 20, .move (.tmp 0), _, _, _, _⟩) (v := .slice (some ⟨b, off, none⟩) n cap) rfl (by kernel_rfl) (by kernel_rfl) (by kernel_rfl) (fun _ _ _ h => h) (Or.inl ⟨by rfl, by intro w hSw; go_simp⟩) hHeld ?_
          simp only [Act.put, List.setIfInBounds_toArray, List.set_cons_zero, List.set_cons_succ]
          refine wpAnyH_take (i := 4) (oi := ⟨some 21, .move (.tmp 4), _, _, _, _⟩) (v := .int .i64 ((p + 1 : Nat) : Int)) rfl (by kernel_rfl) (by kernel_rfl) (by kernel_rfl) (fun _ _ _ h => h) (Or.inl ⟨by rfl, by intro w hSw; go_simp⟩) hHeld ?_
          simp only [Act.put, List.setIfInBounds_toArray, List.set_cons_zero, List.set_cons_succ]
          refine wpAnyH_take (i := 5) (oi := ⟨some 22, .binOp .sub _ (.tmp 21) (.const (.int .i64 1)) _, _, _, _, _⟩) (v := .int .i64 (p : Int)) rfl (by kernel_rfl) (by kernel_rfl) (by kernel_rfl) (fun _ _ _ h => h) (Or.inl ⟨by rfl, by intro w hSw; go_simp⟩) hHeld ?_
          simp only [Act.put, List.setIfInBounds_toArray, List.set_cons_zero, List.set_cons_succ]
          refine wpAnyH_take (i := 6) (oi := ⟨some 23, .indexAddr _ (.tmp 20) (.tmp 22), _, _, _, _⟩) (v := .pointer (some ⟨b, off + p * 17, none⟩)) rfl (by kernel_rfl) (by kernel_rfl) (by kernel_rfl) (fun _ _ _ h => h) (Or.inl ⟨by rfl, by intro w hSw; go_simp⟩) hHeld ?_
          simp only [Act.put, List.setIfInBounds_toArray, List.set_cons_zero, List.set_cons_succ]
          refine wpAnyH_take (i := 7) (oi := ⟨some 24, .load _ (.tmp 23), _, _, _, _⟩) (v := .agg ys.toArray) rfl (by kernel_rfl) (by kernel_rfl) (by kernel_rfl) (fun _ _ _ h => h) (yieldsIf_load_row (by rfl) 43 _ rfl b (off + p * 17) rfl ys (fun w hS => hS.2) Try.rObj_impl_Obj HI2.out) hHeld ?_
          simp only [Act.put, List.setIfInBounds_toArray, List.set_cons_zero, List.set_cons_succ]
          refine wpAnyH_take (i := 8) (oi := ⟨some 25, .load _ (.tmp 5), _, _, _, _⟩) (v := .agg xs.toArray) rfl (by kernel_rfl) (by kernel_rfl) (by kernel_rfl) (fun _ _ _ h => h) (yieldsIf_load_row (by rfl) 43 _ rfl (wr.heap.size) 0 rfl xs (fun w hS => hS.1) Try.rObj_impl_Obj HI1.out) hHeld ?_
          simp only [Act.put, List.setIfInBounds_toArray, List.set_cons_zero, List.set_cons_succ]
          refine wpAnyH_ready (rs := [9]) (by kernel_rfl) (by simp) (AllReadyH.cons (o := ⟨some 26, .call { callee := .value (.func 79), args := #[.tmp 24, .tmp 25], argTypes := #[43, 43] }, _, _, _, _⟩) rfl (fun K hK => ?_) AllReadyH.nil)
          refine step_call_w (by rfl) 79 #[.tmp 24, .tmp 25] #[43, 43] rfl (callFunc_enter Try.func79 (by kernel_rfl) (by kernel_rfl)) #[.agg ys.toArray, .agg xs.toArray] (by simp [Act.eval]) (HC3.out _ (Below.drew (Below.refl _ _))) ?_
          rintro e w4 ⟨rfl, hb4⟩
          refine ⟨.int .i64 ORD, rfl, hK.out _ _ ⟨range_below C0.out hb4.out, range_below C1.out hb4.out⟩ (fun hHeld => ?_)⟩
          clear hK K
          simp only [Act.put, List.setIfInBounds_toArray, List.set_cons_zero, List.set_cons_succ]
          refine wpAnyH_take (i := 10) (oi := ⟨some 27, .binOp .geq _ (.tmp 26) (.const (.int .i64 0)) _, _, _, _, _⟩) (v := .bool false) rfl (by kernel_rfl) (by kernel_rfl) (by kernel_rfl) (fun _ _ _ h => h) (Or.inl ⟨by rfl, by intro w hSw; go_simp⟩) hHeld ?_
          simp only [Act.put, List.setIfInBounds_toArray, List.set_cons_zero, List.set_cons_succ]
          refine wpAnyH_take (i := 11) (oi := ⟨some 28, .pick (.tmp 19) (.tmp 27) (.const (.bool false)), _, _, _, _⟩) (v := .bool false) rfl (by kernel_rfl) (by kernel_rfl) (by kernel_rfl) (fun _ _ _ h => h) (Or.inl ⟨by rfl, by intro w hSw; go_simp⟩) hHeld ?_
          simp only [Act.put, List.setIfInBounds_toArray, List.set_cons_zero, List.set_cons_succ]
          refine wpAnyH_done (by kernel_rfl) ?_ _
          clear hHeld
          have cu : w4.cell? ⟨wr.heap.size, 2, none⟩ = some (.int .i64 U) := (hb4.out.cell (p := ⟨wr.heap.size, 2, none⟩) HLT.out).trans C2.out
          have V2 : Hid (IR w4 w.heap.size (.slice (some ⟨g, 0, none⟩) (p + 1) cq) (uidsI cs (p + 1))) := VY.out.below hb4.out
          have HB2 : Hid (Below w.heap.size w w4) := HBY.out.trans (hb4.out.mono HBY.out.size)
          have hws : w.heap.size ≤ w4.heap.size := HB2.out.size
          have VN : Hid (∀ wx, Below w4.heap.size w4 wx → wx.ownsRow w.heap.size 3 1 (.slice (some ⟨g, 0, none⟩) (p + 1) cq) (p + 1) ((uidsI cs (p + 1)).map (Value.int .i64))) := fun wx hb => by
            have := (V2.out.below hb).1
            rw [uidsI_len] at this; exact this
          go_wp2_with (at_builtin; refine wpList_append_own_at _ rfl _ _ 106 rfl w.heap.size 3 i0 _ 1 8 Try.underlying106 hi0 hz0 hz1 hz2 rfl (by decide) _ _ _ rfl (VN.out _ (by repeat (first | with_reducible exact Below.refl _ _ | with_reducible refine Below.drew ?_ | with_reducible refine below_drewN ?_ _ | with_reducible refine Below.alloc ?_ (by simp) _))) ⟨w4.heap.size, 0, none⟩ 1 1 [.int .i64 U] rfl rfl (cell_newI (t := 3) (by repeat (first | with_reducible exact Below.refl _ _ | with_reducible refine Below.drew ?_ | with_reducible refine below_drewN ?_ _))) (fun x hx => by simp at hx; rcases hx with rfl; rfl) (by unfold maxLen; omega) (by omega) (by simp; omega) ?_; intro v3 w5 hown hgrow hnil hat)
          have I3 : Hid (IR w5 w.heap.size v3 (uidsI cs (p + 1 + 1))) := by
            have h0 : IR (w4.alloc (.cells #[.int .i64 U] 3)) w.heap.size (.slice (some ⟨g, 0, none⟩) (p + 1) cq) (uidsI cs (p + 1)) := V2.out.below (by repeat (first | with_reducible exact Below.refl _ _ | with_reducible refine Below.drew ?_ | with_reducible refine Below.alloc ?_ (by simp) _))
            rw [uidsI_succ, ← HU.out]
            exact h0.snoc (by rw [uidsI_len]; exact hown) hat
          have HB3 : Hid (Below w.heap.size w w5) := Below.grown (HB2.out.alloc hws _) hgrow (by simp; omega) (fun j hj => V2.out.row j hj)
          obtain ⟨g3, cap3, e3, -, -⟩ := I3.out.shp
          rw [uidsI_len] at e3
          subst e3
          clear hown hgrow hnil hat VN V2 HB2
          go_roundw
          case rel => exact ⟨p + 1 + 1, cap3, g3, by omega, by go_num, rfl, Hn, I3, HB3⟩
          case measure => (simp [intOf] <;> omega)
    · have e : q = n := by omega
      subst e
      have HV : Hid (f = decide ((uidsI cs q).Nodup)) := by
        show f = _
        cases hff : f with
        | true => exact (decide_eq_true ((HFI.out.1 hff).2.2)).symm
        | false => exact (decide_eq_false (fun hn => by rw [HFI.out.2 ⟨h60, Ho.out, hn⟩] at hff; cases hff)).symm
      have HS := uhide (uids_sorted w wr w.heap.size g q cq (uidsI cs q) (uidsI_len cs q) h60 V.out HB.out)
      clear Ho V HB Hx Ht
      go_wp2_with (go_at_call 80; refine HS.out.mono ?_; rintro e w7 ⟨rfl, hb7, hc7⟩)
      go_wp2_with (go_at_call 81; refine hc7.out.mono ?_; rintro e w8 ⟨m, rfl, hm8, hb8⟩)
      go_ret
      have he : decide ((uidsI cs q).Nodup) = decide (m = q) := by rw [decide_eq_decide]; exact hm8.out.symm
      exact ⟨ret_bool (by rw [HV.out, he]; by_cases e : m = q <;> simp [e] <;> omega), hb8.out⟩
end Go.Proofs.Ytamlgjmboljcdaa
/- Objects: the program's look at a list of them, whole. -/
namespace Go.Proofs.Ytamlgjmboljcdaa
open Go.RowKit Go.BigFrame
set_option linter.unusedVariables false
set_option linter.unusedSimpArgs false
set_option maxRecDepth 40000 in
set_option maxHeartbeats 6400000 in
theorem standOk_any {lo hi : Nat} (d : UD) (xs : List Value) (rev next : Int) (w : World) (ht : tyL d (uE 8)) (hx : uH w lo hi d xs) (hn0 : -9223372036854775807 ≤ next) (hn1 : next ≤ 9223372036854775807) :
    Calls Try.prog 68 #[.agg xs.toArray, .int .i64 rev, .int .i64 (next - 1)] w fun e w' => e = .returned (.bool (objB d rev next && !endsB d)) ∧ Below w.heap.size w w' := by
  obtain ⟨ob, hob⟩ : ∃ z, z = objB d rev next := ⟨_, rfl⟩
  obtain ⟨en, hen⟩ : ∃ z, z = endsB d := ⟨_, rfl⟩
  have K1 : Hid (∀ wx, Below w.heap.size w wx → Calls Try.prog 69 #[.agg xs.toArray, .int .i64 rev, .int .i64 (next - 1)] wx fun e w' => e = .returned (.bool ob) ∧ Hid (Below wx.heap.size wx w')) := fun wx hb => hob ▸ objOk_any (lo := lo) (hi := hi) _ xs rev next wx ht (hx.below hb) hn0 hn1
  have K2 : Hid (∀ wx, Below w.heap.size w wx → Calls Try.prog 70 #[.agg xs.toArray] wx fun e w' => e = .returned (.bool en) ∧ Hid (Below wx.heap.size wx w')) := fun wx hb => hen ▸ iends_any (lo := lo) (hi := hi) _ xs wx ht (hx.below hb)
  have HI1 : Hid ((Try.prog.info? 43).map (·.size) = some xs.length) := by show _ = _; rw [hx.len, tyL.len ht]; exact Try.zObj_impl_Obj
  rw [← hob, ← hen]
  have C0 : Hid ((w.alloc (.cells xs.toArray 43)).rangeAt w.heap.size 0 xs) := (objU.new w 43 xs).range 0 xs (fun i v h => by rw [Nat.zero_add]; exact h)
  have B0 : Hid (Below w.heap.size w (w.alloc (.cells xs.toArray 43))) := (Below.refl _ _).alloc (Nat.le_refl _) _
  clear hob hen hx ht hn0 hn1
  cases ob with
  | false =>
    go_enter Try.func68, Try.ntmps68
    go_wp2_with (first
      | ((with_reducible refine wpList_load_rowG ?qqg23 43 ?qqx23 ?qqo23 w.heap.size 0 ?qqh23 xs Try.rObj_impl_Obj HI1.out C0.out ?_); (case qqg23 => rfl); (case qqo23 => rfl); (case qqh23 => simp [Act.eval, Act.put]))
      | (go_at_call 69; refine (K1.out _ B0.out).mono ?_; rintro e w2 ⟨rfl, hb2⟩)
      )
    go_ret
    exact ⟨rfl, B0.out.trans (hb2.out.mono B0.out.size)⟩
  | true =>
    go_enter Try.func68, Try.ntmps68
    go_wp2_with (first
      | ((with_reducible refine wpList_load_rowG ?qqg31 43 ?qqx31 ?qqo31 w.heap.size 0 ?qqh31 xs Try.rObj_impl_Obj HI1.out C0.out ?_); (case qqg31 => rfl); (case qqo31 => rfl); (case qqh31 => simp [Act.eval, Act.put]))
      | (go_at_call 69; refine (K1.out _ B0.out).mono ?_; rintro e w2 ⟨rfl, hb2⟩; have C2 := uhide (range_below C0.out hb2.out); have B2 : Hid (Below w.heap.size w w2) := B0.out.trans (hb2.out.mono B0.out.size))
      | ((with_reducible refine wpList_load_rowG ?qqg33 43 ?qqx33 ?qqo33 w.heap.size 0 ?qqh33 xs Try.rObj_impl_Obj HI1.out C2.out ?_); (case qqg33 => rfl); (case qqo33 => rfl); (case qqh33 => simp [Act.eval, Act.put]))
      | (go_at_call 70; refine (K2.out _ B2.out).mono ?_; rintro e w3 ⟨rfl, hb3⟩)
      )
    go_ret
    exact ⟨rfl, B2.out.trans (hb3.out.mono B2.out.size)⟩
set_option maxRecDepth 40000 in
set_option maxHeartbeats 6400000 in
theorem objsOk_any {lo hi : Nat} (n : Nat) (cs : UD) (c : Value) (rev next : Int) (w : World) (ht : tyS 17 n cs 8) (hx : uS w lo hi 17 n cs c) (hn0 : -9223372036854775807 ≤ next) (hn1 : next ≤ 9223372036854775807) :
    Calls Try.prog 44 #[c, .int .i64 rev, .int .i64 (next - 1)] w fun e w' => e = .returned (.bool (objsB cs n rev next)) ∧ Below w.heap.size w w' := by
  obtain ⟨a, cap, rfl, hx2⟩ := hx
  have Hx : Hid (uS w lo hi 17 n cs (.slice a n cap)) := ⟨a, cap, rfl, hx2⟩
  have Ht := uhide ht
  have HN := uhide (And.intro hn0 hn1)
  have hmx := ht.2.2.1
  unfold maxLen at hmx
  obtain ⟨f, hf⟩ : ∃ f : Bool, f = true ↔ fitI cs n := ⟨@decide (fitI cs n) (Classical.propDecidable _), by simp⟩
  have HIF := uhide (objsB_iff cs n rev next)
  have HFI := uhide hf
  have HC : Hid (Calls Try.prog 67 #[.slice a n cap] w fun e w' => e = .returned (.bool f) ∧ Hid (Below w.heap.size w w')) := objsFit_any (lo := lo) (hi := hi) n cs _ f w ht Hx.out hf
  obtain ⟨R, hR⟩ : ∃ R, R = objsB cs n rev next := ⟨_, rfl⟩
  rw [← hR] at HIF ⊢
  clear hx2 ht hn0 hn1 hf hR
  cases f with
  | false =>
    have hr : R = false := by
      cases hq : R with
      | false => rfl
      | true => have := HFI.out.2 (HIF.out.1 hq).1; cases this
    subst hr
    clear HIF HFI
    go_enter Try.func44, Try.ntmps44
    go_wp2_with (go_at_call 67; refine HC.out.mono ?_; rintro e w1 ⟨rfl, hb1⟩)
    go_ret
    exact ⟨rfl, hb1.out⟩
  | true =>
  have HFT := uhide (HFI.out.1 rfl)
  clear HFI
  go_enter Try.func44, Try.ntmps44
  go_wp2_with (go_at_call 67; refine HC.out.mono ?_; rintro e w1 ⟨rfl, hb1⟩)
  go_loopw [14] (fun i wr => ∃ q : Nat, q ≤ n ∧ i = .int .i64 q ∧ Hid (∀ j, j < q → objB (rowU cs 17 j) rev next = true ∧ endsB (rowU cs 17 j) = false) ∧ Hid (Below w.heap.size w wr)) (fun i _ => n - (intOf i).toNat)
  case atStart => exact ⟨0, Nat.zero_le _, rfl, fun j hj => by omega, hb1⟩
  case round =>
    clear hb1 HC
    obtain ⟨q, hq, rfl, Ho, HB⟩ := hrel
    by_cases hlt : q < n
    · obtain ⟨b, off, rfl, hbb, hm⟩ := (Hx.out.below HB.out).cells (by omega)
      have htr := Ht.out.row hlt
      obtain ⟨xs, hh, hcl⟩ := (hm.row 17 q).hand
      have hxl : xs.length = 17 := by rw [hh.len, tyL.len htr]; rfl
      have ONE := uhide (one_cell htr hh)
      have HI1 : Hid ((Try.prog.info? 43).map (·.size) = some xs.length) := by show _ = _; rw [hxl]; exact Try.zObj_impl_Obj
      have RX : Hid (wr.rangeAt b (off + q * 17) xs) := hcl
      have TH : Hid ((wr.alloc (.cells ([.int .i64 0, .string ⟨#[]⟩, .int .i64 0, .int .i64 0, .int .i64 0, .bool false, .slice none 0 0, .int .i64 0, .string ⟨#[]⟩, .int .i64 0, .slice none 0 0, .slice none 0 0, .int .i64 0, .string ⟨#[]⟩, .int .i64 0, .slice none 0 0, .slice none 0 0] : List Value).toArray 43)).there wr.heap.size 0 xs.length) := by rw [hxl]; exact (objU.new2 _ _ rfl).there 0 17 (by decide)
      have HOX : Hid (∀ wy, wy = (wr.alloc (.cells ([.int .i64 0, .string ⟨#[]⟩, .int .i64 0, .int .i64 0, .int .i64 0, .bool false, .slice none 0 0, .int .i64 0, .string ⟨#[]⟩, .int .i64 0, .slice none 0 0, .slice none 0 0, .int .i64 0, .string ⟨#[]⟩, .int .i64 0, .slice none 0 0, .slice none 0 0] : List Value).toArray 43)).setCells wr.heap.size 0 xs → objU wy wr.heap.size 43 xs ∧ Below wr.heap.size wr wy) := fun wy e => by
        subst e
        have h1 := objU.setCells (t := 43) xs ([.int .i64 0, .string ⟨#[]⟩, .int .i64 0, .int .i64 0, .int .i64 0, .bool false, .slice none 0 0, .int .i64 0, .string ⟨#[]⟩, .int .i64 0, .slice none 0 0, .slice none 0 0, .int .i64 0, .string ⟨#[]⟩, .int .i64 0, .slice none 0 0, .slice none 0 0]) [] [] _ (objU.new2 (w := wr) _ _ rfl) (by rw [hxl]; rfl)
        refine ⟨by simpa using h1, ?_⟩
        exact ((Below.refl _ _).alloc (Nat.le_refl _) _).trans ((OutS.setCells _ _ _).below (fun t ht => by simp at ht; omega) (by simp))
      have hq0 : (0 : Int) ≤ (q : Int) := Int.natCast_nonneg _
      have hqn : (q : Int) < (n : Int) := by omega
      obtain ⟨ok, hok⟩ : ∃ z, z = (objB (rowU cs 17 q) rev next && !endsB (rowU cs 17 q)) := ⟨_, rfl⟩
      have K1 : Hid (∀ wx, Below wr.heap.size wr wx → Calls Try.prog 68 #[.agg xs.toArray, .int .i64 rev, .int .i64 (next - 1)] wx fun e w' => e = .returned (.bool ok) ∧ Hid (Below wx.heap.size wx w')) := fun wx hb => hok ▸ standOk_any (lo := lo) (hi := hi) _ xs rev next wx htr (hh.below hb) HN.out.1 HN.out.2
      clear hxl hcl hm htr hh
      cases ok with
      | false =>
        have hr : R = false := by
          cases hq : R with
          | false => rfl
          | true => have := (HIF.out.1 hq).2 q hlt; rw [this.1, this.2] at hok; cases hok
        subst hr
        clear hok HIF Ho
        go_wp2_with (first
          | ((with_reducible refine wpList_load_row2 ?qqg107 43 ?qqx107 ?qqo107 b (off + q * 17) ?qqh107 xs Try.rObj_impl_Obj HI1.out RX.out ?_); (case qqg107 => rfl); (case qqo107 => rfl); (case qqh107 => simp [Act.eval, Act.put]))
          | ((with_reducible refine wpList_store_cells ?qqg108 43 ?qqx108 ?qqy108 ?qqo108 ?qqd108 wr.heap.size 0 ?qqh108 (.agg xs.toArray) ?qqv108 xs cells_agg ONE.out HI1.out TH.out ?_); (case qqg108 => rfl); (case qqo108 => rfl); (case qqd108 => rfl); (case qqh108 => simp [Act.eval, Act.put]); (case qqv108 => simp [Act.eval, Act.put]); intro wy ey; have C0 : Hid (wy.rangeAt wr.heap.size 0 xs) := (HOX.out wy ey).1.range 0 xs (fun i v h => by simpa using h); have HBEL := uhide (HOX.out wy ey).2; clear ey)
          | ((with_reducible refine wpList_load_row2 ?qqg109 43 ?qqx109 ?qqo109 wr.heap.size 0 ?qqh109 xs Try.rObj_impl_Obj HI1.out C0.out ?_); (case qqg109 => rfl); (case qqo109 => rfl); (case qqh109 => simp [Act.eval, Act.put]))
          | (go_at_call 68; refine (K1.out _ HBEL.out).mono ?_; rintro e w2 ⟨rfl, hb2⟩)
          )
        go_ret
        exact ⟨rfl, HB.out.trans (HBEL.out.trans (hb2.out.mono HBEL.out.size) |>.mono HB.out.size)⟩
      | true =>
        have HO2 : Hid (∀ j, j < q + 1 → objB (rowU cs 17 j) rev next = true ∧ endsB (rowU cs 17 j) = false) := fun j hj => by
          by_cases e : j = q
          · subst e
            cases h1 : objB (rowU cs 17 j) rev next <;> cases h2 : endsB (rowU cs 17 j) <;> simp [h1, h2] at hok <;> exact ⟨rfl, rfl⟩
          · exact Ho.out j (by omega)
        clear hok Ho
        go_wp2_with (first
          | ((with_reducible refine wpList_load_row2 ?qqg122 43 ?qqx122 ?qqo122 b (off + q * 17) ?qqh122 xs Try.rObj_impl_Obj HI1.out RX.out ?_); (case qqg122 => rfl); (case qqo122 => rfl); (case qqh122 => simp [Act.eval, Act.put]))
          | ((with_reducible refine wpList_store_cells ?qqg123 43 ?qqx123 ?qqy123 ?qqo123 ?qqd123 wr.heap.size 0 ?qqh123 (.agg xs.toArray) ?qqv123 xs cells_agg ONE.out HI1.out TH.out ?_); (case qqg123 => rfl); (case qqo123 => rfl); (case qqd123 => rfl); (case qqh123 => simp [Act.eval, Act.put]); (case qqv123 => simp [Act.eval, Act.put]); intro wy ey; have C0 : Hid (wy.rangeAt wr.heap.size 0 xs) := (HOX.out wy ey).1.range 0 xs (fun i v h => by simpa using h); have HBEL := uhide (HOX.out wy ey).2; clear ey)
          | ((with_reducible refine wpList_load_row2 ?qqg124 43 ?qqx124 ?qqo124 wr.heap.size 0 ?qqh124 xs Try.rObj_impl_Obj HI1.out C0.out ?_); (case qqg124 => rfl); (case qqo124 => rfl); (case qqh124 => simp [Act.eval, Act.put]))
          | (go_at_call 68; refine (K1.out _ HBEL.out).mono ?_; rintro e w2 ⟨rfl, hb2⟩)
          )
        have HB3 : Hid (Below w.heap.size w w2) := HB.out.trans (HBEL.out.trans (hb2.out.mono HBEL.out.size) |>.mono HB.out.size)
        go_roundw
        case rel => exact ⟨q + 1, by omega, by go_num, HO2, HB3⟩
        case measure => simp [intOf]; omega
    · have e : q = n := by omega
      subst e
      have hr : R = true := HIF.out.2 ⟨HFT.out, Ho.out⟩
      subst hr
      clear HIF HFT Ho
      go_wp2
      go_ret
      exact ⟨rfl, HB.out⟩
end Go.Proofs.Ytamlgjmboljcdaa
/- Bases: the program's look at one. -/
namespace Go.Proofs.Ytamlgjmboljcdaa
open Go.RowKit Go.BigFrame
set_option linter.unusedVariables false
set_option linter.unusedSimpArgs false
theorem within_anyB (n m : Int) (w : World) : Calls Try.prog 42 #[.int .i64 n, .int .i64 m] w fun e w' => e = .returned (.bool (inB n 0 m)) ∧ w' = w := by
  go_enter Try.func42, Try.ntmps42
  go_wp2
  all_goals go_ret
  all_goals exact ⟨ret_bool (by rw [Bool.eq_iff_iff]; simp [inB]; omega), rfl⟩
set_option maxRecDepth 40000 in
set_option maxHeartbeats 6400000 in
theorem iBaseOk_of {lo hi : Nat} (n0 : Nat) (c0 : UD) (rev next : Int) (n : Nat) (cs : UD) (v0 v3 : Value) (w : World) (g0 : tyS 17 n0 c0 8) (g3 : tyS 19 n cs 9) (s0 : uS w lo hi 17 n0 c0 v0) (s3 : uS w lo hi 19 n cs v3) :
    Calls Try.prog 16 #[.agg #[v0, .int .i64 rev, .int .i64 next, v3]] w fun e w' => e = .returned (.bool (baseB n0 c0 rev next n cs)) ∧ Below w.heap.size w w' := by
  have S0 := uhide s0
  have S3 := uhide s3
  obtain ⟨a0, cp0, rfl, s0c⟩ := s0
  obtain ⟨a3, cp3, rfl, s3c⟩ := s3
  have hmx := g3.2.2.1
  have hmy := g0.2.2.1
  unfold maxLen at hmx hmy
  obtain ⟨k0, hk0⟩ : ∃ k, k = inB rev 0 1000000 := ⟨_, rfl⟩
  obtain ⟨k1, hk1⟩ : ∃ k, k = inB next 1 1000000 := ⟨_, rfl⟩
  obtain ⟨k2, hk2⟩ : ∃ k, k = objsB c0 n0 rev next := ⟨_, rfl⟩
  obtain ⟨k3, hk3⟩ : ∃ k, k = logB cs n rev next := ⟨_, rfl⟩
  have HK0 : Hid (∀ wx : World, Below w.heap.size w wx → Calls Try.prog 42 #[.int .i64 rev, .int .i64 1000000] wx fun e w' => e = .returned (.bool k0) ∧ Below wx.heap.size wx w') := fun wx hb => hk0 ▸ (within_anyB _ _ wx).mono fun e w' h => ⟨h.1, h.2 ▸ Below.refl _ _⟩
  have HK1 : Hid (∀ wx : World, Below w.heap.size w wx → Calls Try.prog 43 #[.int .i64 next, .int .i64 1000000] wx fun e w' => e = .returned (.bool k1) ∧ Below wx.heap.size wx w') := fun wx hb => hk1 ▸ (fromOne_any _ _ wx).mono fun e w' h => ⟨h.1, h.2 ▸ Below.refl _ _⟩
  have HN : Hid (k1 = true → -9223372036854775807 ≤ next ∧ next ≤ 9223372036854775807) := fun h => by
    rw [hk1] at h
    unfold inB at h
    simp at h
    omega
  have HK2 : Hid (k1 = true → ∀ wx : World, Below w.heap.size w wx → Calls Try.prog 44 #[.slice a0 n0 cp0, .int .i64 rev, .int .i64 (next - 1)] wx fun e w' => e = .returned (.bool k2) ∧ Below wx.heap.size wx w')   := fun h wx hb => hk2 ▸ objsOk_any n0 c0 _ rev next wx g0 (S0.out.below hb) (HN.out h).1 (HN.out h).2
  have HK3 : Hid (k1 = true → ∀ wx : World, Below w.heap.size w wx → Calls Try.prog 45 #[.agg #[.slice a0 n0 cp0, .int .i64 rev, .int .i64 next, .slice a3 n cp3]] wx fun e w' => e = .returned (.bool k3) ∧ Below wx.heap.size wx w') := fun h wx hb => hk3 ▸ iLogOk_of n cs rev next _ _ wx g3 (S3.out.below hb) (HN.out h).1 (HN.out h).2
  have OA : Hid (objU (w.alloc (.cells #[.slice a0 n0 cp0, .int .i64 rev, .int .i64 next, .slice a3 n cp3] 25)) w.heap.size 25 [.slice a0 n0 cp0, .int .i64 rev, .int .i64 next, .slice a3 n cp3]) := objU.new2 _ _ rfl
  have BA : Hid (Below w.heap.size w (w.alloc (.cells #[.slice a0 n0 cp0, .int .i64 rev, .int .i64 next, .slice a3 n cp3] 25))) := (Below.refl _ _).alloc (Nat.le_refl _) _
  have ZB : Hid ((Try.prog.info? 25).map (·.size) = some ([.slice a0 n0 cp0, .int .i64 rev, .int .i64 next, .slice a3 n cp3] : List Value).length) := Try.zBase_impl_Base
  have RG : Hid (∀ wx : World, objU wx w.heap.size 25 [.slice a0 n0 cp0, .int .i64 rev, .int .i64 next, .slice a3 n cp3] → wx.rangeAt w.heap.size 0 [.slice a0 n0 cp0, .int .i64 rev, .int .i64 next, .slice a3 n cp3]) := fun wx h => h.range 0 _ (fun j v e => by rw [Nat.zero_add]; exact e)
  unfold baseB
  rw [← hk0, ← hk1, ← hk2, ← hk3]
  clear hk0 hk1 hk2 hk3 s0c g0 g3 s3c S0 S3
  by_cases h40 : n ≤ 40
  rotate_left
  · have d4 : decide ((40 : Int) < (n : Int)) = true := by rw [decide_eq_true_eq]; omega
    have H40 := uhide h40
    clear h40
    go_enter Try.func16, Try.ntmps16
    go_wp2_with (first
      | ((with_reducible refine wpList_load_oneG ?qqg52 3 ?qqx52 ?qqo52 w.heap.size 1 ?qqh52 (.int .i64 rev) Try.rBase_int (OA.out.cell 1 _ rfl) ?_); (case qqg52 => rfl); (case qqo52 => rfl); (case qqh52 => simp [Act.eval, Act.put]))
      | ((with_reducible refine wpList_load_oneG ?qqg54 23 ?qqx54 ?qqo54 w.heap.size 3 ?qqh54 (.slice a3 n cp3) Try.rBase_Limpl_Change (OA.out.cell 3 _ rfl) ?_); (case qqg54 => rfl); (case qqo54 => rfl); (case qqh54 => simp [Act.eval, Act.put]))
      )
    go_ret
    exact ⟨ret_bool (by simp [H40.out]), BA.out⟩
  have d4 : decide ((40 : Int) < (n : Int)) = false := by rw [decide_eq_false_iff_not]; omega
  have H40 := uhide h40
  clear h40
  cases k0 with
  | false =>
    go_enter Try.func16, Try.ntmps16
    go_wp2_with (first
      | ((with_reducible refine wpList_load_oneG ?qqg75 3 ?qqx75 ?qqo75 w.heap.size 1 ?qqh75 (.int .i64 rev) Try.rBase_int (OA.out.cell 1 _ rfl) ?_); (case qqg75 => rfl); (case qqo75 => rfl); (case qqh75 => simp [Act.eval, Act.put]))
      | ((with_reducible refine wpList_load_oneG ?qqg77 23 ?qqx77 ?qqo77 w.heap.size 3 ?qqh77 (.slice a3 n cp3) Try.rBase_Limpl_Change (OA.out.cell 3 _ rfl) ?_); (case qqg77 => rfl); (case qqo77 => rfl); (case qqh77 => simp [Act.eval, Act.put]))
      )
    refine (HK0.out _ BA.out).mono ?_
    rintro e w0 ⟨rfl, hb0⟩
    have O0 := uhide (OA.out.below hb0)
    have B0 : Hid (Below w.heap.size w w0) := BA.out.trans (hb0.mono BA.out.size)
    clear hb0
    go_wp2_with (first
      | ((with_reducible refine wpList_load_oneG ?qqg96 3 ?qqx96 ?qqo96 w.heap.size 2 ?qqh96 (.int .i64 next) Try.rBase_int (O0.out.cell 2 _ rfl) ?_); (case qqg96 => rfl); (case qqo96 => rfl); (case qqh96 => simp [Act.eval, Act.put]))
      )
    go_ret
    exact ⟨ret_bool (by simp [H40.out]), B0.out⟩
  | true =>
  cases k1 with
  | false =>
    go_enter Try.func16, Try.ntmps16
    go_wp2_with (first
      | ((with_reducible refine wpList_load_oneG ?qqg116 3 ?qqx116 ?qqo116 w.heap.size 1 ?qqh116 (.int .i64 rev) Try.rBase_int (OA.out.cell 1 _ rfl) ?_); (case qqg116 => rfl); (case qqo116 => rfl); (case qqh116 => simp [Act.eval, Act.put]))
      | ((with_reducible refine wpList_load_oneG ?qqg118 23 ?qqx118 ?qqo118 w.heap.size 3 ?qqh118 (.slice a3 n cp3) Try.rBase_Limpl_Change (OA.out.cell 3 _ rfl) ?_); (case qqg118 => rfl); (case qqo118 => rfl); (case qqh118 => simp [Act.eval, Act.put]))
      )
    refine (HK0.out _ BA.out).mono ?_
    rintro e w0 ⟨rfl, hb0⟩
    have O0 := uhide (OA.out.below hb0)
    have B0 : Hid (Below w.heap.size w w0) := BA.out.trans (hb0.mono BA.out.size)
    clear hb0
    go_wp2_with (first
      | ((with_reducible refine wpList_load_oneG ?qqg137 3 ?qqx137 ?qqo137 w.heap.size 2 ?qqh137 (.int .i64 next) Try.rBase_int (O0.out.cell 2 _ rfl) ?_); (case qqg137 => rfl); (case qqo137 => rfl); (case qqh137 => simp [Act.eval, Act.put]))
      )
    refine (HK1.out _ B0.out).mono ?_
    rintro e w1 ⟨rfl, hb1⟩
    have O1 := uhide (O0.out.below hb1)
    have B1 : Hid (Below w.heap.size w w1) := B0.out.trans (hb1.mono B0.out.size)
    clear hb1
    go_wp2_with (first
      | ((with_reducible refine wpList_load_oneG ?qqg155 22 ?qqx155 ?qqo155 w.heap.size 0 ?qqh155 (.slice a0 n0 cp0) Try.rBase_Limpl_Obj (O1.out.cell 0 _ rfl) ?_); (case qqg155 => rfl); (case qqo155 => rfl); (case qqh155 => simp [Act.eval, Act.put]))
      | ((with_reducible refine wpList_load_oneG ?qqg156 3 ?qqx156 ?qqo156 w.heap.size 1 ?qqh156 (.int .i64 rev) Try.rBase_int (O1.out.cell 1 _ rfl) ?_); (case qqg156 => rfl); (case qqo156 => rfl); (case qqh156 => simp [Act.eval, Act.put]))
      | ((with_reducible refine wpList_load_oneG ?qqg157 3 ?qqx157 ?qqo157 w.heap.size 2 ?qqh157 (.int .i64 next) Try.rBase_int (O1.out.cell 2 _ rfl) ?_); (case qqg157 => rfl); (case qqo157 => rfl); (case qqh157 => simp [Act.eval, Act.put]))
      )
    go_ret
    exact ⟨ret_bool (by simp [H40.out]), B1.out⟩
  | true =>
  have hwr : IntKind.i64.wrap (next - 1) = next - 1 := uwrap64 _ (by have := HN.out rfl; omega) (by have := HN.out rfl; omega)
  have hwr2 : wrap64 (next - 1) = next - 1 := by have := HN.out rfl; unfold wrap64; omega
  cases k2 with
  | false =>
    go_enter Try.func16, Try.ntmps16
    go_wp2_with (first
      | ((with_reducible refine wpList_load_oneG ?qqg179 3 ?qqx179 ?qqo179 w.heap.size 1 ?qqh179 (.int .i64 rev) Try.rBase_int (OA.out.cell 1 _ rfl) ?_); (case qqg179 => rfl); (case qqo179 => rfl); (case qqh179 => simp [Act.eval, Act.put]))
      | ((with_reducible refine wpList_load_oneG ?qqg181 23 ?qqx181 ?qqo181 w.heap.size 3 ?qqh181 (.slice a3 n cp3) Try.rBase_Limpl_Change (OA.out.cell 3 _ rfl) ?_); (case qqg181 => rfl); (case qqo181 => rfl); (case qqh181 => simp [Act.eval, Act.put]))
      )
    refine (HK0.out _ BA.out).mono ?_
    rintro e w0 ⟨rfl, hb0⟩
    have O0 := uhide (OA.out.below hb0)
    have B0 : Hid (Below w.heap.size w w0) := BA.out.trans (hb0.mono BA.out.size)
    clear hb0
    go_wp2_with (first
      | ((with_reducible refine wpList_load_oneG ?qqg200 3 ?qqx200 ?qqo200 w.heap.size 2 ?qqh200 (.int .i64 next) Try.rBase_int (O0.out.cell 2 _ rfl) ?_); (case qqg200 => rfl); (case qqo200 => rfl); (case qqh200 => simp [Act.eval, Act.put]))
      )
    refine (HK1.out _ B0.out).mono ?_
    rintro e w1 ⟨rfl, hb1⟩
    have O1 := uhide (O0.out.below hb1)
    have B1 : Hid (Below w.heap.size w w1) := B0.out.trans (hb1.mono B0.out.size)
    clear hb1
    go_wp2_with (first
      | ((with_reducible refine wpList_load_oneG ?qqg218 22 ?qqx218 ?qqo218 w.heap.size 0 ?qqh218 (.slice a0 n0 cp0) Try.rBase_Limpl_Obj (O1.out.cell 0 _ rfl) ?_); (case qqg218 => rfl); (case qqo218 => rfl); (case qqh218 => simp [Act.eval, Act.put]))
      | ((with_reducible refine wpList_load_oneG ?qqg219 3 ?qqx219 ?qqo219 w.heap.size 1 ?qqh219 (.int .i64 rev) Try.rBase_int (O1.out.cell 1 _ rfl) ?_); (case qqg219 => rfl); (case qqo219 => rfl); (case qqh219 => simp [Act.eval, Act.put]))
      | ((with_reducible refine wpList_load_oneG ?qqg220 3 ?qqx220 ?qqo220 w.heap.size 2 ?qqh220 (.int .i64 next) Try.rBase_int (O1.out.cell 2 _ rfl) ?_); (case qqg220 => rfl); (case qqo220 => rfl); (case qqh220 => simp [Act.eval, Act.put]))
      )
    refine (HK2.out (by first | rfl | trivial) _ B1.out).mono ?_
    rintro e w2 ⟨rfl, hb2⟩
    have O2 := uhide (O1.out.below hb2)
    have B2 : Hid (Below w.heap.size w w2) := B1.out.trans (hb2.mono B1.out.size)
    clear hb2
    go_wp2_with (first
      | ((with_reducible refine wpList_load_rowG ?qqg250 25 ?qqx250 ?qqo250 w.heap.size 0 ?qqh250 [.slice a0 n0 cp0, .int .i64 rev, .int .i64 next, .slice a3 n cp3] Try.rBase_impl_Base ZB.out (RG.out _ O2.out) ?_); (case qqg250 => rfl); (case qqo250 => rfl); (case qqh250 => simp [Act.eval, Act.put]))
      )
    go_ret
    exact ⟨ret_bool (by simp [H40.out]), B2.out⟩
  | true =>
  cases k3 with
  | false =>
    go_enter Try.func16, Try.ntmps16
    go_wp2_with (first
      | ((with_reducible refine wpList_load_oneG ?qqg260 3 ?qqx260 ?qqo260 w.heap.size 1 ?qqh260 (.int .i64 rev) Try.rBase_int (OA.out.cell 1 _ rfl) ?_); (case qqg260 => rfl); (case qqo260 => rfl); (case qqh260 => simp [Act.eval, Act.put]))
      | ((with_reducible refine wpList_load_oneG ?qqg262 23 ?qqx262 ?qqo262 w.heap.size 3 ?qqh262 (.slice a3 n cp3) Try.rBase_Limpl_Change (OA.out.cell 3 _ rfl) ?_); (case qqg262 => rfl); (case qqo262 => rfl); (case qqh262 => simp [Act.eval, Act.put]))
      )
    refine (HK0.out _ BA.out).mono ?_
    rintro e w0 ⟨rfl, hb0⟩
    have O0 := uhide (OA.out.below hb0)
    have B0 : Hid (Below w.heap.size w w0) := BA.out.trans (hb0.mono BA.out.size)
    clear hb0
    go_wp2_with (first
      | ((with_reducible refine wpList_load_oneG ?qqg281 3 ?qqx281 ?qqo281 w.heap.size 2 ?qqh281 (.int .i64 next) Try.rBase_int (O0.out.cell 2 _ rfl) ?_); (case qqg281 => rfl); (case qqo281 => rfl); (case qqh281 => simp [Act.eval, Act.put]))
      )
    refine (HK1.out _ B0.out).mono ?_
    rintro e w1 ⟨rfl, hb1⟩
    have O1 := uhide (O0.out.below hb1)
    have B1 : Hid (Below w.heap.size w w1) := B0.out.trans (hb1.mono B0.out.size)
    clear hb1
    go_wp2_with (first
      | ((with_reducible refine wpList_load_oneG ?qqg299 22 ?qqx299 ?qqo299 w.heap.size 0 ?qqh299 (.slice a0 n0 cp0) Try.rBase_Limpl_Obj (O1.out.cell 0 _ rfl) ?_); (case qqg299 => rfl); (case qqo299 => rfl); (case qqh299 => simp [Act.eval, Act.put]))
      | ((with_reducible refine wpList_load_oneG ?qqg300 3 ?qqx300 ?qqo300 w.heap.size 1 ?qqh300 (.int .i64 rev) Try.rBase_int (O1.out.cell 1 _ rfl) ?_); (case qqg300 => rfl); (case qqo300 => rfl); (case qqh300 => simp [Act.eval, Act.put]))
      | ((with_reducible refine wpList_load_oneG ?qqg301 3 ?qqx301 ?qqo301 w.heap.size 2 ?qqh301 (.int .i64 next) Try.rBase_int (O1.out.cell 2 _ rfl) ?_); (case qqg301 => rfl); (case qqo301 => rfl); (case qqh301 => simp [Act.eval, Act.put]))
      )
    refine (HK2.out (by first | rfl | trivial) _ B1.out).mono ?_
    rintro e w2 ⟨rfl, hb2⟩
    have O2 := uhide (O1.out.below hb2)
    have B2 : Hid (Below w.heap.size w w2) := B1.out.trans (hb2.mono B1.out.size)
    clear hb2
    go_wp2_with (first
      | ((with_reducible refine wpList_load_rowG ?qqg331 25 ?qqx331 ?qqo331 w.heap.size 0 ?qqh331 [.slice a0 n0 cp0, .int .i64 rev, .int .i64 next, .slice a3 n cp3] Try.rBase_impl_Base ZB.out (RG.out _ O2.out) ?_); (case qqg331 => rfl); (case qqo331 => rfl); (case qqh331 => simp [Act.eval, Act.put]))
      )
    refine (HK3.out (by first | rfl | trivial) _ B2.out).mono ?_
    rintro e w3 ⟨rfl, hb3⟩
    have O3 := uhide (O2.out.below hb3)
    have B3 : Hid (Below w.heap.size w w3) := B2.out.trans (hb3.mono B2.out.size)
    clear hb3
    go_wp2
    go_ret
    exact ⟨ret_bool (by simp [H40.out]), B3.out⟩
  | true =>
  go_enter Try.func16, Try.ntmps16
  go_wp2_with (first
    | ((with_reducible refine wpList_load_oneG ?qqg359 3 ?qqx359 ?qqo359 w.heap.size 1 ?qqh359 (.int .i64 rev) Try.rBase_int (OA.out.cell 1 _ rfl) ?_); (case qqg359 => rfl); (case qqo359 => rfl); (case qqh359 => simp [Act.eval, Act.put]))
    | ((with_reducible refine wpList_load_oneG ?qqg361 23 ?qqx361 ?qqo361 w.heap.size 3 ?qqh361 (.slice a3 n cp3) Try.rBase_Limpl_Change (OA.out.cell 3 _ rfl) ?_); (case qqg361 => rfl); (case qqo361 => rfl); (case qqh361 => simp [Act.eval, Act.put]))
    )
  refine (HK0.out _ BA.out).mono ?_
  rintro e w0 ⟨rfl, hb0⟩
  have O0 := uhide (OA.out.below hb0)
  have B0 : Hid (Below w.heap.size w w0) := BA.out.trans (hb0.mono BA.out.size)
  clear hb0
  go_wp2_with (first
    | ((with_reducible refine wpList_load_oneG ?qqg380 3 ?qqx380 ?qqo380 w.heap.size 2 ?qqh380 (.int .i64 next) Try.rBase_int (O0.out.cell 2 _ rfl) ?_); (case qqg380 => rfl); (case qqo380 => rfl); (case qqh380 => simp [Act.eval, Act.put]))
    )
  refine (HK1.out _ B0.out).mono ?_
  rintro e w1 ⟨rfl, hb1⟩
  have O1 := uhide (O0.out.below hb1)
  have B1 : Hid (Below w.heap.size w w1) := B0.out.trans (hb1.mono B0.out.size)
  clear hb1
  go_wp2_with (first
    | ((with_reducible refine wpList_load_oneG ?qqg398 22 ?qqx398 ?qqo398 w.heap.size 0 ?qqh398 (.slice a0 n0 cp0) Try.rBase_Limpl_Obj (O1.out.cell 0 _ rfl) ?_); (case qqg398 => rfl); (case qqo398 => rfl); (case qqh398 => simp [Act.eval, Act.put]))
    | ((with_reducible refine wpList_load_oneG ?qqg399 3 ?qqx399 ?qqo399 w.heap.size 1 ?qqh399 (.int .i64 rev) Try.rBase_int (O1.out.cell 1 _ rfl) ?_); (case qqg399 => rfl); (case qqo399 => rfl); (case qqh399 => simp [Act.eval, Act.put]))
    | ((with_reducible refine wpList_load_oneG ?qqg400 3 ?qqx400 ?qqo400 w.heap.size 2 ?qqh400 (.int .i64 next) Try.rBase_int (O1.out.cell 2 _ rfl) ?_); (case qqg400 => rfl); (case qqo400 => rfl); (case qqh400 => simp [Act.eval, Act.put]))
    )
  refine (HK2.out (by first | rfl | trivial) _ B1.out).mono ?_
  rintro e w2 ⟨rfl, hb2⟩
  have O2 := uhide (O1.out.below hb2)
  have B2 : Hid (Below w.heap.size w w2) := B1.out.trans (hb2.mono B1.out.size)
  clear hb2
  go_wp2_with (first
    | ((with_reducible refine wpList_load_rowG ?qqg430 25 ?qqx430 ?qqo430 w.heap.size 0 ?qqh430 [.slice a0 n0 cp0, .int .i64 rev, .int .i64 next, .slice a3 n cp3] Try.rBase_impl_Base ZB.out (RG.out _ O2.out) ?_); (case qqg430 => rfl); (case qqo430 => rfl); (case qqh430 => simp [Act.eval, Act.put]))
    )
  refine (HK3.out (by first | rfl | trivial) _ B2.out).mono ?_
  rintro e w3 ⟨rfl, hb3⟩
  have O3 := uhide (O2.out.below hb3)
  have B3 : Hid (Below w.heap.size w w3) := B2.out.trans (hb3.mono B2.out.size)
  clear hb3
  go_wp2
  go_ret
  exact ⟨ret_bool (by simp [H40.out]), B3.out⟩
end Go.Proofs.Ytamlgjmboljcdaa
/- Data as cells: the helpers of the laws over Change. -/
namespace Go.Proofs.Ytamlgjmboljcdaa
open Go.RowKit Go.BigFrame
set_option linter.unusedVariables false
set_option linter.unusedSimpArgs false

set_option maxRecDepth 20000 in
set_option maxHeartbeats 1600000 in
theorem uszChange_any {lo hi : Nat} (d : UD) (xs : List Value) (left : Int) (w : World) (ht : tyL d (uE 9)) (hx : uH w lo hi d xs) (h0 : 0 ≤ left) (h1 : left ≤ 1048576) :
    Calls Try.prog 60 #[.agg xs.toArray, .int .i64 left] w fun e w' => e = .returned (.int .i64 (leftI left (wt d))) ∧ Below w.heap.size w w' := by
  replace ht : tyL d [.i .i64, .b, .i .i64, .s, .i .i64, .i .i64, .i .i64, .b, .l 1 0, .i .i64, .s, .i .i64, .l 1 0, .l 5 6, .i .i64, .s, .i .i64, .l 1 0, .l 5 6] := ht
  obtain ⟨z0, _, rfl, g0, h0⟩ := tyL.i ht
  obtain ⟨z1, _, rfl, h1⟩ := tyL.b h0
  clear h0
  obtain ⟨d2, _, rfl, g2, h2⟩ := tyL.split (f1 := uE 8) (f2 := []) h1
  clear h1
  obtain rfl := tyL.nil h2
  clear h2
  obtain ⟨_, rfl, h0⟩ := hx
  obtain ⟨_, rfl, h1⟩ := h0
  obtain ⟨y2, _, rfl, l2, s2, h2⟩ := uH.split h1
  replace l2 : y2.length = 17 := l2.trans (tyL.len g2)
  clear h1
  obtain rfl := h2
  obtain ⟨M0, hM0⟩ : ∃ M, M = (wt d2) := ⟨_, rfl⟩
  have HC0 : Hid (∀ (wx : World) (l : Int), Below w.heap.size w wx → 0 ≤ l → l ≤ 1048576 → Calls Try.prog 59 #[.agg y2.toArray, .int .i64 l] wx fun e w' => e = .returned (.int .i64 (leftI l M0)) ∧ Below wx.heap.size wx w') := fun wx l hb q0 q1 => hM0 ▸ uszObj_any (lo := lo) (hi := hi) d2 _ l wx g2 (s2.below hb) q0 q1
  have E : Hid (leftI left (wt (UD.p (.int .i64 z0) (UD.p (.bool z1) (UD.app d2 UD.nil)))) = leftI left (M0 + 0)) := by show _ = _; congr 1 <;> (simp only [wt, wtP, wt_app, hM0] <;> omega)
  generalize leftI left (wt (UD.p (.int .i64 z0) (UD.p (.bool z1) (UD.app d2 UD.nil)))) = R at *
  have HA : Hid (∀ o, Below w.heap.size w (w.alloc o)) := fun o => (Below.refl _ _).alloc (Nat.le_refl _) _
  obtain ⟨AX, hAX⟩ : ∃ AX : List Value, AX = (Value.int .i64 z0 :: (Value.bool z1 :: ((y2 ++ [])))) := ⟨_, rfl⟩
  rw [← hAX]
  have hlen : AX.length = 19 := by rw [hAX]; simp [l2]
  have e0 : AX[0]? = some (.int .i64 z0) := at_mid (i := 0) (pre := (([] : List Value))) (ys := [.int .i64 z0]) (post := (Value.bool z1 :: ((y2 ++ [])))) (by rw [hAX]; simp) (by simp) rfl
  have e1 : AX[1]? = some (.bool z1) := at_mid (i := 0) (pre := ([Value.int .i64 z0])) (ys := [.bool z1]) (post := ((y2 ++ []))) (by rw [hAX]; simp) (by simp) rfl
  have e2 : ∀ i v, y2[i]? = some v → AX[2 + i]? = some v := fun i v h => at_mid (pre := ([Value.int .i64 z0, Value.bool z1])) (ys := y2) (post := []) (by rw [hAX]; simp) (by simp) h
  clear hAX
  have E0 := uhide e0
  clear e0
  have E1 := uhide e1
  clear e1
  have YZ2 : Hid ((Try.prog.info? 88).map (·.size) = some y2.length) := by show _ = _; rw [l2]; exact Try.zChange_laws_Obj
  clear l2
  have E2 := uhide e2
  clear e2
  have OA0 : Hid (objU (w.alloc (.cells AX.toArray 91)) w.heap.size 91 AX) := objU.new2 _ _ rfl
  clear ht g0 g2 s2 hM0
  obtain ⟨y0q, hy0⟩ : ∃ y, y = leftI left M0 := ⟨_, rfl⟩
  have Y0q := uhide hy0
  by_cases k0 : y0q < 0
  · have EN : Hid (R = -1) := by show _ = _; rw [E.out]; exact leftI_neg _ (by omega) (by rw [← hy0]; exact k0)
    clear E hy0
    go_enter Try.func60, Try.ntmps60
    go_wp2_with (first
    | ((with_reducible refine wpList_load_row2 ?qqg57 88 ?qqx57 ?qqo57 w.heap.size 2 ?qqh57 y2 Try.rChange_laws_Obj YZ2.out (OA0.out.range 2 _ E2.out) ?_); (case qqg57 => rfl); (case qqo57 => rfl); (case qqh57 => simp [Act.eval, Act.put]))
    )
    refine (HC0.out _ _ (HA.out _) (by omega) (by omega)).mono ?_
    rintro e w1 ⟨rfl, hb1⟩
    have OA1 := uhide (OA0.out.below hb1)
    have B1 : Hid (Below w.heap.size w w1) := (HA.out _).trans (hb1.mono (by simp))
    clear hb1
    rw [show leftI left M0 = y0q from Y0q.out.symm]
    go_wp2
    go_ret
    exact ⟨ret_intU EN.out.symm, B1.out⟩
  replace E : Hid (R = leftI y0q (0)) := by
    obtain ⟨q1, q2, q3⟩ := leftI_pos (x := left) (a := M0) (0) (by rw [← hy0]; exact k0)
    show _ = _; rw [E.out, q1, ← hy0]
  have u0 : y0q ≤ left := by rw [hy0]; unfold leftI; split <;> omega
  clear hy0
  replace E : Hid (R = y0q) := E.out.trans (leftI_zero (by omega))
  go_enter Try.func60, Try.ntmps60
  go_wp2_with (first
    | ((with_reducible refine wpList_load_row2 ?qqg76 88 ?qqx76 ?qqo76 w.heap.size 2 ?qqh76 y2 Try.rChange_laws_Obj YZ2.out (OA0.out.range 2 _ E2.out) ?_); (case qqg76 => rfl); (case qqo76 => rfl); (case qqh76 => simp [Act.eval, Act.put]))
    )
  refine (HC0.out _ _ (HA.out _) (by omega) (by omega)).mono ?_
  rintro e w1 ⟨rfl, hb1⟩
  have OA1 := uhide (OA0.out.below hb1)
  have B1 : Hid (Below w.heap.size w w1) := (HA.out _).trans (hb1.mono (by simp))
  clear hb1
  rw [show leftI left M0 = y0q from Y0q.out.symm]
  go_wp2
  go_ret
  exact ⟨ret_intU E.out.symm, B1.out⟩
set_option maxRecDepth 20000 in
set_option maxHeartbeats 800000 in
set_option maxRecDepth 20000 in
theorem uszChangeS_any {lo hi : Nat} (n : Nat) (cs : UD) (c : Value) (left : Int) (w : World) (ht : tyS 19 n cs 9) (h0 : 0 ≤ left) (h1 : left ≤ 1048576) (hx : uS w lo hi 19 n cs c) :
    Calls Try.prog 36 #[c, .int .i64 left] w fun e w' => e = .returned (.int .i64 (leftI left (n + wt cs))) ∧ Below w.heap.size w w' := by
  obtain ⟨a, cap, rfl, hx2⟩ := hx
  have Hx : Hid (uS w lo hi 19 n cs (.slice a n cap)) := ⟨a, cap, rfl, hx2⟩
  have hmx := ht.2.2.1
  unfold maxLen at hmx
  have Ht := uhide ht
  clear hx2 ht
  by_cases c1 : left - (n : Int) < 0
  · have E : Hid (leftI left (n + wt cs) = -1) := by show _ = _; unfold leftI; rw [if_pos (by omega)]
    go_enter Try.func36, Try.ntmps36
    go_wp2
    go_ret
    exact ⟨ret_intU E.out.symm, Below.refl _ _⟩
  have E : Hid (leftI left (n + wt cs) = leftI (left - n) (wt (cs.dropN (0 * 19)))) := by
    show _ = _
    obtain ⟨g1, g2, g3⟩ := leftI_pos (x := left) (a := n) (wt cs) (by unfold leftI; split <;> omega)
    rw [g1, g2, Nat.zero_mul, UD.dropN_zero]
  go_enter Try.func36, Try.ntmps36
  go_wp2
  go_loopw [1, 5] (fun l i wr => ∃ (q : Nat) (x : Int), q ≤ n ∧ i = .int .i64 q ∧ l = .int .i64 x ∧ 0 ≤ x ∧ x ≤ 1048576 ∧ Hid (leftI left (n + wt cs) = leftI x (wt (cs.dropN (q * 19)))) ∧ Below w.heap.size w wr) (fun _ i _ => n - (intOf i).toNat)
  case atStart => exact ⟨0, _, Nat.zero_le _, rfl, rfl, by omega, by omega, E, Below.refl _ _⟩
  case round =>
    obtain ⟨q, x, hq, rfl, rfl, hx0, hx1, Hs, hbw⟩ := hrel
    by_cases hlt : q < n
    · obtain ⟨b, off, rfl, hbb, hm⟩ := (Hx.out.below hbw).cells (by omega)
      have htr := Ht.out.row hlt
      have hr := hm.row 19 q
      have hw : wt (cs.dropN (q * 19)) = wt (rowU cs 19 q) + wt (cs.dropN ((q + 1) * 19)) := by rw [UD.drop_row cs 19 q, wt_app]
      have hsz := uszD_row cs 19 q
      obtain ⟨xs, hh, hcl⟩ := hr.hand
      have Hcon : Hid (∀ wx, Below wr.heap.size wr wx → Calls Try.prog 60 #[.agg xs.toArray, .int .i64 x] wx fun e w' => e = .returned (.int .i64 (leftI x (wt (rowU cs 19 q)))) ∧ Below wx.heap.size wx w') := fun wx hb => uszChange_any (lo := lo) (hi := hi) _ _ x wx htr (hh.below hb) hx0 hx1
      have hxl : xs.length = 19 := by rw [hh.len, tyL.len htr]; rfl
      have lld := load_whole (P := Try.prog) (t := 91) (k := 19) (ad := ⟨b, off + q * 19, none⟩) (w := wr) Try.isAgg91 Try.sizeOf91 hxl (fun j v h => by rw [Go.WideShapes.add_plain]; exact hcl j v h)
      clear hcl hr hm htr hsz hh
      generalize xs.toArray = XS at *
      have LLD := uhide lld
      clear lld hxl
      generalize wt (rowU cs 19 q) = m at *
      have hneg0 := fun h => leftI_neg (x := x) (a := m) (wt (cs.dropN ((q + 1) * 19))) hx0 h
      have hpos0 := fun h => leftI_pos (x := x) (a := m) (wt (cs.dropN ((q + 1) * 19))) h
      have hle0 : leftI x m ≤ x := by unfold leftI; split <;> omega
      generalize leftI x m = y at *
      by_cases hneg : y < 0
      · have hr : Hid (leftI left (n + wt cs) = -1) := by show _ = _; rw [Hs.out, hw]; exact hneg0 hneg
        clear hw Hs E hneg0 hpos0
        go_wp2_with (with_reducible refine wpList_load_eq rfl 91 _ rfl ⟨b, off + q * 19, none⟩ (by simp [Act.eval]) (.agg XS) LLD.out ?_)
        refine (Hcon.out _ (by repeat (first | exact Below.refl _ _ | refine Below.alloc ?_ (by simp) _))).mono ?_
        rintro e w1 ⟨rfl, hb⟩
        go_wp2
        go_ret
        exact ⟨ret_intU hr.out.symm, hbw.trans (hb.mono hbw.size)⟩
      · have hr : Hid (leftI left (n + wt cs) = leftI y (wt (cs.dropN ((q + 1) * 19)))) := by
          show _ = _
          rw [Hs.out, hw]; exact (hpos0 hneg).1
        clear hw Hs E hneg0 hpos0
        go_wp2_with (with_reducible refine wpList_load_eq rfl 91 _ rfl ⟨b, off + q * 19, none⟩ (by simp [Act.eval]) (.agg XS) LLD.out ?_)
        refine (Hcon.out _ (by repeat (first | exact Below.refl _ _ | refine Below.alloc ?_ (by simp) _))).mono ?_
        rintro e w1 ⟨rfl, hb⟩
        go_wp2
        go_roundw
        case rel => exact ⟨q + 1, _, by omega, by go_num, rfl, by omega, by omega, hr, hbw.trans (hb.mono hbw.size)⟩
        case measure => simp [intOf]; omega
    · have e : q = n := by omega
      subst e
      have hr : Hid (leftI left (q + wt cs) = x) := by
        show _ = _
        rw [Hs.out, ← Ht.out.2.2.2.1, UD.dropN_all]
        exact leftI_zero hx0
      clear Hs E
      go_wp2
      go_ret
      exact ⟨ret_intU hr.out.symm, hbw⟩
end Go.Proofs.Ytamlgjmboljcdaa
/- Data as cells: the helpers of the laws over Base. -/
namespace Go.Proofs.Ytamlgjmboljcdaa
open Go.RowKit Go.BigFrame
set_option linter.unusedVariables false
set_option linter.unusedSimpArgs false

set_option maxRecDepth 20000 in
set_option maxHeartbeats 1600000 in
theorem uszBase_any {lo hi : Nat} (d : UD) (xs : List Value) (left : Int) (w : World) (ht : tyL d (uE 10)) (hx : uH w lo hi d xs) (h0 : 0 ≤ left) (h1 : left ≤ 1048576) :
    Calls Try.prog 13 #[.agg xs.toArray, .int .i64 left] w fun e w' => e = .returned (.int .i64 (leftI left (wt d))) ∧ Below w.heap.size w w' := by
  replace ht : tyL d [.l 17 8, .i .i64, .i .i64, .l 19 9] := ht
  obtain ⟨n0, c0, _, rfl, g0, h0⟩ := tyL.l ht
  obtain ⟨z1, _, rfl, g1, h1⟩ := tyL.i h0
  clear h0
  obtain ⟨z2, _, rfl, g2, h2⟩ := tyL.i h1
  clear h1
  obtain ⟨n3, c3, _, rfl, g3, h3⟩ := tyL.l h2
  clear h2
  obtain rfl := tyL.nil h3
  clear h3
  obtain ⟨v0, _, rfl, s0, h0⟩ := hx
  obtain ⟨_, rfl, h1⟩ := h0
  obtain ⟨_, rfl, h2⟩ := h1
  obtain ⟨v3, _, rfl, s3, h3⟩ := h2
  obtain rfl := h3
  obtain ⟨M0, hM0⟩ : ∃ M, M = (n0 + wt c0) := ⟨_, rfl⟩
  have HC0 : Hid (∀ (wx : World) (l : Int), Below w.heap.size w wx → 0 ≤ l → l ≤ 1048576 → Calls Try.prog 35 #[v0, .int .i64 l] wx fun e w' => e = .returned (.int .i64 (leftI l M0)) ∧ Below wx.heap.size wx w') := fun wx l hb q0 q1 => hM0 ▸ uszObjS_any (lo := lo) (hi := hi) n0 c0 _ l wx g0 q0 q1 (s0.below hb)
  obtain ⟨M1, hM1⟩ : ∃ M, M = (n3 + wt c3) := ⟨_, rfl⟩
  have HC1 : Hid (∀ (wx : World) (l : Int), Below w.heap.size w wx → 0 ≤ l → l ≤ 1048576 → Calls Try.prog 36 #[v3, .int .i64 l] wx fun e w' => e = .returned (.int .i64 (leftI l M1)) ∧ Below wx.heap.size wx w') := fun wx l hb q0 q1 => hM1 ▸ uszChangeS_any (lo := lo) (hi := hi) n3 c3 _ l wx g3 q0 q1 (s3.below hb)
  have E : Hid (leftI left (wt (UD.l 17 n0 c0 (UD.p (.int .i64 z1) (UD.p (.int .i64 z2) (UD.l 19 n3 c3 UD.nil))))) = leftI left (M0 + (M1 + 0))) := by show _ = _; congr 1 <;> (simp only [wt, wtP, hM0, hM1] <;> omega)
  generalize leftI left (wt (UD.l 17 n0 c0 (UD.p (.int .i64 z1) (UD.p (.int .i64 z2) (UD.l 19 n3 c3 UD.nil))))) = R at *
  have HA : Hid (∀ o, Below w.heap.size w (w.alloc o)) := fun o => (Below.refl _ _).alloc (Nat.le_refl _) _
  obtain ⟨AX, hAX⟩ : ∃ AX : List Value, AX = (v0 :: (Value.int .i64 z1 :: (Value.int .i64 z2 :: (v3 :: [])))) := ⟨_, rfl⟩
  rw [← hAX]
  have hlen : AX.length = 4 := by rw [hAX]; simp
  have e0 : AX[0]? = some (v0) := at_mid (i := 0) (pre := (([] : List Value))) (ys := [v0]) (post := (Value.int .i64 z1 :: (Value.int .i64 z2 :: (v3 :: [])))) (by rw [hAX]; simp) (by simp) rfl
  have e1 : AX[1]? = some (.int .i64 z1) := at_mid (i := 0) (pre := ([v0])) (ys := [.int .i64 z1]) (post := (Value.int .i64 z2 :: (v3 :: []))) (by rw [hAX]; simp) (by simp) rfl
  have e2 : AX[2]? = some (.int .i64 z2) := at_mid (i := 0) (pre := ([v0, Value.int .i64 z1])) (ys := [.int .i64 z2]) (post := (v3 :: [])) (by rw [hAX]; simp) (by simp) rfl
  have e3 : AX[3]? = some (v3) := at_mid (i := 0) (pre := ([v0, Value.int .i64 z1, Value.int .i64 z2])) (ys := [v3]) (post := []) (by rw [hAX]; simp) (by simp) rfl
  clear hAX
  have E0 := uhide e0
  clear e0
  have E1 := uhide e1
  clear e1
  have E2 := uhide e2
  clear e2
  have E3 := uhide e3
  clear e3
  have OA0 : Hid (objU (w.alloc (.cells AX.toArray 33)) w.heap.size 33 AX) := objU.new2 _ _ rfl
  clear ht g0 s0 g1 g2 g3 s3 hM0 hM1
  obtain ⟨y0q, hy0⟩ : ∃ y, y = leftI left M0 := ⟨_, rfl⟩
  have Y0q := uhide hy0
  by_cases k0 : y0q < 0
  · have EN : Hid (R = -1) := by show _ = _; rw [E.out]; exact leftI_neg _ (by omega) (by rw [← hy0]; exact k0)
    clear E hy0
    go_enter Try.func13, Try.ntmps13
    go_wp2_with (first
    | ((with_reducible refine wpList_load_one ?qqg62 30 ?qqx62 ?qqo62 w.heap.size 0 ?qqh62 (v0) Try.rBase_Llaws_Obj (OA0.out.cell 0 _ E0.out) ?_); (case qqg62 => rfl); (case qqo62 => rfl); (case qqh62 => simp [Act.eval, Act.put]))
    | ((with_reducible refine wpList_load_one ?qqg63 31 ?qqx63 ?qqo63 w.heap.size 3 ?qqh63 (v3) Try.rBase_Llaws_Change (OA0.out.cell 3 _ E3.out) ?_); (case qqg63 => rfl); (case qqo63 => rfl); (case qqh63 => simp [Act.eval, Act.put]))
    )
    refine (HC0.out _ _ (HA.out _) (by omega) (by omega)).mono ?_
    rintro e w1 ⟨rfl, hb1⟩
    have OA1 := uhide (OA0.out.below hb1)
    have B1 : Hid (Below w.heap.size w w1) := (HA.out _).trans (hb1.mono (by simp))
    clear hb1
    rw [show leftI left M0 = y0q from Y0q.out.symm]
    go_wp2
    go_ret
    exact ⟨ret_intU EN.out.symm, B1.out⟩
  replace E : Hid (R = leftI y0q (M1 + 0)) := by
    obtain ⟨q1, q2, q3⟩ := leftI_pos (x := left) (a := M0) (M1 + 0) (by rw [← hy0]; exact k0)
    show _ = _; rw [E.out, q1, ← hy0]
  have u0 : y0q ≤ left := by rw [hy0]; unfold leftI; split <;> omega
  clear hy0
  obtain ⟨y1q, hy1⟩ : ∃ y, y = leftI y0q M1 := ⟨_, rfl⟩
  have Y1q := uhide hy1
  by_cases k1 : y1q < 0
  · have EN : Hid (R = -1) := by show _ = _; rw [E.out]; exact leftI_neg _ (by omega) (by rw [← hy1]; exact k1)
    clear E hy1
    go_enter Try.func13, Try.ntmps13
    go_wp2_with (first
    | ((with_reducible refine wpList_load_one ?qqg86 30 ?qqx86 ?qqo86 w.heap.size 0 ?qqh86 (v0) Try.rBase_Llaws_Obj (OA0.out.cell 0 _ E0.out) ?_); (case qqg86 => rfl); (case qqo86 => rfl); (case qqh86 => simp [Act.eval, Act.put]))
    | ((with_reducible refine wpList_load_one ?qqg87 31 ?qqx87 ?qqo87 w.heap.size 3 ?qqh87 (v3) Try.rBase_Llaws_Change (OA0.out.cell 3 _ E3.out) ?_); (case qqg87 => rfl); (case qqo87 => rfl); (case qqh87 => simp [Act.eval, Act.put]))
    )
    refine (HC0.out _ _ (HA.out _) (by omega) (by omega)).mono ?_
    rintro e w1 ⟨rfl, hb1⟩
    have OA1 := uhide (OA0.out.below hb1)
    have B1 : Hid (Below w.heap.size w w1) := (HA.out _).trans (hb1.mono (by simp))
    clear hb1
    rw [show leftI left M0 = y0q from Y0q.out.symm]
    go_wp2_with (first
    | ((with_reducible refine wpList_load_one ?qqg96 30 ?qqx96 ?qqo96 w.heap.size 0 ?qqh96 (v0) Try.rBase_Llaws_Obj (OA1.out.cell 0 _ E0.out) ?_); (case qqg96 => rfl); (case qqo96 => rfl); (case qqh96 => simp [Act.eval, Act.put]))
    | ((with_reducible refine wpList_load_one ?qqg97 31 ?qqx97 ?qqo97 w.heap.size 3 ?qqh97 (v3) Try.rBase_Llaws_Change (OA1.out.cell 3 _ E3.out) ?_); (case qqg97 => rfl); (case qqo97 => rfl); (case qqh97 => simp [Act.eval, Act.put]))
    )
    refine (HC1.out _ _ B1.out (by omega) (by omega)).mono ?_
    rintro e w2 ⟨rfl, hb2⟩
    have OA2 := uhide (OA1.out.below hb2)
    have B2 : Hid (Below w.heap.size w w2) := B1.out.trans (hb2.mono B1.out.size)
    clear hb2
    rw [show leftI y0q M1 = y1q from Y1q.out.symm]
    go_wp2
    go_ret
    exact ⟨ret_intU EN.out.symm, B2.out⟩
  replace E : Hid (R = leftI y1q (0)) := by
    obtain ⟨q1, q2, q3⟩ := leftI_pos (x := y0q) (a := M1) (0) (by rw [← hy1]; exact k1)
    show _ = _; rw [E.out, q1, ← hy1]
  have u1 : y1q ≤ y0q := by rw [hy1]; unfold leftI; split <;> omega
  clear hy1
  replace E : Hid (R = y1q) := E.out.trans (leftI_zero (by omega))
  go_enter Try.func13, Try.ntmps13
  go_wp2_with (first
    | ((with_reducible refine wpList_load_one ?qqg116 30 ?qqx116 ?qqo116 w.heap.size 0 ?qqh116 (v0) Try.rBase_Llaws_Obj (OA0.out.cell 0 _ E0.out) ?_); (case qqg116 => rfl); (case qqo116 => rfl); (case qqh116 => simp [Act.eval, Act.put]))
    | ((with_reducible refine wpList_load_one ?qqg117 31 ?qqx117 ?qqo117 w.heap.size 3 ?qqh117 (v3) Try.rBase_Llaws_Change (OA0.out.cell 3 _ E3.out) ?_); (case qqg117 => rfl); (case qqo117 => rfl); (case qqh117 => simp [Act.eval, Act.put]))
    )
  refine (HC0.out _ _ (HA.out _) (by omega) (by omega)).mono ?_
  rintro e w1 ⟨rfl, hb1⟩
  have OA1 := uhide (OA0.out.below hb1)
  have B1 : Hid (Below w.heap.size w w1) := (HA.out _).trans (hb1.mono (by simp))
  clear hb1
  rw [show leftI left M0 = y0q from Y0q.out.symm]
  go_wp2_with (first
    | ((with_reducible refine wpList_load_one ?qqg126 30 ?qqx126 ?qqo126 w.heap.size 0 ?qqh126 (v0) Try.rBase_Llaws_Obj (OA1.out.cell 0 _ E0.out) ?_); (case qqg126 => rfl); (case qqo126 => rfl); (case qqh126 => simp [Act.eval, Act.put]))
    | ((with_reducible refine wpList_load_one ?qqg127 31 ?qqx127 ?qqo127 w.heap.size 3 ?qqh127 (v3) Try.rBase_Llaws_Change (OA1.out.cell 3 _ E3.out) ?_); (case qqg127 => rfl); (case qqo127 => rfl); (case qqh127 => simp [Act.eval, Act.put]))
    )
  refine (HC1.out _ _ B1.out (by omega) (by omega)).mono ?_
  rintro e w2 ⟨rfl, hb2⟩
  have OA2 := uhide (OA1.out.below hb2)
  have B2 : Hid (Below w.heap.size w w2) := B1.out.trans (hb2.mono B1.out.size)
  clear hb2
  rw [show leftI y0q M1 = y1q from Y1q.out.symm]
  go_wp2
  go_ret
  exact ⟨ret_intU E.out.symm, B2.out⟩
end Go.Proofs.Ytamlgjmboljcdaa
/- Bases: both sides look at one alike. -/
namespace Go.Proofs.Ytamlgjmboljcdaa
open Go.RowKit Go.BigFrame
set_option linter.unusedVariables false
theorem baseOk_both (dA0 : UD) (htA0 : tyL dA0 (uE 10)) (hw : (wt dA0) ≤ 1048576) :
    ∃ (bR0 : Bool), (∀ (w : World) (loA0 hiA0 : Nat) (xsA0 : List Value), uH w loA0 hiA0 dA0 xsA0 → Calls Try.prog 14 #[.agg xsA0.toArray] w fun e w' => e = .returned (.bool bR0) ∧ Below w.heap.size w w') ∧
    (∀ (w : World) (loA0 hiA0 : Nat) (xsA0 : List Value), uH w loA0 hiA0 dA0 xsA0 → Calls Try.prog 16 #[.agg xsA0.toArray] w fun e w' => e = .returned (.bool bR0) ∧ Below w.heap.size w w') := by
  obtain ⟨n0, c0, z1, z2, n3, c3, hd, g0, g1, g2, g3⟩ := partsBase htA0
  refine ⟨baseB n0 c0 z1 z2 n3 c3, fun w lo hi xs hx => ?_, fun w lo hi xs hx => ?_⟩
  · rw [hd] at hx
    obtain ⟨v0, _, rfl, s0, ⟨_, rfl, ⟨_, rfl, ⟨v3, _, rfl, s3, rfl⟩⟩⟩⟩ := hx
    exact sBaseOk_of n0 c0 z1 z2 n3 c3 v0 v3 w g0 g3 s0 s3
  · rw [hd] at hx
    obtain ⟨v0, _, rfl, s0, ⟨_, rfl, ⟨_, rfl, ⟨v3, _, rfl, s3, rfl⟩⟩⟩⟩ := hx
    exact iBaseOk_of n0 c0 z1 z2 n3 c3 v0 v3 w g0 g3 s0 s3
end Go.Proofs.Ytamlgjmboljcdaa
/- Data as cells: the helpers of the laws over Base. -/
namespace Go.Proofs.Ytamlgjmboljcdaa
open Go.RowKit Go.BigFrame
set_option linter.unusedVariables false
set_option linter.unusedSimpArgs false

set_option maxRecDepth 20000 in
set_option maxHeartbeats 1600000 in
theorem ueqBase_any {lo hi lo' hi' : Nat} (d : UD) (xs ys : List Value) (w : World) (ht : tyL d (uE 10)) (hx : uH w lo hi d xs) (hy : uH w lo' hi' d ys) :
    Calls Try.prog 10 #[.agg xs.toArray, .agg ys.toArray] w fun e w' => e = .returned (.bool true) ∧ Below w.heap.size w w' := by
  replace ht : tyL d [.l 17 8, .i .i64, .i .i64, .l 19 9] := ht
  obtain ⟨n0, c0, _, rfl, g0, h0⟩ := tyL.l ht
  obtain ⟨z1, _, rfl, g1, h1⟩ := tyL.i h0
  clear h0
  obtain ⟨z2, _, rfl, g2, h2⟩ := tyL.i h1
  clear h1
  obtain ⟨n3, c3, _, rfl, g3, h3⟩ := tyL.l h2
  clear h2
  obtain rfl := tyL.nil h3
  clear h3
  obtain ⟨v0, _, rfl, s0, h0⟩ := hx
  obtain ⟨_, rfl, h1⟩ := h0
  obtain ⟨_, rfl, h2⟩ := h1
  obtain ⟨v3, _, rfl, s3, h3⟩ := h2
  obtain rfl := h3
  obtain ⟨v0r, _, rfl, s0r, h0r⟩ := hy
  obtain ⟨_, rfl, h1r⟩ := h0r
  obtain ⟨_, rfl, h2r⟩ := h1r
  obtain ⟨v3r, _, rfl, s3r, h3r⟩ := h2r
  obtain rfl := h3r
  have HC0 : Hid (∀ wx : World, Below w.heap.size w wx → Calls Try.prog 24 #[v0, v0r] wx fun e w' => e = .returned (.bool true) ∧ Below wx.heap.size wx w') := fun wx hb => ueqObjS_any (lo := lo) (hi := hi) (lo' := lo') (hi' := hi') n0 c0 _ _ wx g0 (s0.below hb) (s0r.below hb)
  have HC1 : Hid (∀ wx : World, Below w.heap.size w wx → Calls Try.prog 32 #[v3, v3r] wx fun e w' => e = .returned (.bool true) ∧ Below wx.heap.size wx w') := fun wx hb => ueqChangeS_any (lo := lo) (hi := hi) (lo' := lo') (hi' := hi') n3 c3 _ _ wx g3 (s3.below hb) (s3r.below hb)
  have q1 : (z1 != z1) = false := by simp
  have q2 : (z2 != z2) = false := by simp
  have HB : Hid (∀ o o', Below w.heap.size w ((w.alloc o).alloc o')) := fun o o' => ((Below.refl _ _).alloc (Nat.le_refl _) _).alloc (by simp) _
  obtain ⟨AX, hAX⟩ : ∃ AX : List Value, AX = (v0 :: (Value.int .i64 z1 :: (Value.int .i64 z2 :: (v3 :: [])))) := ⟨_, rfl⟩
  rw [← hAX]
  have hlen : AX.length = 4 := by rw [hAX]; simp
  have e0 : AX[0]? = some (v0) := at_mid (i := 0) (pre := (([] : List Value))) (ys := [v0]) (post := (Value.int .i64 z1 :: (Value.int .i64 z2 :: (v3 :: [])))) (by rw [hAX]; simp) (by simp) rfl
  have e1 : AX[1]? = some (.int .i64 z1) := at_mid (i := 0) (pre := ([v0])) (ys := [.int .i64 z1]) (post := (Value.int .i64 z2 :: (v3 :: []))) (by rw [hAX]; simp) (by simp) rfl
  have e2 : AX[2]? = some (.int .i64 z2) := at_mid (i := 0) (pre := ([v0, Value.int .i64 z1])) (ys := [.int .i64 z2]) (post := (v3 :: [])) (by rw [hAX]; simp) (by simp) rfl
  have e3 : AX[3]? = some (v3) := at_mid (i := 0) (pre := ([v0, Value.int .i64 z1, Value.int .i64 z2])) (ys := [v3]) (post := []) (by rw [hAX]; simp) (by simp) rfl
  clear hAX
  have E0 := uhide e0
  clear e0
  have E1 := uhide e1
  clear e1
  have E2 := uhide e2
  clear e2
  have E3 := uhide e3
  clear e3
  obtain ⟨AY, hAY⟩ : ∃ AY : List Value, AY = (v0r :: (Value.int .i64 z1 :: (Value.int .i64 z2 :: (v3r :: [])))) := ⟨_, rfl⟩
  rw [← hAY]
  have hlenr : AY.length = 4 := by rw [hAY]; simp
  have e0r : AY[0]? = some (v0r) := at_mid (i := 0) (pre := (([] : List Value))) (ys := [v0r]) (post := (Value.int .i64 z1 :: (Value.int .i64 z2 :: (v3r :: [])))) (by rw [hAY]; simp) (by simp) rfl
  have e1r : AY[1]? = some (.int .i64 z1) := at_mid (i := 0) (pre := ([v0r])) (ys := [.int .i64 z1]) (post := (Value.int .i64 z2 :: (v3r :: []))) (by rw [hAY]; simp) (by simp) rfl
  have e2r : AY[2]? = some (.int .i64 z2) := at_mid (i := 0) (pre := ([v0r, Value.int .i64 z1])) (ys := [.int .i64 z2]) (post := (v3r :: [])) (by rw [hAY]; simp) (by simp) rfl
  have e3r : AY[3]? = some (v3r) := at_mid (i := 0) (pre := ([v0r, Value.int .i64 z1, Value.int .i64 z2])) (ys := [v3r]) (post := []) (by rw [hAY]; simp) (by simp) rfl
  clear hAY
  have Er0 := uhide e0r
  clear e0r
  have Er1 := uhide e1r
  clear e1r
  have Er2 := uhide e2r
  clear e2r
  have Er3 := uhide e3r
  clear e3r
  have OA0 : Hid (objU ((w.alloc (.cells AX.toArray 25)).alloc (.cells AY.toArray 25)) w.heap.size 25 AX) := (objU.new2 _ _ rfl).old _
  have OB0 : Hid (objU ((w.alloc (.cells AX.toArray 25)).alloc (.cells AY.toArray 25)) (w.heap.size + 1) 25 AY) := objU.new2 _ _ (by simp)
  clear ht g0 s0 s0r g1 g2 g3 s3 s3r
  go_enter Try.func10, Try.ntmps10
  go_wp2_with (first
    | ((with_reducible refine wpList_load_one ?qqg77 22 ?qqx77 ?qqo77 w.heap.size 0 ?qqh77 (v0) Try.rBase_Limpl_Obj (OA0.out.cell 0 _ E0.out) ?_); (case qqg77 => rfl); (case qqo77 => rfl); (case qqh77 => simp [Act.eval, Act.put]))
    | ((with_reducible refine wpList_load_one ?qqg78 3 ?qqx78 ?qqo78 w.heap.size 1 ?qqh78 (.int .i64 z1) Try.rBase_int (OA0.out.cell 1 _ E1.out) ?_); (case qqg78 => rfl); (case qqo78 => rfl); (case qqh78 => simp [Act.eval, Act.put]))
    | ((with_reducible refine wpList_load_one ?qqg79 3 ?qqx79 ?qqo79 w.heap.size 2 ?qqh79 (.int .i64 z2) Try.rBase_int (OA0.out.cell 2 _ E2.out) ?_); (case qqg79 => rfl); (case qqo79 => rfl); (case qqh79 => simp [Act.eval, Act.put]))
    | ((with_reducible refine wpList_load_one ?qqg80 23 ?qqx80 ?qqo80 w.heap.size 3 ?qqh80 (v3) Try.rBase_Limpl_Change (OA0.out.cell 3 _ E3.out) ?_); (case qqg80 => rfl); (case qqo80 => rfl); (case qqh80 => simp [Act.eval, Act.put]))
    | ((with_reducible refine wpList_load_one ?qqg81 22 ?qqx81 ?qqo81 (w.heap.size + 1) 0 ?qqh81 (v0r) Try.rBase_Limpl_Obj (OB0.out.cell 0 _ Er0.out) ?_); (case qqg81 => rfl); (case qqo81 => rfl); (case qqh81 => simp [Act.eval, Act.put]))
    | ((with_reducible refine wpList_load_one ?qqg82 3 ?qqx82 ?qqo82 (w.heap.size + 1) 1 ?qqh82 (.int .i64 z1) Try.rBase_int (OB0.out.cell 1 _ Er1.out) ?_); (case qqg82 => rfl); (case qqo82 => rfl); (case qqh82 => simp [Act.eval, Act.put]))
    | ((with_reducible refine wpList_load_one ?qqg83 3 ?qqx83 ?qqo83 (w.heap.size + 1) 2 ?qqh83 (.int .i64 z2) Try.rBase_int (OB0.out.cell 2 _ Er2.out) ?_); (case qqg83 => rfl); (case qqo83 => rfl); (case qqh83 => simp [Act.eval, Act.put]))
    | ((with_reducible refine wpList_load_one ?qqg84 23 ?qqx84 ?qqo84 (w.heap.size + 1) 3 ?qqh84 (v3r) Try.rBase_Limpl_Change (OB0.out.cell 3 _ Er3.out) ?_); (case qqg84 => rfl); (case qqo84 => rfl); (case qqh84 => simp [Act.eval, Act.put]))
    )
  refine (HC0.out _ (HB.out _ _)).mono ?_
  rintro e w1 ⟨rfl, hb1⟩
  have OA1 := uhide (OA0.out.below hb1)
  have OB1 := uhide (OB0.out.below hb1)
  have B1 : Hid (Below w.heap.size w w1) := (HB.out _ _).trans (hb1.mono (by simp; omega))
  clear hb1 OA0 OB0
  go_wp2_with (first
    | ((with_reducible refine wpList_load_one ?qqg93 22 ?qqx93 ?qqo93 w.heap.size 0 ?qqh93 (v0) Try.rBase_Limpl_Obj (OA1.out.cell 0 _ E0.out) ?_); (case qqg93 => rfl); (case qqo93 => rfl); (case qqh93 => simp [Act.eval, Act.put]))
    | ((with_reducible refine wpList_load_one ?qqg94 3 ?qqx94 ?qqo94 w.heap.size 1 ?qqh94 (.int .i64 z1) Try.rBase_int (OA1.out.cell 1 _ E1.out) ?_); (case qqg94 => rfl); (case qqo94 => rfl); (case qqh94 => simp [Act.eval, Act.put]))
    | ((with_reducible refine wpList_load_one ?qqg95 3 ?qqx95 ?qqo95 w.heap.size 2 ?qqh95 (.int .i64 z2) Try.rBase_int (OA1.out.cell 2 _ E2.out) ?_); (case qqg95 => rfl); (case qqo95 => rfl); (case qqh95 => simp [Act.eval, Act.put]))
    | ((with_reducible refine wpList_load_one ?qqg96 23 ?qqx96 ?qqo96 w.heap.size 3 ?qqh96 (v3) Try.rBase_Limpl_Change (OA1.out.cell 3 _ E3.out) ?_); (case qqg96 => rfl); (case qqo96 => rfl); (case qqh96 => simp [Act.eval, Act.put]))
    | ((with_reducible refine wpList_load_one ?qqg97 22 ?qqx97 ?qqo97 (w.heap.size + 1) 0 ?qqh97 (v0r) Try.rBase_Limpl_Obj (OB1.out.cell 0 _ Er0.out) ?_); (case qqg97 => rfl); (case qqo97 => rfl); (case qqh97 => simp [Act.eval, Act.put]))
    | ((with_reducible refine wpList_load_one ?qqg98 3 ?qqx98 ?qqo98 (w.heap.size + 1) 1 ?qqh98 (.int .i64 z1) Try.rBase_int (OB1.out.cell 1 _ Er1.out) ?_); (case qqg98 => rfl); (case qqo98 => rfl); (case qqh98 => simp [Act.eval, Act.put]))
    | ((with_reducible refine wpList_load_one ?qqg99 3 ?qqx99 ?qqo99 (w.heap.size + 1) 2 ?qqh99 (.int .i64 z2) Try.rBase_int (OB1.out.cell 2 _ Er2.out) ?_); (case qqg99 => rfl); (case qqo99 => rfl); (case qqh99 => simp [Act.eval, Act.put]))
    | ((with_reducible refine wpList_load_one ?qqg100 23 ?qqx100 ?qqo100 (w.heap.size + 1) 3 ?qqh100 (v3r) Try.rBase_Limpl_Change (OB1.out.cell 3 _ Er3.out) ?_); (case qqg100 => rfl); (case qqo100 => rfl); (case qqh100 => simp [Act.eval, Act.put]))
    )
  refine (HC1.out _ B1.out).mono ?_
  rintro e w2 ⟨rfl, hb2⟩
  have OA2 := uhide (OA1.out.below hb2)
  have OB2 := uhide (OB1.out.below hb2)
  have B2 : Hid (Below w.heap.size w w2) := B1.out.trans (hb2.mono B1.out.size)
  clear hb2 OA1 OB1
  go_wp2
  go_ret
  exact ⟨rfl, B2.out⟩
end Go.Proofs.Ytamlgjmboljcdaa
/- Data as cells: the helpers of the laws over Obj. -/
namespace Go.Proofs.Ytamlgjmboljcdaa
open Go.RowKit Go.BigFrame
set_option linter.unusedVariables false
set_option linter.unusedSimpArgs false

set_option maxRecDepth 20000 in
set_option maxHeartbeats 3200000 in
theorem utoObj_any {lo hi : Nat} (d : UD) (xs : List Value) (w : World) (ht : tyL d (uE 8)) (hn : wt d ≤ 1048576) (hx : uH w lo hi d xs) :
    Calls Try.prog 65 #[.agg xs.toArray] w fun e w' => ∃ ys S, e = .returned (.agg ys.toArray) ∧ oH w' d ys S ∧ S.Nodup ∧ (∀ s ∈ S, w.heap.size ≤ s) ∧ Below w.heap.size w w' := by
  have hty := ht
  replace ht : tyL d [.i .i64, .s, .i .i64, .i .i64, .i .i64, .b, .l 1 0, .i .i64, .s, .i .i64, .l 1 0, .l 5 6, .i .i64, .s, .i .i64, .l 1 0, .l 5 6] := ht
  obtain ⟨z0, _, rfl, g0, h0⟩ := tyL.i ht
  obtain ⟨z1, _, rfl, g1, h1⟩ := tyL.s h0
  clear h0
  obtain ⟨z2, _, rfl, g2, h2⟩ := tyL.i h1
  clear h1
  obtain ⟨z3, _, rfl, g3, h3⟩ := tyL.i h2
  clear h2
  obtain ⟨z4, _, rfl, g4, h4⟩ := tyL.i h3
  clear h3
  obtain ⟨z5, _, rfl, h5⟩ := tyL.b h4
  clear h4
  obtain ⟨n6, c6, _, rfl, g6, h6⟩ := tyL.l h5
  clear h5
  obtain ⟨d7, _, rfl, g7, h7⟩ := tyL.split (f1 := uE 6) (f2 := [.i .i64, .s, .i .i64, .l 1 0, .l 5 6]) h6
  clear h6
  obtain ⟨d8, _, rfl, g8, h8⟩ := tyL.split (f1 := uE 6) (f2 := []) h7
  clear h7
  obtain rfl := tyL.nil h8
  clear h8
  obtain ⟨_, rfl, h0⟩ := hx
  obtain ⟨_, rfl, h1⟩ := h0
  obtain ⟨_, rfl, h2⟩ := h1
  obtain ⟨_, rfl, h3⟩ := h2
  obtain ⟨_, rfl, h4⟩ := h3
  obtain ⟨_, rfl, h5⟩ := h4
  obtain ⟨v6, _, rfl, s6, h6⟩ := h5
  obtain ⟨y7, _, rfl, l7, s7, h7⟩ := uH.split h6
  replace l7 : y7.length = 5 := l7.trans (tyL.len g7)
  clear h6
  obtain ⟨y8, _, rfl, l8, s8, h8⟩ := uH.split h7
  replace l8 : y8.length = 5 := l8.trans (tyL.len g8)
  clear h7
  obtain rfl := h8
  simp only [wt, wtP, wt_app] at hn
  generalize hD : (UD.p (.int .i64 z0) (UD.p (.string z1) (UD.p (.int .i64 z2) (UD.p (.int .i64 z3) (UD.p (.int .i64 z4) (UD.p (.bool z5) (UD.l 1 n6 c6 (UD.app d7 (UD.app d8 UD.nil))))))))) = D at hty ⊢
  have HD := uhide hD
  clear hD
  have HC6 : Hid (∀ wx : World, Below w.heap.size w wx → Calls Try.prog 77 #[v6] wx fun e w' => ∃ a p T, e = .returned (.slice a n6 p) ∧ Hid (oS w' 1 n6 c6 (.slice a n6 p) T) ∧ Hid (own2 T wx.heap.size w'.heap.size) ∧ Below wx.heap.size wx w') := fun wx hb => (utoStringS_any (lo := lo) (hi := hi) n6 c6 _ wx g6 (by omega) (s6.below hb)).mono fun e w' ⟨c', T, h1, h2, h3, h4, h5⟩ => by
    obtain ⟨a, p, rfl⟩ := h2.slice
    exact ⟨a, p, T, h1, h2, ⟨h3, fun s hs => ⟨h4 s hs, h2.lt s hs⟩⟩, h5⟩
  have HC7 : Hid (∀ wx : World, Below w.heap.size w wx → Calls Try.prog 78 #[.agg y7.toArray] wx fun e w' => ∃ ys T, e = .returned (.agg ys.toArray) ∧ ys.length = 5 ∧ Hid (oH w' d7 ys T) ∧ Hid (own2 T wx.heap.size w'.heap.size) ∧ Hid (∀ u ∈ ys, u.oneCell' = true) ∧ Below wx.heap.size wx w') := fun wx hb => (utoValue_any (lo := lo) (hi := hi) d7 _ wx g7 (by omega) (s7.below hb)).mono fun e w' ⟨ys, T, h1, h2, h3, h4, h5⟩ => ⟨ys, T, h1, h2.len.trans (tyL.len g7), h2, ⟨h3, fun s hs => ⟨h4 s hs, h2.lt _ _ _ s hs⟩⟩, ones_own g7 h2, h5⟩
  have HC8 : Hid (∀ wx : World, Below w.heap.size w wx → Calls Try.prog 78 #[.agg y8.toArray] wx fun e w' => ∃ ys T, e = .returned (.agg ys.toArray) ∧ ys.length = 5 ∧ Hid (oH w' d8 ys T) ∧ Hid (own2 T wx.heap.size w'.heap.size) ∧ Hid (∀ u ∈ ys, u.oneCell' = true) ∧ Below wx.heap.size wx w') := fun wx hb => (utoValue_any (lo := lo) (hi := hi) d8 _ wx g8 (by omega) (s8.below hb)).mono fun e w' ⟨ys, T, h1, h2, h3, h4, h5⟩ => ⟨ys, T, h1, h2.len.trans (tyL.len g8), h2, ⟨h3, fun s hs => ⟨h4 s hs, h2.lt _ _ _ s hs⟩⟩, ones_own g8 h2, h5⟩
  obtain ⟨AX, hAX⟩ : ∃ AX : List Value, AX = (Value.int .i64 z0 :: (Value.string z1 :: (Value.int .i64 z2 :: (Value.int .i64 z3 :: (Value.int .i64 z4 :: (Value.bool z5 :: (v6 :: ((y7 ++ ((y8 ++ []))))))))))) := ⟨_, rfl⟩
  rw [← hAX]
  have hlen : AX.length = 17 := by rw [hAX]; simp [l7, l8]
  have e0 : AX[0]? = some (.int .i64 z0) := at_mid (i := 0) (pre := (([] : List Value))) (ys := [.int .i64 z0]) (post := (Value.string z1 :: (Value.int .i64 z2 :: (Value.int .i64 z3 :: (Value.int .i64 z4 :: (Value.bool z5 :: (v6 :: ((y7 ++ ((y8 ++ []))))))))))) (by rw [hAX]; simp) (by simp) rfl
  have e1 : AX[1]? = some (.string z1) := at_mid (i := 0) (pre := ([Value.int .i64 z0])) (ys := [.string z1]) (post := (Value.int .i64 z2 :: (Value.int .i64 z3 :: (Value.int .i64 z4 :: (Value.bool z5 :: (v6 :: ((y7 ++ ((y8 ++ [])))))))))) (by rw [hAX]; simp) (by simp) rfl
  have e2 : AX[2]? = some (.int .i64 z2) := at_mid (i := 0) (pre := ([Value.int .i64 z0, Value.string z1])) (ys := [.int .i64 z2]) (post := (Value.int .i64 z3 :: (Value.int .i64 z4 :: (Value.bool z5 :: (v6 :: ((y7 ++ ((y8 ++ []))))))))) (by rw [hAX]; simp) (by simp) rfl
  have e3 : AX[3]? = some (.int .i64 z3) := at_mid (i := 0) (pre := ([Value.int .i64 z0, Value.string z1, Value.int .i64 z2])) (ys := [.int .i64 z3]) (post := (Value.int .i64 z4 :: (Value.bool z5 :: (v6 :: ((y7 ++ ((y8 ++ [])))))))) (by rw [hAX]; simp) (by simp) rfl
  have e4 : AX[4]? = some (.int .i64 z4) := at_mid (i := 0) (pre := ([Value.int .i64 z0, Value.string z1, Value.int .i64 z2, Value.int .i64 z3])) (ys := [.int .i64 z4]) (post := (Value.bool z5 :: (v6 :: ((y7 ++ ((y8 ++ []))))))) (by rw [hAX]; simp) (by simp) rfl
  have e5 : AX[5]? = some (.bool z5) := at_mid (i := 0) (pre := ([Value.int .i64 z0, Value.string z1, Value.int .i64 z2, Value.int .i64 z3, Value.int .i64 z4])) (ys := [.bool z5]) (post := (v6 :: ((y7 ++ ((y8 ++ [])))))) (by rw [hAX]; simp) (by simp) rfl
  have e6 : AX[6]? = some (v6) := at_mid (i := 0) (pre := ([Value.int .i64 z0, Value.string z1, Value.int .i64 z2, Value.int .i64 z3, Value.int .i64 z4, Value.bool z5])) (ys := [v6]) (post := ((y7 ++ ((y8 ++ []))))) (by rw [hAX]; simp) (by simp) rfl
  have e7 : ∀ i v, y7[i]? = some v → AX[7 + i]? = some v := fun i v h => at_mid (pre := ([Value.int .i64 z0, Value.string z1, Value.int .i64 z2, Value.int .i64 z3, Value.int .i64 z4, Value.bool z5, v6])) (ys := y7) (post := ((y8 ++ []))) (by rw [hAX]; simp) (by simp) h
  have e8 : ∀ i v, y8[i]? = some v → AX[12 + i]? = some v := fun i v h => at_mid (pre := ([Value.int .i64 z0, Value.string z1, Value.int .i64 z2, Value.int .i64 z3, Value.int .i64 z4, Value.bool z5, v6] ++ y7)) (ys := y8) (post := []) (by rw [hAX]; simp) (by simp [l7]) h
  clear hAX
  have HTY := uhide hty
  clear hty
  clear hn g0 g1 g2 g3 g4 g6 s6 g7 s7 g8 s8
  have E0 := uhide e0
  have E1 := uhide e1
  have E2 := uhide e2
  have E3 := uhide e3
  have E4 := uhide e4
  have E5 := uhide e5
  have E6 := uhide e6
  have E7 := uhide e7
  have E8 := uhide e8
  clear e0 e1 e2 e3 e4 e5 e6 e7 e8
  have BZ0 : Hid (0 + 1 ≤ ([.int .i64 0, .string ⟨#[]⟩, .int .i64 0, .int .i64 0, .int .i64 0, .bool false, .slice none 0 0, .int .i64 0, .string ⟨#[]⟩, .int .i64 0, .slice none 0 0, .slice none 0 0, .int .i64 0, .string ⟨#[]⟩, .int .i64 0, .slice none 0 0, .slice none 0 0] : List Value).length) := by show _ ≤ _; decide
  have BZ1 : Hid (1 + 1 ≤ ([.int .i64 0, .string ⟨#[]⟩, .int .i64 0, .int .i64 0, .int .i64 0, .bool false, .slice none 0 0, .int .i64 0, .string ⟨#[]⟩, .int .i64 0, .slice none 0 0, .slice none 0 0, .int .i64 0, .string ⟨#[]⟩, .int .i64 0, .slice none 0 0, .slice none 0 0] : List Value).length) := by show _ ≤ _; decide
  have BZ2 : Hid (2 + 1 ≤ ([.int .i64 0, .string ⟨#[]⟩, .int .i64 0, .int .i64 0, .int .i64 0, .bool false, .slice none 0 0, .int .i64 0, .string ⟨#[]⟩, .int .i64 0, .slice none 0 0, .slice none 0 0, .int .i64 0, .string ⟨#[]⟩, .int .i64 0, .slice none 0 0, .slice none 0 0] : List Value).length) := by show _ ≤ _; decide
  have BZ3 : Hid (3 + 1 ≤ ([.int .i64 0, .string ⟨#[]⟩, .int .i64 0, .int .i64 0, .int .i64 0, .bool false, .slice none 0 0, .int .i64 0, .string ⟨#[]⟩, .int .i64 0, .slice none 0 0, .slice none 0 0, .int .i64 0, .string ⟨#[]⟩, .int .i64 0, .slice none 0 0, .slice none 0 0] : List Value).length) := by show _ ≤ _; decide
  have BZ4 : Hid (4 + 1 ≤ ([.int .i64 0, .string ⟨#[]⟩, .int .i64 0, .int .i64 0, .int .i64 0, .bool false, .slice none 0 0, .int .i64 0, .string ⟨#[]⟩, .int .i64 0, .slice none 0 0, .slice none 0 0, .int .i64 0, .string ⟨#[]⟩, .int .i64 0, .slice none 0 0, .slice none 0 0] : List Value).length) := by show _ ≤ _; decide
  have BZ5 : Hid (5 + 1 ≤ ([.int .i64 0, .string ⟨#[]⟩, .int .i64 0, .int .i64 0, .int .i64 0, .bool false, .slice none 0 0, .int .i64 0, .string ⟨#[]⟩, .int .i64 0, .slice none 0 0, .slice none 0 0, .int .i64 0, .string ⟨#[]⟩, .int .i64 0, .slice none 0 0, .slice none 0 0] : List Value).length) := by show _ ≤ _; decide
  have BZ6 : Hid (6 + 1 ≤ ([.int .i64 0, .string ⟨#[]⟩, .int .i64 0, .int .i64 0, .int .i64 0, .bool false, .slice none 0 0, .int .i64 0, .string ⟨#[]⟩, .int .i64 0, .slice none 0 0, .slice none 0 0, .int .i64 0, .string ⟨#[]⟩, .int .i64 0, .slice none 0 0, .slice none 0 0] : List Value).length) := by show _ ≤ _; decide
  have BZ7 : Hid (7 + 5 ≤ ([.int .i64 0, .string ⟨#[]⟩, .int .i64 0, .int .i64 0, .int .i64 0, .bool false, .slice none 0 0, .int .i64 0, .string ⟨#[]⟩, .int .i64 0, .slice none 0 0, .slice none 0 0, .int .i64 0, .string ⟨#[]⟩, .int .i64 0, .slice none 0 0, .slice none 0 0] : List Value).length) := by show _ ≤ _; decide
  have BZ8 : Hid (12 + 5 ≤ ([.int .i64 0, .string ⟨#[]⟩, .int .i64 0, .int .i64 0, .int .i64 0, .bool false, .slice none 0 0, .int .i64 0, .string ⟨#[]⟩, .int .i64 0, .slice none 0 0, .slice none 0 0, .int .i64 0, .string ⟨#[]⟩, .int .i64 0, .slice none 0 0, .slice none 0 0] : List Value).length) := by show _ ≤ _; decide
  have YZ7 : Hid ((Try.prog.info? 86).map (·.size) = some y7.length) := by show _ = _; rw [l7]; exact Try.zObj_laws_Value
  clear l7
  have YZ8 : Hid ((Try.prog.info? 86).map (·.size) = some y8.length) := by show _ = _; rw [l8]; exact Try.zObj_laws_Value
  clear l8
  have C := uhide (CP.start (w := w) (TA := 88) (TO := 43) (AX := AX) (Z := [.int .i64 0, .string ⟨#[]⟩, .int .i64 0, .int .i64 0, .int .i64 0, .bool false, .slice none 0 0, .int .i64 0, .string ⟨#[]⟩, .int .i64 0, .slice none 0 0, .slice none 0 0, .int .i64 0, .string ⟨#[]⟩, .int .i64 0, .slice none 0 0, .slice none 0 0]))
  go_enter Try.func65, Try.ntmps65
  go_wp2_with (first
    | ((with_reducible refine wpList_load_one ?qqg100 3 ?qqx100 ?qqo100 w.heap.size 0 ?qqh100 (.int .i64 z0) Try.rObj_int (C.out.cell E0.out) ?_); (case qqg100 => rfl); (case qqo100 => rfl); (case qqh100 => simp [Act.eval, Act.put]))
    | ((with_reducible refine wpList_store_v ?qqg101 3 ?qqx101 ?qqy101 ?qqo101 ?qqd101 (w.heap.size + 1 + 1) 0 ?qqh101 (.int .i64 z0) ?qqv101 one_int Try.zObj_int (C.out.there 1 BZ0.out) ?_); (case qqg101 => rfl); (case qqo101 => rfl); (case qqd101 => rfl); (case qqh101 => simp [Act.eval, Act.put]); (case qqv101 => simp [Act.eval, Act.put]); intro wy ey; replace C := uhide (C.out.plain ey (j' := 1) rfl (by decide)); clear ey)
    | ((with_reducible refine wpList_load_one ?qqg102 9 ?qqx102 ?qqo102 w.heap.size 1 ?qqh102 (.string z1) Try.rObj_string (C.out.cell E1.out) ?_); (case qqg102 => rfl); (case qqo102 => rfl); (case qqh102 => simp [Act.eval, Act.put]))
    | ((with_reducible refine wpList_store_v ?qqg103 9 ?qqx103 ?qqy103 ?qqo103 ?qqd103 (w.heap.size + 1 + 1) 1 ?qqh103 (.string z1) ?qqv103 one_string Try.zObj_string (C.out.there 1 BZ1.out) ?_); (case qqg103 => rfl); (case qqo103 => rfl); (case qqd103 => rfl); (case qqh103 => simp [Act.eval, Act.put]); (case qqv103 => simp [Act.eval, Act.put]); intro wy ey; replace C := uhide (C.out.plain ey (j' := 2) rfl (by decide)); clear ey)
    | ((with_reducible refine wpList_load_one ?qqg104 3 ?qqx104 ?qqo104 w.heap.size 2 ?qqh104 (.int .i64 z2) Try.rObj_int (C.out.cell E2.out) ?_); (case qqg104 => rfl); (case qqo104 => rfl); (case qqh104 => simp [Act.eval, Act.put]))
    | ((with_reducible refine wpList_store_v ?qqg105 3 ?qqx105 ?qqy105 ?qqo105 ?qqd105 (w.heap.size + 1 + 1) 2 ?qqh105 (.int .i64 z2) ?qqv105 one_int Try.zObj_int (C.out.there 1 BZ2.out) ?_); (case qqg105 => rfl); (case qqo105 => rfl); (case qqd105 => rfl); (case qqh105 => simp [Act.eval, Act.put]); (case qqv105 => simp [Act.eval, Act.put]); intro wy ey; replace C := uhide (C.out.plain ey (j' := 3) rfl (by decide)); clear ey)
    | ((with_reducible refine wpList_load_one ?qqg106 3 ?qqx106 ?qqo106 w.heap.size 3 ?qqh106 (.int .i64 z3) Try.rObj_int (C.out.cell E3.out) ?_); (case qqg106 => rfl); (case qqo106 => rfl); (case qqh106 => simp [Act.eval, Act.put]))
    | ((with_reducible refine wpList_store_v ?qqg107 3 ?qqx107 ?qqy107 ?qqo107 ?qqd107 (w.heap.size + 1 + 1) 3 ?qqh107 (.int .i64 z3) ?qqv107 one_int Try.zObj_int (C.out.there 1 BZ3.out) ?_); (case qqg107 => rfl); (case qqo107 => rfl); (case qqd107 => rfl); (case qqh107 => simp [Act.eval, Act.put]); (case qqv107 => simp [Act.eval, Act.put]); intro wy ey; replace C := uhide (C.out.plain ey (j' := 4) rfl (by decide)); clear ey)
    | ((with_reducible refine wpList_load_one ?qqg108 3 ?qqx108 ?qqo108 w.heap.size 4 ?qqh108 (.int .i64 z4) Try.rObj_int (C.out.cell E4.out) ?_); (case qqg108 => rfl); (case qqo108 => rfl); (case qqh108 => simp [Act.eval, Act.put]))
    | ((with_reducible refine wpList_store_v ?qqg109 3 ?qqx109 ?qqy109 ?qqo109 ?qqd109 (w.heap.size + 1 + 1) 4 ?qqh109 (.int .i64 z4) ?qqv109 one_int Try.zObj_int (C.out.there 1 BZ4.out) ?_); (case qqg109 => rfl); (case qqo109 => rfl); (case qqd109 => rfl); (case qqh109 => simp [Act.eval, Act.put]); (case qqv109 => simp [Act.eval, Act.put]); intro wy ey; replace C := uhide (C.out.plain ey (j' := 5) rfl (by decide)); clear ey)
    | ((with_reducible refine wpList_load_one ?qqg110 4 ?qqx110 ?qqo110 w.heap.size 5 ?qqh110 (.bool z5) Try.rObj_bool (C.out.cell E5.out) ?_); (case qqg110 => rfl); (case qqo110 => rfl); (case qqh110 => simp [Act.eval, Act.put]))
    | ((with_reducible refine wpList_store_v ?qqg111 4 ?qqx111 ?qqy111 ?qqo111 ?qqd111 (w.heap.size + 1 + 1) 5 ?qqh111 (.bool z5) ?qqv111 one_bool Try.zObj_bool (C.out.there 1 BZ5.out) ?_); (case qqg111 => rfl); (case qqo111 => rfl); (case qqd111 => rfl); (case qqh111 => simp [Act.eval, Act.put]); (case qqv111 => simp [Act.eval, Act.put]); intro wy ey; replace C := uhide (C.out.plain ey (j' := 6) rfl (by decide)); clear ey)
    | ((with_reducible refine wpList_load_one ?qqg112 38 ?qqx112 ?qqo112 w.heap.size 6 ?qqh112 (v6) Try.rObj_Lstring (C.out.cell E6.out) ?_); (case qqg112 => rfl); (case qqo112 => rfl); (case qqh112 => simp [Act.eval, Act.put]))
    )
  refine (HC6.out _ C.out.bel).mono ?_
  rintro e w1 ⟨a6r, p6r, T6, rfl, O6, W6, hb6⟩
  have D := uhide (C.out.below hb6)
  have HB6 := uhide hb6
  clear hb6
  go_wp2_with (first
    | ((with_reducible refine wpList_store_v ?qqg120 38 ?qqx120 ?qqy120 ?qqo120 ?qqd120 (w.heap.size + 1 + 1) 6 ?qqh120 (.slice a6r n6 p6r) ?qqv120 one_slice Try.zObj_Lstring (D.out.there 1 BZ6.out) ?_); (case qqg120 => rfl); (case qqo120 => rfl); (case qqd120 => rfl); (case qqh120 => simp [Act.eval, Act.put]); (case qqv120 => simp [Act.eval, Act.put]); intro wy ey; replace C := uhide (C.out.list HB6.out O6.out W6.out ey (j' := 7) rfl (by decide)); clear ey D HB6 O6 W6)
    | ((with_reducible refine wpList_load_row2 ?qqg121 86 ?qqx121 ?qqo121 w.heap.size 7 ?qqh121 y7 Try.rObj_laws_Value YZ7.out (C.out.range E7.out) ?_); (case qqg121 => rfl); (case qqo121 => rfl); (case qqh121 => simp [Act.eval, Act.put]))
    )
  refine (HC7.out _ C.out.bel).mono ?_
  rintro e w2 ⟨y7r, T7, rfl, L7r, O7, W7, U7, hb7⟩
  have D := uhide (C.out.below hb7)
  have SZ : Hid ((Try.prog.info? 41).map (·.size) = some y7r.length) := by show _ = _; rw [L7r]; exact Try.zObj_impl_Value
  have TH : Hid (w2.there (w.heap.size + 1 + 1) 7 y7r.length) := by rw [L7r]; exact D.out.there 5 BZ7.out
  have HB7 := uhide hb7
  clear hb7
  go_wp2_with (first
    | ((with_reducible refine wpList_store_cells ?qqg131 41 ?qqx131 ?qqy131 ?qqo131 ?qqd131 (w.heap.size + 1 + 1) 7 ?qqh131 (.agg y7r.toArray) ?qqv131 y7r cells_agg U7.out SZ.out TH.out ?_); (case qqg131 => rfl); (case qqo131 => rfl); (case qqd131 => rfl); (case qqh131 => simp [Act.eval, Act.put]); (case qqv131 => simp [Act.eval, Act.put]); intro wy ey; replace C := uhide (C.out.step HB7.out O7.out W7.out ey (j' := 12) (by rw [L7r]) (by decide)); clear ey D SZ TH HB7 O7 W7)
    | ((with_reducible refine wpList_load_row2 ?qqg132 86 ?qqx132 ?qqo132 w.heap.size 12 ?qqh132 y8 Try.rObj_laws_Value YZ8.out (C.out.range E8.out) ?_); (case qqg132 => rfl); (case qqo132 => rfl); (case qqh132 => simp [Act.eval, Act.put]))
    )
  refine (HC8.out _ C.out.bel).mono ?_
  rintro e w3 ⟨y8r, T8, rfl, L8r, O8, W8, U8, hb8⟩
  have D := uhide (C.out.below hb8)
  have SZ : Hid ((Try.prog.info? 41).map (·.size) = some y8r.length) := by show _ = _; rw [L8r]; exact Try.zObj_impl_Value
  have TH : Hid (w3.there (w.heap.size + 1 + 1) 12 y8r.length) := by rw [L8r]; exact D.out.there 5 BZ8.out
  have HB8 := uhide hb8
  clear hb8
  have FZ0 : Hid (∀ l : List Value, l.length = 17 → Hid ((Try.prog.info? 43).map (·.size) = some l.length)) := fun l h => by show _ = _; rw [h]; exact Try.zObj_impl_Obj
  have HZL : Hid (17 = ([.int .i64 0, .string ⟨#[]⟩, .int .i64 0, .int .i64 0, .int .i64 0, .bool false, .slice none 0 0, .int .i64 0, .string ⟨#[]⟩, .int .i64 0, .slice none 0 0, .slice none 0 0, .int .i64 0, .string ⟨#[]⟩, .int .i64 0, .slice none 0 0, .slice none 0 0] : List Value).length) := by show _ = _; decide
  go_wp2_with (first
    | ((with_reducible refine wpList_store_cells ?qqg144 41 ?qqx144 ?qqy144 ?qqo144 ?qqd144 (w.heap.size + 1 + 1) 12 ?qqh144 (.agg y8r.toArray) ?qqv144 y8r cells_agg U8.out SZ.out TH.out ?_); (case qqg144 => rfl); (case qqo144 => rfl); (case qqd144 => rfl); (case qqh144 => simp [Act.eval, Act.put]); (case qqv144 => simp [Act.eval, Act.put]); intro wy ey; replace C := uhide (C.out.step HB8.out O8.out W8.out ey (j' := 17) (by rw [L8r]) (by decide)); clear ey D SZ TH HB8 O8 W8; obtain ⟨dn, S, RG, hl, TH, hod, HF⟩ := C.out.fin (D := D) (by rw [← HD.out]; apply UD.ext; simp only [UD.app_toL, UD.toL, List.cons_append, List.nil_append, List.append_nil]) HZL.out; have FZ := FZ0.out dn hl; have ON := uhide (ones_own HTY.out hod); have HFF := uhide HF; clear C hod HF)
    | ((with_reducible refine wpList_load_row2 ?qqg145 43 ?qqx145 ?qqo145 (w.heap.size + 1 + 1) 0 ?qqh145 dn Try.rObj_impl_Obj FZ.out RG.out ?_); (case qqg145 => rfl); (case qqo145 => rfl); (case qqh145 => simp [Act.eval, Act.put]))
    | ((with_reducible refine wpList_store_cells ?qqg146 43 ?qqx146 ?qqy146 ?qqo146 ?qqd146 (w.heap.size + 1) 0 ?qqh146 (.agg dn.toArray) ?qqv146 dn cells_agg ON.out FZ.out TH.out ?_); (case qqg146 => rfl); (case qqo146 => rfl); (case qqd146 => rfl); (case qqh146 => simp [Act.eval, Act.put]); (case qqv146 => simp [Act.eval, Act.put]); intro wy ey; have HG := uhide (HFF.out wy ey); clear ey HFF)
    )
  obtain ⟨HO, h1, h2, h3, h4⟩ := HG.out
  refine bodyPost_ret (v := .agg dn.toArray) ?_ rfl ⟨dn, S, rfl, ?_, h2, h3, h4⟩
  · exact results_row rfl _ _ (w.heap.size + 1) _ _ (by simp [Act.put]) HO Try.rObj_impl_Obj (by rw [hl]; exact Try.zObj_impl_Obj)
  · exact h1
theorem Try.infoUObj : (Try.prog.info? 43).map (fun i => (i.zero, i.size, decide (i.bytes ≤ 1000))) = some (some (.agg #[.int .i64 0, .string ByteArray.empty, .int .i64 0, .int .i64 0, .int .i64 0, .bool false, .slice none 0 0, .int .i64 0, .string ByteArray.empty, .int .i64 0, .slice none 0 0, .slice none 0 0, .int .i64 0, .string ByteArray.empty, .int .i64 0, .slice none 0 0, .slice none 0 0]), 17, true) := by kernel_rfl
set_option maxRecDepth 20000 in
set_option maxHeartbeats 1600000 in
theorem utoObjS_any {lo hi : Nat} (n : Nat) (cs : UD) (c : Value) (w : World) (ht : tyS 17 n cs 8) (hn : n + wt cs ≤ 1048576) (hx : uS w lo hi 17 n cs c) :
    Calls Try.prog 40 #[c] w fun e w' => ∃ c' S, e = .returned c' ∧ oS w' 17 n cs c' S ∧ S.Nodup ∧ (∀ s ∈ S, w.heap.size ≤ s) ∧ Below w.heap.size w w' := by
  obtain ⟨i0, hinf, hz0, hz1, hz2⟩ : ∃ i, Try.prog.info? 43 = some i ∧ i.zero = some (.agg #[.int .i64 0, .string ByteArray.empty, .int .i64 0, .int .i64 0, .int .i64 0, .bool false, .slice none 0 0, .int .i64 0, .string ByteArray.empty, .int .i64 0, .slice none 0 0, .slice none 0 0, .int .i64 0, .string ByteArray.empty, .int .i64 0, .slice none 0 0, .slice none 0 0]) ∧ i.size = 17 ∧ i.bytes ≤ 1000 := by
    have h := Try.infoUObj
    cases e : Try.prog.info? 43 with
    | none => rw [e] at h; cases h
    | some i => rw [e] at h; simp at h; exact ⟨i, rfl, h.1, h.2.1, h.2.2⟩
  obtain ⟨a, cap, rfl, hx2⟩ := hx
  have Hx : Hid (uS w lo hi 17 n cs (.slice a n cap)) := ⟨a, cap, rfl, hx2⟩
  have Ht := uhide ht
  have Hn : Hid (∀ q, q < n → wt (rowU cs 17 q) ≤ 1048576) := fun q hq => by have := wt_row cs 17 q; omega
  have hnn : n ≤ 1048576 := by omega
  have hbb : i0.bytes * n ≤ 281474976710656 := Nat.le_trans (Nat.mul_le_mul hz2 hnn) (by decide)
  clear hx2 ht hn
  go_enter Try.func40, Try.ntmps40
  go_wp2_with (at_make; refine wpList_make_full _ rfl _ _ 22 rfl w.heap.size 43 i0 _ 17 Try.underlying22 hinf hz0 hz1 _ _ _ _ n rfl rfl rfl rfl hbb (by unfold maxLen; omega) (Nat.le_refl _) ?_; intro w1 hown hgrow)
  have T0 := uhide (TS.start (cs := cs) hown (Below.grown (Below.refl _ _) hgrow (Nat.le_refl _) (fun k hk => by cases hk)))
  clear hown hgrow
  go_loopw [4] (fun i wr => ∃ (q : Nat), q ≤ n ∧ i = .int .i64 q ∧ Hid (TS w wr 43 17 n cs q)) (fun i _ => n - (intOf i).toNat)
  case atStart => exact ⟨0, Nat.zero_le _, rfl, T0⟩
  case round =>
    clear T0
    obtain ⟨q, hq, rfl, HT⟩ := hrel
    by_cases hlt : q < n
    · obtain ⟨b, off, rfl, hbk, hm⟩ := (Hx.out.below HT.out.bel).cells (by omega)
      have htr := Ht.out.row hlt
      have hwr := Hn.out q hlt
      obtain ⟨xs, hh, hcl⟩ := (hm.row 17 q).hand
      have hxl : xs.length = 17 := by rw [hh.len, tyL.len htr]; rfl
      have Hcon : Hid (∀ wx, Below wr.heap.size wr wx → Calls Try.prog 65 #[.agg xs.toArray] wx fun e w' => ∃ ys S, e = .returned (.agg ys.toArray) ∧ Hid (oH w' (rowU cs 17 q) ys S) ∧ Hid S.Nodup ∧ Hid (∀ s ∈ S, wx.heap.size ≤ s) ∧ Hid (ys.length = 17) ∧ Hid (∀ u ∈ ys, u.oneCell' = true) ∧ Hid (Below wx.heap.size wx w')) := fun wx hb => (utoObj_any (lo := lo) (hi := hi) _ _ wx htr hwr (hh.below hb)).mono fun e w' ⟨ys, S, h1, h2, h3, h4, h5⟩ => ⟨ys, S, h1, h2, h3, h4, h2.len.trans (tyL.len htr), ones_own htr h2, h5⟩
      have RG : Hid (wr.rangeAt b (off + q * 17) xs) := hcl
      have FZ : Hid ((Try.prog.info? 88).map (·.size) = some xs.length) := by show _ = _; rw [hxl]; exact Try.zObj_laws_Obj
      have hKn : q * 17 + 17 ≤ n * 17 := by have := Nat.mul_le_mul_right 17 (show q + 1 ≤ n by omega); rw [Nat.succ_mul] at this; exact this
      clear hcl hm htr hwr hh hxl
      go_wp2_with (first
        | ((with_reducible refine wpList_load_row2 ?qqg192 88 ?qqx192 ?qqo192 b (off + q * 17) ?qqh192 xs Try.rObj_laws_Obj FZ.out RG.out ?_); (case qqg192 => rfl); (case qqo192 => rfl); (case qqh192 => simp [Act.eval, Act.put]))
        )
      refine (Hcon.out _ (Below.refl _ _)).mono ?_
      rintro e w2 ⟨ys, S, rfl, ho, hnd, hS, hyl, hone, hb2⟩
      have TH : Hid (w2.there w.heap.size (q * 17) ys.length) := by rw [hyl.out]; exact (HT.out.below hb2.out).there _ _ hKn
      have FY : Hid ((Try.prog.info? 43).map (·.size) = some ys.length) := by show _ = _; rw [hyl.out]; exact Try.zObj_impl_Obj
      go_wp2_with (first
        | ((with_reducible refine wpList_store_cells ?qqg199 43 ?qqx199 ?qqy199 ?qqo199 ?qqd199 w.heap.size (q * 17) ?qqh199 (.agg ys.toArray) ?qqv199 ys cells_agg hone.out FY.out TH.out ?_); (case qqg199 => rfl); (case qqo199 => rfl); (case qqd199 => rfl); (case qqh199 => simp [Act.eval, Act.put]); (case qqv199 => simp [Act.eval, Act.put]); intro wy ey; have T1 := uhide (HT.out.row hb2.out ho.out hnd.out hS.out Ht.out.2.2.2.1 hlt ey); clear ey)
        )
      go_roundw
      case rel => exact ⟨q + 1, by omega, by go_num, T1⟩
      case measure => simp [intOf]; omega
    · have e : q = n := by omega
      subst e
      obtain ⟨S, h1, h2, h3, h4⟩ := HT.out.done (by decide) Ht.out.2.2.2.1
      have HS : Hid (oS wr 17 q cs (.slice (some ⟨w.heap.size, 0, none⟩) q q) S ∧ S.Nodup ∧ (∀ s ∈ S, w.heap.size ≤ s) ∧ Below w.heap.size w wr) := ⟨h1, h2, h3, h4⟩
      clear h1 h2 h3 h4
      go_wp2
      go_ret
      exact ⟨_, S, rfl, HS.out⟩
end Go.Proofs.Ytamlgjmboljcdaa
