/- Queues as plain data: items, names; what each call makes of them. -/
import Derived.Test.YtpmhmcekkppbhaaGR
namespace Go.Proofs.Ytpmhmcekkppbhaa
open Go.RowKit
set_option linter.unusedVariables false

abbrev It := ByteArray × Int × Int
def encI (x : It) : List Value := [.string x.1, .int .i64 x.2.1, .int .i64 x.2.2]
def encS (s : ByteArray) : List Value := [.string s]
theorem rowsI (I : List It) : rowsK 3 (I.map encI) := fun r hr => by obtain ⟨x, _, rfl⟩ := List.mem_map.1 hr; rfl
theorem rowsS (A : List ByteArray) : rowsK 1 (A.map encS) := fun r hr => by obtain ⟨x, _, rfl⟩ := List.mem_map.1 hr; rfl
def itU : List It → UD
  | [] => .nil
  | x :: r => .p (.string x.1) (.p (.int .i64 x.2.1) (.p (.int .i64 x.2.2) (itU r)))
def stU : List ByteArray → UD
  | [] => .nil
  | s :: r => .p (.string s) (stU r)
structure Qu where
  I : List It
  D : List It
  A : List ByteArray
  now : Int
def quU (Q : Qu) : UD := .l 3 Q.I.length (itU Q.I) (.l 3 Q.D.length (itU Q.D) (.l 1 Q.A.length (stU Q.A) (.p (.int .i64 Q.now) .nil)))
def okI (x : It) : Prop := x.1.size ≤ maxLen ∧ inK .i64 x.2.1 ∧ inK .i64 x.2.2
def okIs (I : List It) : Prop := I.length ≤ 1048576 ∧ ∀ x ∈ I, okI x
def okSs (A : List ByteArray) : Prop := A.length ≤ 1048576 ∧ ∀ s ∈ A, s.size ≤ maxLen
def okQ (Q : Qu) : Prop := okIs Q.I ∧ okIs Q.D ∧ okSs Q.A ∧ inK .i64 Q.now
theorem itU_len : ∀ I : List It, (itU I).len = I.length * 3
  | [] => rfl
  | x :: r => by rw [itU, UD.len_p, UD.len_p, UD.len_p, itU_len r, List.length_cons]; omega
theorem stU_len : ∀ A : List ByteArray, (stU A).len = A.length * 1
  | [] => rfl
  | x :: r => by rw [stU, UD.len_p, stU_len r, List.length_cons]; omega
theorem itU_cnt : ∀ I : List It, cnt (itU I) = I.length * 3
  | [] => rfl
  | x :: r => by rw [itU, cnt, cnt, cnt, itU_cnt r, List.length_cons]; omega
theorem stU_cnt : ∀ A : List ByteArray, cnt (stU A) = A.length
  | [] => rfl
  | x :: r => by rw [stU, cnt, stU_cnt r, List.length_cons]; omega
theorem it_of : ∀ (n : Nat) (cs : UD) (i : Nat), i % 3 = 0 → cs.len = n * 3 → tyU cs (uE 12) i → ∃ I : List It, cs = itU I ∧ I.length = n ∧ ∀ x ∈ I, okI x
  | 0, cs, i, h0, hl, ht => by
    cases cs with
    | nil => exact ⟨[], rfl, rfl, fun x hx => by cases hx⟩
    | p v r => rw [UD.len_p] at hl; omega
    | l k n cs r => rw [UD.len_l] at hl; omega
  | n + 1, cs, i, h0, hl, ht => by
    cases cs with
    | nil => have : (UD.nil).len = 0 := rfl; omega
    | l k n cs r =>
      obtain ⟨⟨t, h1, _⟩, _⟩ := ht
      rw [show (uE 12).length = 3 from rfl, h0] at h1
      cases h1
    | p v r =>
      obtain ⟨⟨f, h1, h2⟩, h3⟩ := ht
      rw [show (uE 12).length = 3 from rfl, h0] at h1
      cases h1
      obtain ⟨s, rfl, hs⟩ := h2
      cases r with
      | nil => rw [UD.len_p] at hl; have : (UD.nil).len = 0 := rfl; omega
      | l k n cs r =>
        obtain ⟨⟨t, h1, _⟩, _⟩ := h3
        rw [show (uE 12).length = 3 from rfl, show (i + 1) % 3 = 1 by omega] at h1
        cases h1
      | p v r =>
        obtain ⟨⟨f, h1, h2⟩, h3⟩ := h3
        rw [show (uE 12).length = 3 from rfl, show (i + 1) % 3 = 1 by omega] at h1
        cases h1
        obtain ⟨y, rfl, hy⟩ := h2
        cases r with
        | nil => rw [UD.len_p, UD.len_p] at hl; have : (UD.nil).len = 0 := rfl; omega
        | l k n cs r =>
          obtain ⟨⟨t, h1, _⟩, _⟩ := h3
          rw [show (uE 12).length = 3 from rfl, show (i + 1 + 1) % 3 = 2 by omega] at h1
          cases h1
        | p v r =>
          obtain ⟨⟨f, h1, h2⟩, h3⟩ := h3
          rw [show (uE 12).length = 3 from rfl, show (i + 1 + 1) % 3 = 2 by omega] at h1
          cases h1
          obtain ⟨z, rfl, hz⟩ := h2
          rw [UD.len_p, UD.len_p, UD.len_p] at hl
          obtain ⟨I, rfl, g1, g2⟩ := it_of n r (i + 1 + 1 + 1) (by omega) (by omega) h3
          exact ⟨(s, y, z) :: I, rfl, by rw [List.length_cons, g1], fun x hx => by
            rcases List.mem_cons.1 hx with rfl | hx
            · exact ⟨hs, hy, hz⟩
            · exact g2 x hx⟩
theorem st_of : ∀ (n : Nat) (cs : UD) (i : Nat), cs.len = n → tyU cs (uE 0) i → ∃ A : List ByteArray, cs = stU A ∧ A.length = n ∧ ∀ s ∈ A, s.size ≤ maxLen
  | 0, cs, i, hl, ht => by
    cases cs with
    | nil => exact ⟨[], rfl, rfl, fun x hx => by cases hx⟩
    | p v r => rw [UD.len_p] at hl; omega
    | l k n cs r => rw [UD.len_l] at hl; omega
  | n + 1, cs, i, hl, ht => by
    cases cs with
    | nil => have : (UD.nil).len = 0 := rfl; omega
    | l k n cs r =>
      obtain ⟨⟨t, h1, _⟩, _⟩ := ht
      rw [show (uE 0).length = 1 from rfl, Nat.mod_one] at h1
      cases h1
    | p v r =>
      obtain ⟨⟨f, h1, h2⟩, h3⟩ := ht
      rw [show (uE 0).length = 1 from rfl, Nat.mod_one] at h1
      cases h1
      obtain ⟨s, rfl, hs⟩ := h2
      rw [UD.len_p] at hl
      obtain ⟨A, rfl, g1, g2⟩ := st_of n r (i + 1) (by omega) h3
      exact ⟨s :: A, rfl, by rw [List.length_cons, g1], fun x hx => by
        rcases List.mem_cons.1 hx with rfl | hx
        · exact hs
        · exact g2 x hx⟩
theorem tyU_it : ∀ (I : List It) (i : Nat), i % 3 = 0 → (∀ x ∈ I, okI x) → tyU (itU I) (uE 12) i
  | [], i, h, _ => trivial
  | x :: r, i, h, hk => by
    obtain ⟨h1, h2, h3⟩ := hk x (.head _)
    refine ⟨⟨.s, ?_, _, rfl, h1⟩, ⟨.i .i64, ?_, _, rfl, h2⟩, ⟨.i .i64, ?_, _, rfl, h3⟩, tyU_it r _ (by omega) (fun y hy => hk y (.tail _ hy))⟩
    · rw [show (uE 12).length = 3 from rfl, h]; rfl
    · rw [show (uE 12).length = 3 from rfl, show (i + 1) % 3 = 1 by omega]; rfl
    · rw [show (uE 12).length = 3 from rfl, show (i + 1 + 1) % 3 = 2 by omega]; rfl
theorem tyU_st : ∀ (A : List ByteArray) (i : Nat), (∀ s ∈ A, s.size ≤ maxLen) → tyU (stU A) (uE 0) i
  | [], i, _ => trivial
  | x :: r, i, hk => ⟨⟨.s, by rw [show (uE 0).length = 1 from rfl, Nat.mod_one]; rfl, _, rfl, hk x (.head _)⟩, tyU_st r _ (fun y hy => hk y (.tail _ hy))⟩
theorem maxLen_ge : 1048576 + 10 ≤ maxLen := by unfold maxLen; omega
theorem tyS_it {I : List It} (h : okIs I) : tyS 3 I.length (itU I) 12 := ⟨by decide, rfl, by have := h.1; have := maxLen_ge; omega, itU_len I, tyU_it I 0 rfl h.2⟩
theorem tyS_st {A : List ByteArray} (h : okSs A) : tyS 1 A.length (stU A) 0 := ⟨by decide, rfl, by have := h.1; have := maxLen_ge; omega, stU_len A, tyU_st A 0 h.2⟩
theorem tyL_qu {Q : Qu} (h : okQ Q) : tyL (quU Q) (uE 13) := ⟨12, _, rfl, tyS_it h.1, 12, _, rfl, tyS_it h.2.1, 0, _, rfl, tyS_st h.2.2.1, .i .i64, [], rfl, ⟨_, rfl, h.2.2.2⟩, rfl⟩
theorem cnt_qu {Q : Qu} (h : okQ Q) : cnt (quU Q) ≤ 50000000 := by
  have h1 := h.1.1; have h2 := h.2.1.1; have h3 := h.2.2.1.1
  unfold quU
  simp only [cnt, itU_cnt, stU_cnt]
  omega
/-- a queue's data out of its cells -/
theorem qu_of {d : UD} (ht : tyL d (uE 13)) (hw : wt d ≤ 1048576) : ∃ Q : Qu, d = quU Q ∧ okQ Q := by
  obtain ⟨n0, c0, n1, c1, n2, c2, z, rfl, h0, h1, h2, h3⟩ := partsQueue ht
  obtain ⟨I, rfl, l0, g0⟩ := it_of n0 c0 0 rfl h0.2.2.2.1 h0.2.2.2.2
  obtain ⟨D, rfl, l1, g1⟩ := it_of n1 c1 0 rfl h1.2.2.2.1 h1.2.2.2.2
  obtain ⟨A, rfl, l2, g2⟩ := st_of n2 c2 0 (by have := h2.2.2.2.1; omega) h2.2.2.2.2
  subst l0 l1 l2
  simp only [wt] at hw
  exact ⟨⟨I, D, A, z⟩, rfl, ⟨by show I.length ≤ _; omega, g0⟩, ⟨by show D.length ≤ _; omega, g1⟩, ⟨by show A.length ≤ _; omega, g2⟩, h3⟩
theorem uM_it {w : World} {lo hi b : Nat} : ∀ (I : List It) (o : Nat), uM w lo hi (itU I) b o → ∀ q r j v, (I.map encI)[q]? = some r → r[j]? = some v → w.cell? ⟨b, o + q * 3 + j, none⟩ = some v
  | [], o, h, q, r, j, v, hq, hj => by simp at hq
  | x :: I, o, h, 0, r, j, v, hq, hj => by
    cases hq
    obtain ⟨h1, h2, h3, _⟩ := h
    match j, hj with
    | 0, hj => cases hj; rw [← h1]; congr 2
    | 1, hj => cases hj; rw [← h2]; first | done | congr 2
    | 2, hj => cases hj; rw [← h3]; first | done | congr 2
    | j + 3, hj => simp [encI] at hj
  | x :: I, o, h, q + 1, r, j, v, hq, hj => by
    obtain ⟨h1, h2, h3, h4⟩ := h
    have := uM_it I _ h4 q r j v (by simpa using hq) hj
    rw [← this]; congr 2; rw [Nat.succ_mul]; omega
theorem uM_st {w : World} {lo hi b : Nat} : ∀ (A : List ByteArray) (o : Nat), uM w lo hi (stU A) b o → ∀ q r j v, (A.map encS)[q]? = some r → r[j]? = some v → w.cell? ⟨b, o + q * 1 + j, none⟩ = some v
  | [], o, h, q, r, j, v, hq, hj => by simp at hq
  | x :: A, o, h, 0, r, j, v, hq, hj => by
    cases hq
    obtain ⟨h1, _⟩ := h
    match j, hj with
    | 0, hj => cases hj; rw [← h1]; congr 2
    | j + 1, hj => simp [encS] at hj
  | x :: A, o, h, q + 1, r, j, v, hq, hj => by
    obtain ⟨h1, h4⟩ := h
    have := uM_st A _ h4 q r j v (by simpa using hq) hj
    rw [← this]; congr 2; rw [Nat.succ_mul]; omega
theorem uS.it {w : World} {lo hi : Nat} {I : List It} {c : Value} (h : uS w lo hi 3 I.length (itU I) c) : rdR w 3 c (I.map encI) := by
  obtain ⟨a, cap, rfl, ⟨h1, h2, _, _⟩, h3⟩ := h
  refine ⟨a, cap, by rw [List.length_map], by rw [List.length_map]; exact h1, h2, fun hp => ?_⟩
  rw [List.length_map] at hp
  obtain ⟨b, o, rfl, _, _, hm⟩ := h3 hp
  exact ⟨b, o, rfl, uM_it I o hm⟩
theorem uS.st {w : World} {lo hi : Nat} {A : List ByteArray} {c : Value} (h : uS w lo hi 1 A.length (stU A) c) : rdR w 1 c (A.map encS) := by
  obtain ⟨a, cap, rfl, ⟨h1, h2, _, _⟩, h3⟩ := h
  refine ⟨a, cap, by rw [List.length_map], by rw [List.length_map]; exact h1, h2, fun hp => ?_⟩
  rw [List.length_map] at hp
  obtain ⟨b, o, rfl, _, _, hm⟩ := h3 hp
  exact ⟨b, o, rfl, uM_st A o hm⟩
/-- a queue that can be read -/
def rdQ (w : World) (Q : Qu) (xs : List Value) : Prop := ∃ cI cD cA, xs = [cI, cD, cA, .int .i64 Q.now] ∧ rdR w 3 cI (Q.I.map encI) ∧ rdR w 3 cD (Q.D.map encI) ∧ rdR w 1 cA (Q.A.map encS)
theorem rdQ.below {w w' : World} {Q : Qu} {xs : List Value} (h : rdQ w Q xs) (hb : Below w.heap.size w w') : rdQ w' Q xs := by
  obtain ⟨cI, cD, cA, e, h1, h2, h3⟩ := h
  exact ⟨cI, cD, cA, e, h1.below hb, h2.below hb, h3.below hb⟩
theorem uH.qu {w : World} {lo hi : Nat} {Q : Qu} {xs : List Value} (h : uH w lo hi (quU Q) xs) : rdQ w Q xs := by
  obtain ⟨cI, _, rfl, h1, cD, _, rfl, h2, cA, _, rfl, h3, _, rfl, rfl⟩ := h
  exact ⟨cI, cD, cA, rfl, h1.it, h2.it, h3.st⟩
theorem oH_it {w : World} : ∀ I : List It, oH w (itU I) (I.map encI).flatten []
  | [] => ⟨rfl, rfl⟩
  | x :: I => ⟨_, rfl, _, rfl, _, rfl, oH_it I⟩
theorem oH_st {w : World} : ∀ A : List ByteArray, oH w (stU A) (A.map encS).flatten []
  | [] => ⟨rfl, rfl⟩
  | x :: I => ⟨_, rfl, oH_st I⟩
/-- a queue in memory of one's own -/
structure QO (w : World) (base : Nat) (tI tS : TypeId) (Q : Qu) (vI vD vA : Value) : Prop where
  i : ownR w base tI 3 vI (Q.I.map encI)
  d : ownR w base tI 3 vD (Q.D.map encI)
  a : ownR w base tS 1 vA (Q.A.map encS)
  id : ∀ g ∈ blkOf vI, g ∉ blkOf vD
  ia : ∀ g ∈ blkOf vI, g ∉ blkOf vA
  da : ∀ g ∈ blkOf vD, g ∉ blkOf vA
theorem blk_nodup (v : Value) : (blkOf v).Nodup := by unfold blkOf; cases v.ownBlock with | none => exact List.nodup_nil | some g => simp
theorem QO.own {w : World} {base : Nat} {tI tS : TypeId} {Q : Qu} {vI vD vA : Value} (h : QO w base tI tS Q vI vD vA) : ∃ S, oH w (quU Q) [vI, vD, vA, .int .i64 Q.now] S ∧ own2 S base w.heap.size := by
  have up : ∀ {e : TypeId} {k : Nat} {v : Value} {R : List (List Value)}, ownR w base e k v R → ownR w 0 e k v R := fun h => h.mono (Nat.zero_le _)
  have l1 : ∀ (I : List It) {v : Value}, ownR w base tI 3 v (I.map encI) → w.ownsRow 0 tI 3 v I.length (I.map encI).flatten := fun I v h => by have := (up h).2; rw [List.length_map] at this; exact this
  have l2 : w.ownsRow 0 tS 1 vA Q.A.length (Q.A.map encS).flatten := by have := (up h.a).2; rw [List.length_map] at this; exact this
  refine ⟨(blkOf vI ++ []) ++ ((blkOf vD ++ []) ++ ((blkOf vA ++ []) ++ [])), ⟨vI, _, [], _, rfl, rfl, by decide, ⟨tI, _, l1 _ h.i, oH_it _⟩, vD, _, [], _, rfl, rfl, by decide, ⟨tI, _, l1 _ h.d, oH_it _⟩, vA, _, [], _, rfl, rfl, by decide, ⟨tS, _, l2, oH_st _⟩, _, rfl, rfl, rfl⟩, ?_, fun s hs => ?_⟩
  · simp only [List.append_nil]
    refine List.nodup_append.2 ⟨blk_nodup _, List.nodup_append.2 ⟨blk_nodup _, blk_nodup _, fun a ha b hb e => h.da a ha (e ▸ hb)⟩, fun a ha b hb e => ?_⟩
    subst e
    rcases List.mem_append.1 hb with hb | hb
    · exact h.id a ha hb
    · exact h.ia a ha hb
  · simp only [List.append_nil, List.mem_append] at hs
    rcases hs with hs | hs | hs
    · exact h.i.lt s hs
    · exact h.d.lt s hs
    · exact h.a.lt s hs
theorem QO.rd {w : World} {base : Nat} {tI tS : TypeId} {Q : Qu} {vI vD vA : Value} (h : QO w base tI tS Q vI vD vA) : rdQ w Q [vI, vD, vA, .int .i64 Q.now] := ⟨_, _, _, rfl, h.i.rd (by decide), h.d.rd (by decide), h.a.rd (by decide)⟩
theorem QO.below {w w' : World} {base : Nat} {tI tS : TypeId} {Q : Qu} {vI vD vA : Value} (h : QO w base tI tS Q vI vD vA) (hb : Below w.heap.size w w') : QO w' base tI tS Q vI vD vA := ⟨h.i.below hb, h.d.below hb, h.a.below hb, h.id, h.ia, h.da⟩
theorem QO.outS {w w' : World} {base : Nat} {tI tS : TypeId} {Q : Qu} {vI vD vA : Value} {T : List Nat} (h : QO w base tI tS Q vI vD vA) (ho : OutS T w w') (hT : ∀ t ∈ T, t < base) : QO w' base tI tS Q vI vD vA := by
  have key : ∀ g, base ≤ g → g < w.heap.size → w'.heap[g]? = w.heap[g]? := fun g h1 h2 => ho.block g h2 (fun hg => by have := hT g hg; omega)
  exact ⟨h.i.frame (fun g hg => key g (h.i.lt g hg).1 (h.i.lt g hg).2), h.d.frame (fun g hg => key g (h.d.lt g hg).1 (h.d.lt g hg).2), h.a.frame (fun g hg => key g (h.a.lt g hg).1 (h.a.lt g hg).2), h.id, h.ia, h.da⟩
theorem QO.mono {w : World} {base base' : Nat} {tI tS : TypeId} {Q : Qu} {vI vD vA : Value} (h : QO w base tI tS Q vI vD vA) (hb : base' ≤ base) : QO w base' tI tS Q vI vD vA := ⟨h.i.mono hb, h.d.mono hb, h.a.mono hb, h.id, h.ia, h.da⟩
end Go.Proofs.Ytpmhmcekkppbhaa
