/- Comparing values row by row: the rows that are left, the row at hand, in memory of one's own. -/
import Derived.Test.YtamlgjmboljcdaaGreatPMap
import Derived.Test.YtamlgjmboljcdaaGreatStrL
import Derived.Test.YtamlgjmboljcdaaGreatU3
import Derived.Laws.OwnMore
namespace Go.Proofs.YtamlgjmboljcdaaGreat
open Go.RowKit
set_option linter.unusedVariables false

/-- a list cut short -/
theorem owns_short {w : World} {B : Nat} {e : TypeId} {k g n cap m : Nat} {xs : List Value} (h : w.ownsRow B e k (.slice (some ⟨g, 0, none⟩) n cap) n xs) (hm : m ≤ n) : w.ownsRow B e k (.slice (some ⟨g, 0, none⟩) m cap) m (xs.take (m * k)) := by
  obtain ⟨h1, h2⟩ := h
  have hle : m * k ≤ n * k := Nat.mul_le_mul_right k hm
  refine ⟨by rw [List.length_take, h1]; omega, ?_⟩
  rcases h2 with ⟨h, _⟩ | ⟨g', cap', cur, h, hb, hh, hc, hx, hs, ht⟩
  · cases h
  · cases h
    refine .inr ⟨g, cap, cur, rfl, hb, hh, by omega, hx, hs, ?_⟩
    rw [← ht, List.take_take, Nat.min_eq_left hle]
theorem oS.opened {w : World} {k n : Nat} {cs : UD} {c : Value} {S : List Nat} (h : oS w k n cs c S) (hn : 0 < n) : ∃ g S' cap e zs, S = g :: S' ∧ c = .slice (some ⟨g, 0, none⟩) n cap ∧ w.ownsRow 0 e k (.slice (some ⟨g, 0, none⟩) n cap) n zs ∧ oH w cs zs S' ∧ openBlk w g ∧ 0 < k := by
  obtain ⟨hk, e, zs, S1, h1, h2, rfl⟩ := h
  have h1' := h1
  rcases h1.2 with ⟨_, h⟩ | ⟨g, cap, cur, rfl, _, hh, _⟩
  · omega
  · exact ⟨g, S1, cap, e, zs, rfl, rfl, h1', h2, ⟨_, _, hh⟩, hk⟩
/-- a row at hand: its elements from the q-th on, all in blocks that are kept -/
structure Cur (w : World) (G : Nat → Prop) (n : Nat) (da : UD) (g cap q : Nat) (S : List Nat) : Prop where
  own : ∃ e zs, w.ownsRow 0 e 5 (.slice (some ⟨g, 0, none⟩) n cap) n zs ∧ oH w (da.dropN (q * 5)) (zs.drop (q * 5)) S
  blk : openBlk w g
  good : G g
  all : ∀ t ∈ S, G t
theorem Cur.frame {w w' : World} {G : Nat → Prop} {n : Nat} {da : UD} {g cap q : Nat} {S : List Nat} (h : Cur w G n da g cap q S) (hk : ∀ b, G b → w'.heap[b]? = w.heap[b]?) : Cur w' G n da g cap q S := by
  obtain ⟨⟨e, zs, h1, h2⟩, ⟨cs, t, h3⟩, h4, h5⟩ := h
  exact ⟨⟨e, zs, uowns_frame h1 (fun x hx => hk x (by simp [blkOf, Value.ownBlock] at hx; rw [hx]; exact h4)), h2.frame _ _ _ (fun x hx => hk x (h5 x hx))⟩, ⟨cs, t, (hk g h4).trans h3⟩, h4, h5⟩
theorem Cur.start {w : World} {G : Nat → Prop} {n : Nat} {da : UD} {c : Value} {S : List Nat} (h : oS w 5 n da c S) (hn : 0 < n) (hG : ∀ t ∈ S, G t) : ∃ g cap S', c = .slice (some ⟨g, 0, none⟩) n cap ∧ S = g :: S' ∧ Cur w G n da g cap 0 S' := by
  obtain ⟨g, S', cap, e, zs, rfl, rfl, h1, h2, h3, _⟩ := h.opened hn
  exact ⟨g, cap, S', rfl, rfl, ⟨⟨e, zs, h1, by rw [Nat.zero_mul, UD.dropN_zero, List.drop_zero]; exact h2⟩, h3, hG g (by simp), fun t ht => hG t (by simp [ht])⟩⟩
/-- a value's cells in memory of one's own, its two lists apart -/
theorem oH.value {w : World} {z0 : Int} {z1 : ByteArray} {z2 : Int} {n3 : Nat} {c3 : UD} {n4 : Nat} {c4 : UD} {xs : List Value} {S : List Nat} (h : oH w (.p (.int .i64 z0) (.p (.string z1) (.p (.int .i64 z2) (.l 1 n3 c3 (.l 5 n4 c4 .nil))))) xs S) :
    ∃ a3 p3 a4 p4 S3 S4, xs = [.int .i64 z0, .string z1, .int .i64 z2, .slice a3 n3 p3, .slice a4 n4 p4] ∧ S = S3 ++ S4 ∧ oS w 1 n3 c3 (.slice a3 n3 p3) S3 ∧ oS w 5 n4 c4 (.slice a4 n4 p4) S4 := by
  obtain ⟨_, rfl, ⟨_, rfl, ⟨_, rfl, ⟨v3, _, S3, R3, rfl, rfl, k3, ⟨e3, y3, o3, m3⟩, ⟨v4, _, S4, R4, rfl, rfl, k4, ⟨e4, y4, o4, m4⟩, ⟨rfl, rfl⟩⟩⟩⟩⟩⟩ := h
  obtain ⟨a3, p3, rfl⟩ := uowns_slice o3
  obtain ⟨a4, p4, rfl⟩ := uowns_slice o4
  exact ⟨a3, p3, a4, p4, _, _, rfl, by rw [List.append_nil], ⟨k3, e3, y3, S3, o3, m3, rfl⟩, ⟨k4, e4, y4, S4, o4, m4, rfl⟩⟩
theorem Cur.step {w : World} {G : Nat → Prop} {n : Nat} {da : UD} {g cap q : Nat} {S : List Nat} (h : Cur w G n da g cap q S) (ht : tyS 5 n da 6) (hq : q < n) :
    ∃ (z0 : Int) (z1 : ByteArray) (z2 : Int) (n3 : Nat) (c3 : UD) (n4 : Nat) (c4 : UD) (a3 : Option Addr) (p3 : Nat) (a4 : Option Addr) (p4 : Nat) (S3 S4 Sb : List Nat),
      rowU da 5 q = .p (.int .i64 z0) (.p (.string z1) (.p (.int .i64 z2) (.l 1 n3 c3 (.l 5 n4 c4 .nil)))) ∧ tyS 1 n3 c3 0 ∧ tyS 5 n4 c4 6 ∧ S = (S3 ++ S4) ++ Sb ∧ oS w 1 n3 c3 (.slice a3 n3 p3) S3 ∧ oS w 5 n4 c4 (.slice a4 n4 p4) S4 ∧
      w.cell? ⟨g, q * 5, none⟩ = some (.int .i64 z0) ∧ w.cell? ⟨g, q * 5 + 1, none⟩ = some (.string z1) ∧ w.cell? ⟨g, q * 5 + 2, none⟩ = some (.int .i64 z2) ∧ w.cell? ⟨g, q * 5 + 3, none⟩ = some (.slice a3 n3 p3) ∧ w.cell? ⟨g, q * 5 + 4, none⟩ = some (.slice a4 n4 p4) ∧ z1.size ≤ maxLen ∧ Cur w G n da g cap (q + 1) Sb := by
  obtain ⟨⟨e, zs, h1, h2⟩, h3, h4, h5⟩ := h
  obtain ⟨z0, z1, z2, n3, c3, n4, c4, hR, g0, g1, g2, g3, g4⟩ := partsValue (ht.row hq)
  rw [UD.drop_row, hR] at h2
  obtain ⟨xs, ys, Sa, Sb, e1, rfl, h6, h7⟩ := oH.split h2
  obtain ⟨a3, p3, a4, p4, S3, S4, rfl, rfl, o3, o4⟩ := oH.value h6
  have hc : ∀ j v, [Value.int .i64 z0, .string z1, .int .i64 z2, .slice a3 n3 p3, .slice a4 n4 p4][j]? = some v → w.cell? ⟨g, q * 5 + j, none⟩ = some v := fun j v hj => by
    have hj5 : j < 5 := (List.getElem?_eq_some_iff.1 hj).1
    rw [h1.cellAt (q * 5 + j) (by omega), ← List.getElem?_drop, e1, List.getElem?_append_left (by simpa using hj5)]
    exact hj
  refine ⟨z0, z1, z2, n3, c3, n4, c4, a3, p3, a4, p4, S3, S4, Sb, hR, g3, g4, rfl, o3, o4, hc 0 _ rfl, hc 1 _ rfl, hc 2 _ rfl, hc 3 _ rfl, hc 4 _ rfl, g1, ⟨⟨e, zs, h1, ?_⟩, h3, h4, fun t ht => h5 t (by simp [ht])⟩⟩
  have e2 : zs.drop ((q + 1) * 5) = ys := by
    rw [Nat.succ_mul, ← List.drop_drop, e1, List.drop_append_of_le_length (by simp)]
    simp
  rw [e2]; exact h7
/-- the rows that are left, the last one first -/
def Pend (w : World) (G : Nat → Prop) : List (Nat × UD × UD) → List Value → List Nat → Prop
  | [], xs, S => xs = [] ∧ S = []
  | r :: L, xs, S => ∃ ca cb ys S1 T S2, xs = ys ++ [ca, cb] ∧ S = S1 ++ S2 ∧ 0 < r.1 ∧ tyS 5 r.1 r.2.1 6 ∧ tyS 5 r.1 r.2.2 6 ∧ oS w 5 r.1 r.2.1 ca S1 ∧ oS w 5 r.1 r.2.2 cb T ∧ (∀ t ∈ S1, G t) ∧ (∀ t ∈ T, G t) ∧ Pend w G L ys S2
theorem Pend.frame {w w' : World} {G : Nat → Prop} (hk : ∀ b, G b → w'.heap[b]? = w.heap[b]?) : ∀ {L : List (Nat × UD × UD)} {xs : List Value} {S : List Nat}, Pend w G L xs S → Pend w' G L xs S
  | [], _, _, h => h
  | r :: L, _, _, ⟨ca, cb, ys, S1, T, S2, h1, h2, h3, h4, h5, h6, h7, h8, h9, h10⟩ => ⟨ca, cb, ys, S1, T, S2, h1, h2, h3, h4, h5, h6.frame (fun g hg => hk g (h8 g hg)), h7.frame (fun g hg => hk g (h9 g hg)), h8, h9, Pend.frame hk h10⟩
theorem Pend.len {w : World} {G : Nat → Prop} : ∀ {L : List (Nat × UD × UD)} {xs : List Value} {S : List Nat}, Pend w G L xs S → xs.length = L.length * 2
  | [], _, _, h => by rw [h.1]; rfl
  | r :: L, _, _, ⟨ca, cb, ys, S1, T, S2, h1, _, _, _, _, _, _, _, _, h10⟩ => by rw [h1, List.length_append, Pend.len h10]; simp only [List.length_cons, List.length_nil]; omega
theorem Pend.good {w : World} {G : Nat → Prop} : ∀ {L : List (Nat × UD × UD)} {xs : List Value} {S : List Nat}, Pend w G L xs S → ∀ t ∈ S, G t
  | [], _, _, h, t, ht => by rw [h.2] at ht; cases ht
  | r :: L, _, _, ⟨ca, cb, ys, S1, T, S2, h1, h2, _, _, _, _, _, h8, _, h10⟩, t, ht => by
    subst h2
    rcases List.mem_append.1 ht with ht | ht
    · exact h8 t ht
    · exact Pend.good h10 t ht
def allEq (L : List (Nat × UD × UD)) : Prop := ∀ r ∈ L, r.2.1 = r.2.2
theorem allEq.cons (n : Nat) (a b : UD) (L : List (Nat × UD × UD)) : allEq ((n, a, b) :: L) ↔ a = b ∧ allEq L := by
  unfold allEq
  simp
def mWt (L : List (Nat × UD × UD)) : Nat := (L.map fun r => uszD r.2.1).sum
theorem mWt_cons (r : Nat × UD × UD) (L : List (Nat × UD × UD)) : mWt (r :: L) = uszD r.2.1 + mWt L := by simp [mWt]
theorem uszD_len : ∀ d : UD, d.len ≤ uszD d
  | .nil => Nat.le_refl _
  | .p v r => by have := uszD_len r; rw [UD.len_p, uszD]; omega
  | .l k n cs r => by have := uszD_len r; rw [UD.len_l, uszD]; omega
theorem Pend.count {w : World} {G : Nat → Prop} : ∀ {L : List (Nat × UD × UD)} {xs : List Value} {S : List Nat}, Pend w G L xs S → L.length ≤ mWt L
  | [], _, _, _ => Nat.le_refl _
  | r :: L, _, _, ⟨ca, cb, ys, S1, T, S2, h1, h2, h3, h4, _, _, _, _, _, h10⟩ => by
    have := Pend.count h10
    have e := uszD_len r.2.1
    rw [h4.2.2.2.1] at e
    rw [mWt_cons, List.length_cons]; omega
theorem mWt_row (da : UD) (q : Nat) : uszD (da.dropN (q * 5)) = uszD (rowU da 5 q) + uszD (da.dropN ((q + 1) * 5)) := by rw [← uszD_app, ← UD.drop_row]
theorem uszD_val (z0 z2 : Int) (z1 : ByteArray) (n3 n4 : Nat) (c3 c4 : UD) : uszD (.p (.int .i64 z0) (.p (.string z1) (.p (.int .i64 z2) (.l 1 n3 c3 (.l 5 n4 c4 .nil))))) = uszD c3 + uszD c4 + 5 := by simp only [uszD]; omega
/-- the rows of two slices from the q-th on are alike -/
def tailEq (n q : Nat) (a b : UD) : Prop := ∀ i, q ≤ i → i < n → rowU a 5 i = rowU b 5 i
theorem tailEq_zero {n : Nat} {a b : UD} (ha : tyS 5 n a 6) (hb : tyS 5 n b 6) : tailEq n 0 a b ↔ a = b :=
  ⟨fun h => ha.ext hb (fun i hi => h i (Nat.zero_le _) hi), fun h => by subst h; exact fun _ _ _ => rfl⟩
theorem tailEq_step {n q : Nat} {a b : UD} (hq : q < n) : tailEq n q a b ↔ rowU a 5 q = rowU b 5 q ∧ tailEq n (q + 1) a b := by
  refine ⟨fun h => ⟨h q (Nat.le_refl _) hq, fun i h1 h2 => h i (by omega) h2⟩, fun ⟨h0, h⟩ i h1 h2 => ?_⟩
  rcases Nat.eq_or_lt_of_le h1 with rfl | h1
  · exact h0
  · exact h i h1 h2
theorem tailEq_end {n : Nat} {a b : UD} : tailEq n n a b ↔ True := ⟨fun _ => trivial, fun _ i h1 h2 => by omega⟩
theorem val_eq {z0 z2 y0 y2 : Int} {z1 y1 : ByteArray} {n3 n4 m3 m4 : Nat} {c3 c4 e3 e4 : UD} :
    UD.p (.int .i64 z0) (.p (.string z1) (.p (.int .i64 z2) (.l 1 n3 c3 (.l 5 n4 c4 .nil)))) = .p (.int .i64 y0) (.p (.string y1) (.p (.int .i64 y2) (.l 1 m3 e3 (.l 5 m4 e4 .nil)))) ↔ z0 = y0 ∧ z1 = y1 ∧ z2 = y2 ∧ (n3 = m3 ∧ c3 = e3) ∧ n4 = m4 ∧ c4 = e4 := by
  simp only [UD.p.injEq, UD.l.injEq, Value.int.injEq, Value.string.injEq, true_and, and_true]
  constructor
  · rintro ⟨h0, h1, h2, h3, h4, h5, h6⟩; exact ⟨h0, h1, h2, ⟨h3, h4⟩, h5, h6⟩
  · rintro ⟨h0, h1, h2, ⟨h3, h4⟩, h5, h6⟩; exact ⟨h0, h1, h2, h3, h4, h5, h6⟩
end Go.Proofs.YtamlgjmboljcdaaGreat
