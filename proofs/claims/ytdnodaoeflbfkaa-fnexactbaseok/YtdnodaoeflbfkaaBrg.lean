/- Values as cells and values as trees: the one out of the other; both ValueOk on cells. -/
import Derived.Test.YtdnodaoeflbfkaaUTValue
import Derived.Test.YtdnodaoeflbfkaaValO
import Derived.Test.YtdnodaoeflbfkaaStrL
import Derived.Deep.Slices
namespace Go.Proofs.Ytdnodaoeflbfkaa
open Go.RowKit Go.BigFrame
set_option linter.unusedVariables false

theorem strB_of {w : World} {lo hi n : Nat} {c : UD} {a : Option Addr} {cap : Nat} (ht : tyS 1 n c 0) (h : uS w lo hi 1 n c (.slice a n cap)) : strB w 0 a (strL c) ∧ fits a (strL c).length cap ∧ (strL c).length = n := by
  obtain ⟨h1, h2⟩ := strL_get c 0 ht.2.2.2.2
  have hl : (strL c).length = n := by rw [h1, ht.2.2.2.1, Nat.mul_one]
  have h' := h
  obtain ⟨a', cap', e, g1, g2⟩ := h'
  cases e
  refine ⟨fun hp => ?_, by rw [hl]; exact ⟨g1.1, g1.2.1⟩, hl⟩
  obtain ⟨b, off, rfl, -, hm⟩ := h.cells (by omega)
  refine ⟨b, off, rfl, Nat.zero_le _, fun i hi => ?_⟩
  obtain ⟨c', q1, q2⟩ := hm.get i _ (h2 i hi).1
  rw [q1, show c' = _ from q2]
/-- a value as cells and the same one as a tree -/
def Br : (N : Nat) → UD → VT N → Prop
  | 0, _, _ => False
  | N + 1, d, v => ∃ (z0 : Int) (z1 : ByteArray) (z2 : Int) (n3 : Nat) (c3 : UD) (n4 : Nat) (c4 : UD), d = .p (.int .i64 z0) (.p (.string z1) (.p (.int .i64 z2) (.l 1 n3 c3 (.l 5 n4 c4 .nil)))) ∧ v.hd = ⟨z0, z1, z2, strL c3⟩ ∧ v.kids.length = n4 ∧
    ∀ i (h : i < v.kids.length), Br N (rowU c4 5 i) v.kids[i]
theorem bridge : ∀ (N : Nat) (d : UD), uszD d < N → tyL d (uE 6) → ∃ v : VT N, okVT N v ∧ Br N d v ∧ ∀ (w : World) (lo hi : Nat) (xs : List Value), uH w lo hi d xs → valArg w 0 N (.agg xs.toArray) v := by
  intro N
  induction N with
  | zero => intro d h; omega
  | succ N ih =>
    intro d hN ht
    obtain ⟨z0, z1, z2, n3, c3, n4, c4, rfl, g0, g1, g2, g3, g4⟩ := partsValue ht
    simp only [uszD] at hN
    have each : ∀ i, i < n4 → ∃ q : VT N, okVT N q ∧ Br N (rowU c4 5 i) q ∧ ∀ (w : World) (lo hi : Nat) (xs : List Value), uH w lo hi (rowU c4 5 i) xs → valArg w 0 N (.agg xs.toArray) q := fun i hi =>
      ih (rowU c4 5 i) (by have := uszD_row c4 5 i; omega) (g4.row hi)
    obtain ⟨ss, hs1, hs2, hs3⟩ : ∃ ss : List ByteArray, ss = strL c3 ∧ ss.length = n3 ∧ okStrs ss := by
      obtain ⟨h1, h2⟩ := strL_get c3 0 g3.2.2.2.2
      refine ⟨_, rfl, by rw [h1, g3.2.2.2.1, Nat.mul_one], fun s hs => ?_⟩
      obtain ⟨j, hj, rfl⟩ := List.mem_iff_getElem.1 hs
      exact (h2 j hj).2
    have mk : ∀ (kids : List (VT N)) (hkl : kids.length = n4) (hq : ∀ i (h : i < kids.length), okVT N kids[i] ∧ Br N (rowU c4 5 i) kids[i] ∧ ∀ (w : World) (lo hi : Nat) (xs : List Value), uH w lo hi (rowU c4 5 i) xs → valArg w 0 N (.agg xs.toArray) kids[i]),
        ∃ v : VT (N + 1), okVT (N + 1) v ∧ Br (N + 1) (.p (.int .i64 z0) (.p (.string z1) (.p (.int .i64 z2) (.l 1 n3 c3 (.l 5 n4 c4 .nil))))) v ∧ ∀ (w : World) (lo hi : Nat) (xs : List Value), uH w lo hi (.p (.int .i64 z0) (.p (.string z1) (.p (.int .i64 z2) (.l 1 n3 c3 (.l 5 n4 c4 .nil))))) xs → valArg w 0 (N + 1) (.agg xs.toArray) v := by
      intro kids hkl hq
      refine ⟨VT.mk ⟨z0, z1, z2, ss⟩ kids, ⟨g1, by rw [VT.hd_mk, hs2]; exact g3.2.2.1, hs3, by rw [VT.kids_mk, hkl]; exact g4.2.2.1, fun x hx => ?_⟩, ⟨z0, z1, z2, n3, c3, n4, c4, rfl, by rw [hs1]; rfl, hkl, fun i h => (hq i h).2.1⟩, fun w lo hi xs h => ?_⟩
      · obtain ⟨j, hj, rfl⟩ := List.mem_iff_getElem.1 (show x ∈ kids from hx)
        exact (hq j hj).1
      · obtain ⟨_, rfl, ⟨_, rfl, ⟨_, rfl, ⟨v3, _, rfl, s3, ⟨v4, _, rfl, s4, rfl⟩⟩⟩⟩⟩ := h
        obtain ⟨a3, p3, rfl, t3⟩ := s3
        obtain ⟨a4, p4, rfl, t4⟩ := s4
        have H3 : uS w lo hi 1 n3 c3 (.slice a3 n3 p3) := ⟨_, _, rfl, t3⟩
        have H4 : uS w lo hi 5 n4 c4 (.slice a4 n4 p4) := ⟨_, _, rfl, t4⟩
        obtain ⟨q1, q2, q3⟩ := strB_of g3 H3
        rw [← hs1] at q1 q2
        refine ⟨a3, p3, a4, p4, by rw [VT.hd_mk, VT.kids_mk, hs2, hkl], ⟨q1, by rw [VT.hd_mk]; exact q2⟩, fun hp => ?_, by rw [VT.kids_mk, hkl]; exact ⟨t4.1.1, t4.1.2.1⟩⟩
        rw [VT.kids_mk] at hp
        obtain ⟨b, off, rfl, -, hm⟩ := H4.cells (by omega)
        refine ⟨b, off, rfl, Nat.zero_le _, fun i hi => ?_⟩
        have hi' : i < kids.length := hi
        obtain ⟨ys, hh, hc⟩ := (hm.row 5 i).hand
        have hv := (hq i hi').2.2 w lo _ ys hh
        have ht5 := g4.row (show i < n4 by omega)
        obtain ⟨y0, y1, y2, m3, e3, m4, e4, hR, -, -, -, -, -⟩ := partsValue ht5
        rw [hR] at hh
        obtain ⟨_, rfl, ⟨_, rfl, ⟨_, rfl, ⟨v3, _, rfl, s3, ⟨v4, _, rfl, s4, rfl⟩⟩⟩⟩⟩ := hh
        show vatAt w 0 N b (off + i * 5) kids[i]
        cases N with
        | zero => exact hv.elim
        | succ N =>
          obtain ⟨a1, c1, a2, c2, e, k1, k2, k3⟩ := hv
          have e' : ([.int .i64 y0, .string y1, .int .i64 y2, v3, v4] : List Value) = [.int .i64 kids[i].hd.kd, .string kids[i].hd.tx, .int .i64 kids[i].hd.nm, .slice a1 kids[i].hd.ks.length c1, .slice a2 kids[i].kids.length c2] := by
            have := Value.agg.inj e
            simpa using this
          simp only [List.cons.injEq, and_true] at e'
          obtain ⟨e0, e1, e2, e3, e4⟩ := e'
          exact ⟨(hc 0 _ rfl).trans (by rw [e0]), (hc 1 _ rfl).trans (by rw [e1]), (hc 2 _ rfl).trans (by rw [e2]), ⟨a1, c1, (hc 3 _ rfl).trans (by rw [e3]), k1⟩, a2, c2, (hc 4 _ rfl).trans (by rw [e4]), k2, k3⟩
    rcases Nat.eq_zero_or_pos n4 with h0 | hp
    · exact mk [] (by simpa using h0.symm) (fun i h => by cases h)
    · obtain ⟨q0, _⟩ := each 0 hp
      have : Inhabited (VT N) := ⟨q0⟩
      obtain ⟨q, hq⟩ := Go.Deep.choose_lt each
      exact mk ((List.range n4).map q) (by simp) (fun i h => by
        have hi : i < n4 := by simpa using h
        simpa using hq i hi)
/-- right values, as cells -/
def rgtU : Nat → UD → Prop
  | 0, _ => False
  | N + 1, d => ∃ (z0 : Int) (z1 : ByteArray) (z2 : Int) (n3 : Nat) (c3 : UD) (n4 : Nat) (c4 : UD), d = .p (.int .i64 z0) (.p (.string z1) (.p (.int .i64 z2) (.l 1 n3 c3 (.l 5 n4 c4 .nil)))) ∧ hdB z0 z1 z2 (strL c3) n4 = true ∧ ∀ i, i < n4 → rgtU N (rowU c4 5 i)
theorem addL_each {α : Type} {f : α → Nat} : ∀ (l : List α) (n : Nat), addL f l n ≠ 0 → ∀ x ∈ l, f x ≠ 0
  | [], n, _, x, hx => by cases hx
  | y :: r, n, h, x, hx => by
    unfold addL at h
    split at h
    · exact absurd rfl h
    · rename_i hy
      rcases List.mem_cons.1 hx with rfl | hx
      · exact hy
      · exact addL_each r _ h x hx
theorem rgt_br : ∀ (N dp : Nat) (d : UD) (v : VT N), Br N d v → tsz N dp v ≠ 0 → rgtU N d
  | 0, _, _, _, h, _ => h.elim
  | N + 1, 0, _, _, _, h => absurd rfl h
  | N + 1, dp + 1, d, v, ⟨z0, z1, z2, n3, c3, n4, c4, e, hh, hk, hr⟩, h => by
    rw [tsz_pos, hh, hk] at h
    split at h
    · rename_i hb
      refine ⟨z0, z1, z2, n3, c3, n4, c4, e, hb, fun i hi => ?_⟩
      exact rgt_br N dp _ _ (hr i (by omega)) (addL_each _ _ h _ (List.getElem_mem _))
    · exact absurd rfl h
theorem vok_both (d : UD) (ht : tyL d (uE 6)) : ∃ b : Bool, (b = true → ∃ N, rgtU N d) ∧
    (∀ (w : World) (lo hi : Nat) (xs : List Value), uH w lo hi d xs → Calls Try.prog 163 #[.agg xs.toArray] w fun e w' => e = .returned (.bool b) ∧ Below w.heap.size w w') ∧
    (∀ (w : World) (lo hi : Nat) (xs : List Value), uH w lo hi d xs → Calls Try.prog 214 #[.agg xs.toArray] w fun e w' => e = .returned (.bool b) ∧ Below w.heap.size w w') := by
  obtain ⟨v, h1, h2, h3⟩ := bridge (uszD d + 1) d (by omega) ht
  refine ⟨vokB _ v, fun hb => ⟨_, rgt_br _ 6 d v h2 ?_⟩, fun w lo hi xs h => sValueOk_any v _ w h1 (h3 w lo hi xs h), fun w lo hi xs h => iValueOk_any v _ w h1 (h3 w lo hi xs h)⟩
  unfold vokB sizB upTo at hb
  rw [decide_eq_true_eq] at hb
  split at hb <;> omega
end Go.Proofs.Ytdnodaoeflbfkaa
