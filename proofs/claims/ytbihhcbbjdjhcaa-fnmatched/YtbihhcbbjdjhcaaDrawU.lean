import Derived.Test.YtbihhcbbjdjhcaaOut
import Derived.Test.YtbihhcbbjdjhcaaDrawT
namespace Go.Proofs.Ytbihhcbbjdjhcaa
open Go.RowKit Go.BigFrame
set_option linter.unusedVariables false
/-! terms that are drawn, in a row -/
def OTD (w : World) (lo g cap : Nat) (xs : List Value) (V : Nat → Value) (ts : List TD) : Prop :=
  w.ownsRow lo 33 3 (.slice (some ⟨g, 0, none⟩) ts.length cap) ts.length xs ∧ (∀ j (hj : j < ts.length), termOwn w lo xs V g j ts[j]) ∧ apart V ts.length
theorem OTD.own {w : World} {lo g cap : Nat} {xs : List Value} {V : Nat → Value} {ts : List TD} (h : OTD w lo g cap xs V ts) : ownTs w lo g cap ts := ⟨xs, V, h⟩
theorem owns_grownD {w w' : World} {B n : Nat} {u : Value} {e : TypeId} {size : Nat} {xs : List Value} {row : Option Nat} (h : w.ownsRow B e size u n xs) (hg : w.grownBy w' row) (hne : ∀ b, u.ownBlock = some b → row ≠ some b) : w'.ownsRow B e size u n xs := by
  obtain ⟨h1, h2⟩ := h
  refine ⟨h1, ?_⟩
  rcases h2 with h | ⟨g, cap, cur, h, hb, hh, r⟩
  · exact .inl h
  · refine .inr ⟨g, cap, cur, h, hb, ?_, r⟩
    rw [hg.block g (Array.getElem?_eq_some_iff.1 hh).1 (fun e => hne g (by rw [h]; rfl) e.symm)]
    exact hh
theorem OTD_push {wr w2 w3 : World} {lo g cap g' cap' : Nat} {xs : List Value} {V : Nat → Value} {ts : List TD} {t : TD} {v : Value} {o : Obj} {d : Nat} (h : OTD wr lo g cap xs V ts) (hb : Out d (d + 1) wr w2) (hd : d < lo)
    (hv : w2.ownsRow wr.heap.size 9 1 v t.2.2.length (strVs t.2.2)) (hlo : lo ≤ wr.heap.size)
    (hown : w3.ownsRow lo 33 3 (.slice (some ⟨g', 0, none⟩) (ts.length + 1) cap') (ts.length + 1) (xs ++ [.int .i64 t.1, .string t.2.1, v]))
    (hg : (w2.alloc o).grownBy w3 (some g)) (hat : some g = some g' ∨ g' = (w2.alloc o).heap.size) :
    OTD w3 lo g' cap' (xs ++ [.int .i64 t.1, .string t.2.1, v]) (fun j => if j = ts.length then v else V j) (ts ++ [t]) := by
  obtain ⟨h1, h2, h3⟩ := h
  have hgl : lo ≤ g ∧ g < wr.heap.size := owns_blk h1 rfl
  have hsz := hb.size
  have hxl : xs.length = ts.length * 3 := h1.1
  have hg' : g' = g ∨ g' = w2.heap.size + 1 := by
    rcases hat with e | e
    · left; cases e; rfl
    · right; rw [e]; simp
  have hvb : ∀ b, v.ownBlock = some b → wr.heap.size ≤ b ∧ b < w2.heap.size := fun b e => owns_blk hv e
  have hVb : ∀ j, j < ts.length → ∀ b, (V j).ownBlock = some b → lo ≤ b ∧ b < wr.heap.size := fun j hj b e => owns_blk (h2 j hj).2.2.2.1 e
  refine ⟨by rw [List.length_append]; exact hown, fun j hj => ?_, ?_⟩
  · rw [List.length_append, List.length_singleton] at hj
    by_cases e : j = ts.length
    · subst e
      have et : (ts ++ [t])[ts.length]'(by simp) = t := by simp
      rw [et]
      refine ⟨?_, ?_, ?_, ?_, ?_⟩
      · rw [List.getElem?_append_right (by omega), show ts.length * 3 - xs.length = 0 from by omega]; rfl
      · rw [List.getElem?_append_right (by omega), show ts.length * 3 + 1 - xs.length = 1 from by omega]; rfl
      · rw [List.getElem?_append_right (by omega), show ts.length * 3 + 2 - xs.length = 2 from by omega]; simp
      · simp only [if_true]
        exact owns_mono (owns_grownD (hv.alloc o) hg (fun b hb' e' => by cases e'; have := hvb _ hb'; omega)) hlo
      · simp only [if_true]
        intro e'
        have := hvb _ e'
        omega
    · obtain ⟨a0, a1, a2, a3, a4⟩ := h2 j (by omega)
      have et : (ts ++ [t])[j]'(by simp; omega) = ts[j]'(by omega) := List.getElem_append_left (by omega)
      rw [et]
      refine ⟨?_, ?_, ?_, ?_, ?_⟩
      · rw [List.getElem?_append_left (by omega)]; exact a0
      · rw [List.getElem?_append_left (by omega)]; exact a1
      · rw [List.getElem?_append_left (by omega)]; simp only [e, if_false]; exact a2
      · simp only [e, if_false]
        exact owns_grownD ((owns_out a3 hb (fun b hb'' => .inr (by have := (owns_blk a3 hb'').1; omega))).alloc o) hg (fun b hb' e' => by cases e'; exact a4 hb')
      · simp only [e, if_false]
        intro e'
        have := hVb j (by omega) _ e'
        rcases hg' with e2 | e2
        · rw [e2] at e'; exact a4 e'
        · omega
  · rw [List.length_append, List.length_singleton]
    intro i j hi hj hij b h4 h5
    by_cases ei : i = ts.length
    · have ej : j ≠ ts.length := by omega
      simp only [ei, if_true] at h4
      simp only [ej, if_false] at h5
      have := hvb b h4
      have := hVb j (by omega) b h5
      omega
    · simp only [ei, if_false] at h4
      by_cases ej : j = ts.length
      · simp only [ej, if_true] at h5
        have := hvb b h5
        have := hVb i (by omega) b h4
        omega
      · simp only [ej, if_false] at h5
        exact h3 i j (by omega) (by omega) hij b h4 h5
theorem OTD.out {w w' : World} {lo g cap d : Nat} {xs : List Value} {V : Nat → Value} {ts : List TD} (h : OTD w lo g cap xs V ts) (hb : Out d (d + 1) w w') (hd : d < lo) : OTD w' lo g cap xs V ts := by
  obtain ⟨h1, h2, h3⟩ := h
  refine ⟨owns_out h1 hb (fun b e => .inr (by have := (owns_blk h1 e).1; omega)), fun j hj => ?_, h3⟩
  obtain ⟨a0, a1, a2, a3, a4⟩ := h2 j hj
  exact ⟨a0, a1, a2, owns_out a3 hb (fun b e => .inr (by have := (owns_blk a3 e).1; omega)), a4⟩
theorem cell_three_new (w : World) (a b c : Value) (t : TypeId) : ∀ j u, [a, b, c][j]? = some u → (w.alloc (.cells #[a, b, c] t)).cell? ((⟨w.heap.size, 0, none⟩ : Addr).add j) = some u := by
  intro j u h
  match j with
  | 0 => simp at h; subst h; simp [Addr.add, go_sem]
  | 1 => simp at h; subst h; simp [Addr.add, go_sem]
  | 2 => simp at h; subst h; simp [Addr.add, go_sem]
  | j + 3 => simp at h
def goodTs (ts : List TD) : Prop := ∀ t ∈ ts, goodT t.1 t.2.1 t.2.2
def drawnTs (k : Nat) (w : World) (d n cap : Nat) (a : Option Addr) (e : Ending) (w' : World) : Prop := ∃ (ts : List TD) (g c : Nat), e = .returned (.slice (some ⟨g, 0, none⟩) ts.length c) ∧ Hid (ts.length ≤ k ∧ goodTs ts) ∧
  Hid (ownTs w' w.heap.size g c ts) ∧ Hid (CurIn w' d a n cap) ∧ Hid (Out d (d + 1) w w')
set_option maxRecDepth 100000 in
set_option maxHeartbeats 1600000 in
theorem l2Draw_any (d n cap m : Nat) (a : Option Addr) (w : World) (hn : n ≤ 1048576) (hm0 : 0 < m) (hm : m ≤ 9) (hc : CurIn w d a n cap) :
    Calls Try.prog 11 #[.pointer (some ⟨d, 0, none⟩), .int .i64 m] w (drawnTs 8 w d n cap a) := by
  obtain ⟨i0, hi, hz0, hz1, hz2⟩ := info_parts Try.infoTerm
  have Hc : Hid (CurIn (w.alloc (.cells #[] 33)) d a n cap) := hc.later ((Below.refl _ _).alloc (Nat.le_refl _) _)
  have Hd := hide hc.lt
  have Hall := hide hc.lt_all'
  clear hc
  go_enter Try.func11, Try.ntmps11
  go_wp2_with fail
  refine (l1Below_any d n cap m a _ hn (by omega) Hc.out).mono ?_
  rintro e w1 ⟨q, hq, rfl, hc1, ho1⟩
  have hq8 : q ≤ 8 := by have := hq hm0; omega
  clear hq
  have O1 : Hid (Out d (d + 1) w w1) := (Out.of_below ((Below.refl _ _).alloc (Nat.le_refl _) _)).trans ho1
  have W00 : OTD (w.alloc (.cells #[] 33)) w.heap.size w.heap.size 0 [] (fun _ => .slice none 0 0) [] := by
    refine ⟨World.ownsRow_lit w #[] 0 (Nat.le_refl _) (by decide) rfl, ?_, ?_⟩
    · intro j hj; exact absurd hj (by simp)
    · intro i j hi; exact absurd hi (by simp)
  have W0 : Hid (OTD w1 w.heap.size w.heap.size 0 [] (fun _ => .slice none 0 0) []) := OTD.out W00 ho1 Hd.out
  clear W00
  clear ho1 Hc
  go_wp2_with fail
  go_loopw [5, 6] (fun v i wr => ∃ (ts : List TD) (g c k : Nat) (xs : List Value) (V : Nat → Value), v = .slice (some ⟨g, 0, none⟩) ts.length c ∧ i = .int .i64 k ∧ Hid (ts.length + k ≤ 8 ∧ goodTs ts) ∧
      Hid (OTD wr w.heap.size g c xs V ts) ∧ Hid (CurIn wr d a n cap) ∧ Hid (Out d (d + 1) w wr)) (fun _ i _ => (intOf i).toNat)
  case atStart => exact ⟨[], _, _, q, [], _, rfl, rfl, ⟨by simpa using hq8, fun p hp => by cases hp⟩, W0, hc1, O1⟩
  case round =>
    clear W0 O1 hc1 hq8
    obtain ⟨ts, g, c, k, xs, V, rfl, rfl, Hs, Hw, Hc, Ho⟩ := hrel
    by_cases hk : 0 < k
    · have hk' : (0 : Int) < (k : Int) := by omega
      have hk8 : k ≤ 8 := by have := Hs.out.1; omega
      have hl8 : ts.length ≤ 8 := by have := Hs.out.1; omega
      have Hk : Hid (0 < k ∧ k ≤ 8) := ⟨hk, hk8⟩
      go_wp2_with fail
      refine (l2DrawTerm_any d n cap a _ hn Hc.out).mono ?_
      rintro e w2 ⟨kd, K, vs, v, rfl, Hg, Hv, Hc2, Ho2⟩
      obtain ⟨av, cv, rfl, _, _, _⟩ := strOf_own Hv.out rfl
      have Hw2 := hide (Hw.out.out Ho2.out Hd.out)
      have O2 := hide (Ho.out.trans Ho2.out)
      have Hsz := hide (show w.heap.size ≤ w2.heap.size from O2.out.size)
      have Hwz := hide (show w.heap.size ≤ wr.heap.size from Ho.out.size)
      clear Ho Hc
      go_wp2_with (at_builtin; refine wpList_append_lies _ rfl _ _ 24 rfl w.heap.size 33 i0 _ 3 48 Try.underlying24 hi hz0 hz1 hz2 rfl (by decide) _ _ _ rfl (Hw2.out.1.alloc _) ⟨w2.heap.size, 0, none⟩ 1 1 [.int .i64 kd, .string K, .slice av vs.length cv] rfl rfl (cell_three_new _ _ _ _ _) (fun x hx => by simp at hx; rcases hx with rfl | rfl | rfl <;> rfl) (by decide) (by unfold maxLen; omega) (by omega) (by have := Hsz.out; simp; omega) _ rfl ?_; intro g5 c5 w5 hown5 hgrow5 hat5 hlt5)
      have P5 := OTD_push (t := (kd, K, vs)) Hw.out Ho2.out Hd.out Hv.out Hwz.out hown5 hgrow5 hat5
      have al : Below w2.heap.size w2 (w2.alloc (.cells #[.int .i64 kd, .string K, .slice av vs.length cv] 33)) := (Below.refl _ _).alloc (Nat.le_refl _) _
      have hgb : ∀ b, (Value.slice (some ⟨g, 0, none⟩) ts.length c).ownBlock = some b → w.heap.size ≤ b := fun b hb => (owns_blk Hw.out.1 hb).1
      have O5 := hide (Out.grown (O2.out.trans (Out.of_below al)) hgrow5 hgb)
      have C5 := hide (CurIn.grown (B := w.heap.size) (Hc2.out.later al) hgrow5 hgb Hd.out Hall.out)
      have hln : ts.length + 1 = (ts ++ [(kd, K, vs)]).length := by rw [List.length_append, List.length_singleton]
      have S5 : Hid ((ts ++ [(kd, K, vs)]).length + (k - 1) ≤ 8 ∧ goodTs (ts ++ [(kd, K, vs)])) := ⟨by rw [← hln]; have := Hs.out.1; omega, fun t ht => by
        rcases List.mem_append.1 ht with h | h
        · exact Hs.out.2 t h
        · rw [List.mem_singleton.1 h]; exact Hg.out⟩
      rw [hln]
      have HP5 := hide P5
      clear P5 hown5 hgrow5 hat5 hlt5 al hgb hln Hw Hw2 O2 Ho2 Hc2 Hv Hg Hs Hsz Hwz hl8
      go_wp2
      go_roundw
      case rel => exact ⟨ts ++ [(kd, K, vs)], g5, c5, k - 1, _, _, rfl, by go_num, S5, HP5, C5, O5⟩
      case measure => have := Hk.out; simp [intOf]; omega
    · have hk' : ¬ (0 : Int) < (k : Int) := by omega
      go_wp2
      go_ret
      exact ⟨ts, g, c, rfl, ⟨by have := Hs.out.1; omega, Hs.out.2⟩, Hw.out.own, Hc, Ho⟩
end Go.Proofs.Ytbihhcbbjdjhcaa
