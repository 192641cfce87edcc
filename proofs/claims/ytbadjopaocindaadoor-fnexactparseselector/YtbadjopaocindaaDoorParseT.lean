/- spec.ParseSelector and impl.ParseSelector. -/
import Derived.Test.YtbadjopaocindaaDoorReadI
import Derived.Test.YtbadjopaocindaaDoorTerm2
import Derived.Test.YtbadjopaocindaaDoorSelTxS
import Derived.Deep.AppendLies
namespace Go.Proofs.YtbadjopaocindaaDoor
open Go.RowKit Go.BigFrame
set_option linter.unusedVariables false

def OT (w : World) (lo g cap : Nat) (xs : List Value) (V : Nat → Value) (ts : List TD) : Prop :=
  w.ownsRow lo 54 3 (.slice (some ⟨g, 0, none⟩) ts.length cap) ts.length xs ∧ (∀ j (hj : j < ts.length), termOwn w lo xs V g j ts[j]) ∧ apart V ts.length
theorem OT.own {w : World} {lo g cap : Nat} {xs : List Value} {V : Nat → Value} {ts : List TD} (h : OT w lo g cap xs V ts) : ownTs w lo g cap ts := ⟨xs, V, h⟩
theorem owns_grown' {w w' : World} {B n : Nat} {u : Value} {e : TypeId} {size : Nat} {xs : List Value} {row : Option Nat} (h : w.ownsRow B e size u n xs) (hg : w.grownBy w' row) (hne : ∀ b, u.ownBlock = some b → row ≠ some b) : w'.ownsRow B e size u n xs := by
  obtain ⟨h1, h2⟩ := h
  refine ⟨h1, ?_⟩
  rcases h2 with h | ⟨g, cap, cur, h, hb, hh, r⟩
  · exact .inl h
  · refine .inr ⟨g, cap, cur, h, hb, ?_, r⟩
    rw [hg.block g (Array.getElem?_eq_some_iff.1 hh).1 (fun e => hne g (by rw [h]; rfl) e.symm)]
    exact hh
theorem OT_snoc {wr w2 w3 : World} {lo g cap g' cap' : Nat} {xs : List Value} {V : Nat → Value} {ts : List TD} {t : TD} {v : Value} {o : Obj} (h : OT wr lo g cap xs V ts) (hb : Below wr.heap.size wr w2)
    (hv : w2.ownsRow wr.heap.size 9 1 v t.2.2.length (strVs t.2.2)) (hlo : lo ≤ wr.heap.size)
    (hown : w3.ownsRow lo 54 3 (.slice (some ⟨g', 0, none⟩) (ts.length + 1) cap') (ts.length + 1) (xs ++ [.int .i64 t.1, .string t.2.1, v]))
    (hg : (w2.alloc o).grownBy w3 (some g)) (hat : some g = some g' ∨ g' = (w2.alloc o).heap.size) :
    OT w3 lo g' cap' (xs ++ [.int .i64 t.1, .string t.2.1, v]) (fun j => if j = ts.length then v else V j) (ts ++ [t]) := by
  obtain ⟨h1, h2, h3⟩ := h
  have hgl : lo ≤ g ∧ g < wr.heap.size := owns_blk h1 rfl
  have hsz := hb.size
  have hxl : xs.length = ts.length * 3 := h1.1
  have hg' : g' = g ∨ g' = w2.heap.size + 1 := by
    rcases hat with e | e
    · left; cases e; rfl
    · right; rw [e]; simp
  have hvb : ∀ b, v.ownBlock = some b → wr.heap.size ≤ b ∧ b < w2.heap.size := fun b e => owns_blk hv e
  have hVb : ∀ j, j < ts.length → ∀ b, (V j).ownBlock = some b → lo ≤ b ∧ b < wr.heap.size := fun j hj b e => owns_blk (h2 j hj).2.2.2.1 e
  refine ⟨by rw [List.length_append]; exact hown, fun j hj => ?_, ?_⟩
  · rw [List.length_append, List.length_singleton] at hj
    by_cases e : j = ts.length
    · subst e
      have et : (ts ++ [t])[ts.length]'(by simp) = t := by simp
      rw [et]
      refine ⟨?_, ?_, ?_, ?_, ?_⟩
      · rw [List.getElem?_append_right (by omega), show ts.length * 3 - xs.length = 0 from by omega]; rfl
      · rw [List.getElem?_append_right (by omega), show ts.length * 3 + 1 - xs.length = 1 from by omega]; rfl
      · rw [List.getElem?_append_right (by omega), show ts.length * 3 + 2 - xs.length = 2 from by omega]; simp
      · simp only [if_true]
        exact owns_mono (owns_grown' (hv.alloc o) hg (fun b hb' e' => by cases e'; have := hvb _ hb'; omega)) hlo
      · simp only [if_true]
        intro e'
        have := hvb _ e'
        omega
    · obtain ⟨a0, a1, a2, a3, a4⟩ := h2 j (by omega)
      have et : (ts ++ [t])[j]'(by simp; omega) = ts[j]'(by omega) := List.getElem_append_left (by omega)
      rw [et]
      refine ⟨?_, ?_, ?_, ?_, ?_⟩
      · rw [List.getElem?_append_left (by omega)]; exact a0
      · rw [List.getElem?_append_left (by omega)]; exact a1
      · rw [List.getElem?_append_left (by omega)]; simp only [e, if_false]; exact a2
      · simp only [e, if_false]
        exact owns_grown' ((owns_out a3 (Out.of_below (lo := 0) (hi := 0) hb) (fun _ _ => .inr (Nat.zero_le _))).alloc o) hg (fun b hb' e' => by cases e'; exact a4 hb')
      · simp only [e, if_false]
        intro e'
        have := hVb j (by omega) _ e'
        rcases hg' with e2 | e2
        · rw [e2] at e'; exact a4 e'
        · omega
  · rw [List.length_append, List.length_singleton]
    intro i j hi hj hij b h4 h5
    by_cases ei : i = ts.length
    · have ej : j ≠ ts.length := by omega
      simp only [ei, if_true] at h4
      simp only [ej, if_false] at h5
      have := hvb b h4
      have := hVb j (by omega) b h5
      omega
    · simp only [ei, if_false] at h4
      by_cases ej : j = ts.length
      · simp only [ej, if_true] at h5
        have := hvb b h5
        have := hVb i (by omega) b h4
        omega
      · simp only [ej, if_false] at h5
        exact h3 i j (by omega) (by omega) hij b h4 h5
theorem cell_three_at (w : World) (n : Nat) (h : w.heap.size = n) (a b c : Value) (t : TypeId) : ∀ j u, [a, b, c][j]? = some u → (w.alloc (.cells #[a, b, c] t)).cell? ((⟨n, 0, none⟩ : Addr).add j) = some u := by
  subst h
  intro j u hj
  match j, hj with
  | 0, hj => simp at hj; subst hj; simp [Addr.add]
  | 1, hj => simp at hj; subst hj; simp [Addr.add]
  | 2, hj => simp at hj; subst hj; simp [Addr.add]
  | j + 3, hj => simp at hj
theorem strV_get' {P : List (List UInt8)} {k : Nat} (h : k < P.length) : (strV P)[k]? = some (.string (ba P[k])) := by
  unfold strV; rw [List.getElem?_map, List.getElem?_eq_getElem h]; rfl
def selR (s : ByteArray) : List TD × Bool := if s.size = 0 then ([], true) else resT ((pcs 44 s.data.toList).map readS)
def parsePost (w : World) (R : List TD × Bool) (e : Ending) (w' : World) : Prop := ∃ g cap, e = .returned (.tuple #[.slice (some ⟨g, 0, none⟩) R.1.length cap, .bool R.2]) ∧ ownTs w' w.heap.size g cap R.1 ∧ Below w.heap.size w w'
theorem parsePost_mk {w w' : World} {ts : List TD} {q q' : Bool} {g n cap : Nat} (hn : n = ts.length) (hq : q = q') (h : ownTs w' w.heap.size g cap ts) (hb : Below w.heap.size w w') : parsePost w (ts, q') (.returned (.tuple #[.slice (some ⟨g, 0, none⟩) n cap, .bool q])) w' := by
  subst hn hq; exact ⟨g, cap, rfl, h, hb⟩
theorem ownTs_nil {w : World} {B g cap : Nat} (h : w.ownsRow B 54 3 (.slice (some ⟨g, 0, none⟩) 0 cap) 0 []) : ownTs w B g cap [] := ⟨[], fun _ => .nilIface, h, fun j hj => by simp at hj, fun i j hi => by simp at hi⟩
theorem ownTs_mono {w : World} {B B' g cap : Nat} {ts : List TD} (h : ownTs w B g cap ts) (hB : B' ≤ B) : ownTs w B' g cap ts := by
  obtain ⟨xs, V, h1, h2, h3⟩ := h
  exact ⟨xs, V, owns_mono h1 hB, fun j hj => by obtain ⟨a0, a1, a2, a3, a4⟩ := h2 j hj; exact ⟨a0, a1, a2, owns_mono a3 hB, a4⟩, h3⟩
theorem map_take_succ {α β : Type} (f : α → β) (P : List α) (k : Nat) (h : k < P.length) : (P.take (k + 1)).map f = (P.take k).map f ++ [f (P[k]'h)] := by
  rw [List.take_succ_eq_append_getElem h, List.map_append]; rfl

theorem pcs_mem_le' {c : UInt8} : ∀ (L : List UInt8) (p : List UInt8), p ∈ pcs c L → p.length ≤ L.length
  | [], p, h => by simp [pcs] at h; simp [h]
  | b :: L, p, h => by
    have ih := pcs_mem_le' (c := c) L
    unfold pcs at h
    split at h
    · rcases List.mem_cons.1 h with rfl | h
      · simp
      · have := ih p h; simp only [List.length_cons]; omega
    · split at h
      · rename_i e
        rw [e] at ih
        rcases List.mem_cons.1 h with rfl | h
        · have := ih _ (List.mem_cons_self); simp only [List.length_cons]; omega
        · have := ih p (List.mem_cons_of_mem _ h); simp only [List.length_cons]; omega
      · simp at h; simp [h]

theorem drop_len {p : List UInt8} (k : Nat) : (p.drop k).length ≤ p.length := by rw [List.length_drop]; omega
theorem okTerm_one {kd : Int} {a b : List UInt8} {n : Nat} (ha : a.length ≤ n) (hb : b.length ≤ n) (hn : n ≤ 1048576) : okTerm (kd, ba a, [ba b]) := by
  refine ⟨by show a.length ≤ _; unfold maxLen; omega, by unfold maxLen; simp, fun x hx => ?_⟩
  simp only [List.mem_singleton] at hx
  subst hx
  show b.length ≤ _
  unfold maxLen; omega
theorem okTerm_none {kd : Int} {a : List UInt8} {n : Nat} (ha : a.length ≤ n) (hn : n ≤ 1048576) : okTerm (kd, ba a, []) :=
  ⟨by show a.length ≤ _; unfold maxLen; omega, by unfold maxLen; simp, fun x hx => by simp at hx⟩
theorem okTerm_map {kd : Int} {a : List UInt8} {L : List (List UInt8)} {n : Nat} (ha : a.length ≤ n) (hn : n ≤ 1048576) (hL : L.length ≤ n + 1) (hm : ∀ p ∈ L, p.length ≤ n) : okTerm (kd, ba a, L.map ba) := by
  refine ⟨by show a.length ≤ _; unfold maxLen; omega, by show (L.map ba).length ≤ _; rw [List.length_map]; unfold maxLen; omega, fun x hx => ?_⟩
  obtain ⟨p, hp, rfl⟩ := List.mem_map.1 hx
  have := hm p hp
  show p.length ≤ _
  unfold maxLen; omega
theorem notIn_ok {p : List UInt8} (h : p.length ≤ 1048576) : okTerm (notIn p) := by
  unfold notIn
  split
  · exact okTerm_one (n := p.length) (List.length_take_le' _ _) (drop_len _) h
  split
  · exact okTerm_one (n := p.length) (List.length_take_le' _ _) (drop_len _) h
  split
  · exact okTerm_none (n := p.length) (by rw [List.length_tail]; omega) h
  · exact okTerm_none (n := p.length) (Nat.le_refl _) h
theorem readS_ok {p : List UInt8} (h : p.length ≤ 1048576) : okTerm (readS p) := by
  unfold readS
  split
  · have hr : (restOf p).dropLast.length ≤ p.length := by
      have := drop_len (p := p) (cutI p pIn + 5)
      rw [List.length_dropLast]; unfold restOf; omega
    exact okTerm_map (n := p.length) (List.length_take_le' _ _) h (by have := pcs_length_le (c := 32) (restOf p).dropLast; omega) (fun q hq => by have := pcs_mem_le' _ q hq; omega)
  · exact notIn_ok h
theorem readI_len {p : List UInt8} (h : p.length ≤ 1048576) : (readI p).2.2.length ≤ maxLen := by
  unfold readI
  split
  · split
    · show ((inI (restOf p)).map ba).length ≤ _
      rw [List.length_map]
      unfold inI
      have := Lib.splitB_length_le ⟨#[32]⟩ 0 (min 7 ((restOf p).dropLast.length + 1) - 1) (ba (restOf p).dropLast)
      have e : (Lib.splitB ⟨#[32]⟩ 0 (min 7 ((restOf p).dropLast.length + 1) - 1) (ba (restOf p).dropLast)) = _ := splitB_in (restOf p).dropLast
      rw [e, List.length_map] at this
      unfold maxLen; omega
    · exact Nat.zero_le _
  · exact (notIn_ok h).2.1
theorem resT_yes {ts : List TD} (h : selB ts = true) : resT ts = (ts, true) := by unfold resT; rw [h]; rfl
theorem resT_no {ts : List TD} (h : selB ts = false) : resT ts = ([], false) := by unfold resT; rw [h]; rfl

set_option maxRecDepth 1000000 in
set_option maxHeartbeats 1600000 in
theorem sparse_any (s : ByteArray) (w : World) (hs : s.size ≤ 1048576) : Calls Tryd.prog 16 #[.string s] w (parsePost w (selR s)) := by
  by_cases hz : s.size = 0
  · have he : s.toList.isEmpty = true := by rw [empty_iff, decide_eq_true hz]
    have Hn : Hid (selR s = ([], true)) := by show _ = _; unfold selR; rw [if_pos hz]
    clear hz
    generalize selR s = R at *
    go_enter Tryd.func16, Tryd.ntmps16
    go_wp2
    go_ret2
    rw [Hn.out]
    exact ⟨_, 0, rfl, ownTs_nil (World.ownsRow_lit w #[] 0 (Nat.le_refl _) (by decide) rfl), (Below.refl _ _).alloc (Nat.le_refl _) _⟩
  obtain ⟨i0, hi, hz0, hz1, hz2⟩ := info_parts Tryd.infoTerm
  have he : s.toList.isEmpty = false := by rw [empty_iff, decide_eq_false hz]
  have Hn : Hid (selR s = resT ((pcs 44 s.data.toList).map readS)) := by show _ = _; unfold selR; rw [if_neg hz]
  have hsp := fun wx => split_any s 44 44 rfl wx hs
  have hPl := pcs_length_le (c := 44) s.data.toList
  rw [show s.data.toList.length = s.size from by simp] at hPl
  have HPm : Hid (∀ p, p ∈ pcs 44 s.data.toList → p.length ≤ 1048576) := fun p hp => by have := pcs_mem_le' _ p hp; rw [show s.data.toList.length = s.size from by simp] at this; omega
  have Htx : Hid (jn 44 (((pcs 44 s.data.toList).map readS).map termTx) = s) := text_back s.data.toList
  generalize pcs 44 s.data.toList = P at *
  have Hsp := hide hsp
  generalize selR s = R at *
  clear hz hsp
  go_enter Tryd.func16, Tryd.ntmps16
  go_wp2_with fail
  refine (Hsp.out _).mono ?_
  rintro e w1 ⟨g1, cap1, rfl, ho1, hb1⟩
  have hg1 : (w.alloc (.cells #[] 54)).heap.size ≤ g1 ∧ g1 < w1.heap.size := owns_blk ho1 rfl
  have hg1' : w.heap.size + 1 ≤ g1 := by simpa using hg1.1
  have hg1s := hg1.2
  have Hb1 : Hid (Below w.heap.size w w1) := ((Below.refl _ _).alloc (by simp) _).trans (hb1.mono (by simp))
  have Hout : Hid (OT w1 w.heap.size w.heap.size 0 [] (fun _ => .nilIface) []) :=
    ⟨owns_below (World.ownsRow_lit (e := 54) (size := 3) w #[] 0 (Nat.le_refl w.heap.size) (by decide) rfl) hb1, fun j hj => by simp at hj, fun i j hi => by simp at hi⟩
  have Hp1 : Hid (∀ k (hk : k < P.length), w1.cell? ⟨g1, k, none⟩ = some (.string (ba P[k]))) := fun k hk => by rw [← strV_get' hk]; exact ho1.cellAt k (by omega)
  have hw1 : w.heap.size + 1 ≤ w1.heap.size := by omega
  clear ho1 hb1 hg1 Hsp
  go_wp2
  go_loopw [4, 6] (fun v i wr => ∃ (g cap k : Nat) (xs : List Value) (V : Nat → Value), k ≤ P.length ∧ i = .int .i64 k ∧ v = .slice (some ⟨g, 0, none⟩) k cap ∧ g ≠ g1 ∧ g1 < wr.heap.size ∧
      Hid (OT wr w.heap.size g cap xs V ((P.take k).map readS)) ∧ Hid (∀ k (hk : k < P.length), wr.cell? ⟨g1, k, none⟩ = some (.string (ba P[k]))) ∧ Hid (Below w.heap.size w wr)) (fun _ i _ => P.length - (intOf i).toNat)
  case atStart => exact ⟨_, _, 0, [], _, Nat.zero_le _, rfl, rfl, by omega, hg1s, Hout, Hp1, Hb1⟩
  case round =>
    clear Hb1 Hp1 Hout hg1s
    obtain ⟨g, cap, k, xs, V, hk, rfl, rfl, hgg, hg1s, Hot, Hp, Hbw⟩ := hrel
    have hlen : Hid (((P.take k).map readS).length = k) := by show _ = _; rw [List.length_map, List.length_take]; omega
    by_cases hlt : k < P.length
    · have c0 := Hp.out k hlt
      have hpl := HPm.out _ (List.getElem_mem hlt)
      have Hsucc := hide (map_take_succ readS P k hlt)
      have hrd := sread_any (ba (P[k]'hlt)) wr hpl
      rw [show (ba (P[k]'hlt)).data.toList = P[k]'hlt from rfl] at hrd
      have Hrd := hide hrd
      clear hpl hrd
      generalize P[k]'hlt = p at *
      generalize readS p = t at *
      go_wp2_with fail
      refine Hrd.out.mono ?_
      rintro e w2 ⟨v, rfl, hv2, hb2⟩
      obtain ⟨va, vc, rfl, -⟩ := strOf_own hv2 rfl
      have hbase := Hbw.out.size
      have hsz2 := hb2.size
      have hbw2 := Hbw.out.trans (hb2.mono Hbw.out.size)
      have hrow := Hot.out.1
      rw [hlen.out] at hrow
      have How2 := hide (owns_below hrow hb2)
      have Hv2 := hide hv2
      have Hb2 := hide hb2
      have Hp2 : Hid (∀ k (hk : k < P.length), w2.cell? ⟨g1, k, none⟩ = some (.string (ba P[k]))) := fun k hk => (hb2.cell (p := ⟨g1, k, none⟩) hg1s).trans (Hp.out k hk)
      clear hrow hv2 hb2 Hp Hrd
      obtain ⟨kd, ky, vs⟩ := t
      simp only at Hv2 ⊢
      go_wp2_with (at_builtin; refine wpList_append_lies _ rfl _ _ 24 rfl w.heap.size 54 i0 _ 3 48 Tryd.underlying24 hi hz0 hz1 hz2 rfl (by decide) _ _ _ rfl (How2.out.alloc _) ⟨w2.heap.size, 0, none⟩ 1 1 [.int .i64 kd, .string ky, .slice va vs.length vc] rfl rfl (cell_three_at _ _ rfl _ _ _ _) (fun x hx => by simp at hx; rcases hx with rfl | rfl | rfl <;> rfl) (by decide) (by unfold maxLen; omega) (by omega) (by simp; omega) _ rfl ?_; intro g' cap' w3 hown' hgrow3 hat3 hlt3)
      have Hot3 : Hid (OT w3 w.heap.size g' cap' (xs ++ [.int .i64 kd, .string ky, .slice va vs.length vc]) (fun j => if j = ((P.take k).map readS).length then .slice va vs.length vc else V j) ((P.take (k + 1)).map readS)) := by
        show OT _ _ _ _ _ _ _
        rw [Hsucc.out]
        exact OT_snoc (t := (kd, ky, vs)) Hot.out Hb2.out Hv2.out hbase (by rw [hlen.out]; exact hown') hgrow3 hat3
      have Hp3 : Hid (∀ k (hk : k < P.length), w3.cell? ⟨g1, k, none⟩ = some (.string (ba P[k]))) := fun k hk => by
        have e1 : (w2.alloc (.cells #[.int .i64 kd, .string ky, .slice va vs.length vc] 54)).cell? ⟨g1, k, none⟩ = some (.string (ba P[k])) := by rw [World.cell?_alloc_past _ _ _ (by omega)]; exact Hp2.out k hk
        rw [hgrow3.cell_far ⟨g1, k, none⟩ (by simp; omega) (fun e => hgg (by cases e; rfl))]
        exact e1
      have hne3 : g' ≠ g1 := by
        rcases hat3 with h | h
        · cases h; exact hgg
        · rw [h]; simp; omega
      have hsz3 := hgrow3.size
      have hg13 : g1 < w3.heap.size := by simp at hsz3; omega
      have Hb3 : Hid (Below w.heap.size w w3) := Below.grown (hbw2.alloc hbw2.size _) hgrow3 (by simp; omega) (fun j hj => by cases hj; exact (owns_blk How2.out rfl).1)
      clear hown' hgrow3 hat3 hsz3 Hot Hp2 Hbw Hv2 Hb2 How2
      go_roundw
      case rel => exact ⟨g', cap', k + 1, _, _, by omega, by go_num, by go_num, hne3, hg13, Hot3, Hp3, Hb3⟩
      case measure => simp [intOf]; omega
    · have e : k = P.length := by omega
      subst e
      have hot := Hot.out
      rw [List.take_length] at hot
      have Hots := hide hot
      have hml : (P.map readS).length = P.length := List.length_map ..
      have hok : okTerms (P.map readS) := fun t ht => by
        obtain ⟨p, hp, rfl⟩ := List.mem_map.1 ht
        exact readS_ok (HPm.out p hp)
      have hA := sselOk_any (some ⟨g, 0, none⟩) cap (P.map readS) wr (by rw [hml]; unfold maxLen; omega) hok hot.own.row
      have hB := fun wx hx => sselText_any (some ⟨g, 0, none⟩) cap (P.map readS) wx (by rw [hml]; unfold maxLen; omega) hok hx
      have Ho := hide hot.own
      clear Hot Hp hot hok
      cases h1 : selB (P.map readS)
      · rw [h1, hml] at hA
        have HA := hide hA
        have HR : Hid (R = ([], false)) := by show _ = _; rw [Hn.out, resT_no h1]
        clear hA hB h1 Hots Hn Htx Ho
        go_wp2_with fail
        refine HA.out.mono ?_
        rintro e w4 ⟨rfl, hb4⟩
        have hbw4 := Hbw.out.trans (hb4.mono Hbw.out.size)
        clear hb4
        go_wp2
        go_ret2
        rw [HR.out]
        exact ⟨_, 0, rfl, ownTs_mono (ownTs_nil (World.ownsRow_lit w4 #[] 0 (Nat.le_refl _) (by decide) rfl)) hbw4.size, hbw4.alloc hbw4.size _⟩
      · rw [h1, hml] at hA
        have HA := hide hA
        have HR : Hid (R = (P.map readS, true)) := by show _ = _; rw [Hn.out, resT_yes h1]
        have hB2 : ∀ wx, termsOf wx (some ⟨g, 0, none⟩) (P.map readS) → Calls Tryd.prog 47 #[.slice (some ⟨g, 0, none⟩) P.length cap] wx fun e w' => e = .returned (.string s) ∧ Below wx.heap.size wx w' := fun wx hx => by
          have h := hB wx hx
          have e : selTx (P.map readS) = s := by unfold selTx; rw [h1, if_pos rfl]; exact Htx.out
          rw [e, hml] at h
          exact h
        have HB := hide hB2
        have hse : (s.toList == s.toList) = true := by simp
        clear hA hB hB2 h1 Hots Hn Htx
        go_wp2_with fail
        refine HA.out.mono ?_
        rintro e w4 ⟨rfl, hb4⟩
        have hbw4 := Hbw.out.trans (hb4.mono Hbw.out.size)
        have Ho4 := hide (Ho.out.below hb4)
        clear hb4 Ho
        go_wp2_with fail
        refine (HB.out _ Ho4.out.row).mono ?_
        rintro e w5 ⟨rfl, hb5⟩
        have hbw5 := hbw4.trans (hb5.mono hbw4.size)
        have Ho5 := hide (Ho4.out.below hb5)
        have Hml := hide hml
        clear hb5 Ho4 hml
        go_wp2
        go_ret2
        rw [HR.out]
        exact parsePost_mk Hml.out.symm rfl Ho5.out hbw5

def pieces (s : ByteArray) : List (List UInt8) := Lib.splitK [44] 0 (min 9 (s.size + 1) - 1) s.data.toList
theorem splitB_44 (s : ByteArray) : Lib.splitB ⟨#[44]⟩ 0 (min 9 (s.size + 1) - 1) s = (pieces s).map ba := map_ba' (Lib.splitB_data _ _ _ _)
theorem selR_pieces {s : ByteArray} (h : ¬ s.size = 0) : selR s = resT ((pieces s).map readI) := by
  unfold selR pieces
  rw [if_neg h, ← readersT, show s.data.toList.length = s.size from by simp]
theorem splitK_mem_le' {c : UInt8} : ∀ (k : Nat) (L p : List UInt8), p ∈ Lib.splitK [c] 0 k L → p.length ≤ L.length
  | 0, L, p, h => by simp [Lib.splitK] at h; rw [h]; exact Nat.le_refl _
  | k + 1, L, p, h => by
    rcases cut_first c L with g | ⟨l, r, rfl, g⟩
    · rw [Lib.splitK, index_none L g] at h
      simp at h
      rw [h]; exact Nat.le_refl _
    · rw [splitK_some l r k g] at h
      rcases List.mem_cons.1 h with rfl | h
      · simp
      · have := splitK_mem_le' k r p h; simp; omega
theorem split9_any (s : ByteArray) (m : Int) (wx : World) (hs : s.size ≤ 1048576) (hm : wx.cell? ⟨0, 0, none⟩ = some (.int .i64 m)) :
    Calls Tryd.prog 39 #[.string s, .string ⟨#[44]⟩, .int .i64 9] wx fun e w' => ∃ g cp, e = .returned (.slice (some ⟨g, 0, none⟩) (pieces s).length cp) ∧ w'.ownsRow wx.heap.size 9 1 (.slice (some ⟨g, 0, none⟩) (pieces s).length cp) (pieces s).length (strV (pieces s)) ∧ Below wx.heap.size wx w' := by
  have h := Tryd.strings_SplitN s ⟨#[44]⟩ 9 m wx (by omega) hm (by decide) (by decide) (by decide)
  have hle := Lib.splitB_length_le ⟨#[44]⟩ 0 (min 9 (s.size + 1) - 1) s
  rw [splitB_44] at h hle
  refine h.mono fun e w' g => ?_
  obtain ⟨rfl, rfl⟩ := g
  have ho := own_cells (w := wx) (B := wx.heap.size) (N := min 9 (s.size + 1)) (xs := (pieces s).map ba) (by omega) (by unfold maxLen; omega) (Nat.le_refl _)
  rw [strVs_ba, List.length_map] at ho
  exact ⟨_, _, by rw [List.length_map], ho, (Below.refl _ _).alloc (Nat.le_refl _) _⟩

set_option maxRecDepth 1000000 in
set_option maxHeartbeats 1600000 in
theorem iparse_any (s : ByteArray) (m : Int) (w : World) (hs : s.size ≤ 1048576) (hm : w.cell? ⟨0, 0, none⟩ = some (.int .i64 m)) : Calls Tryd.prog 13 #[.string s] w (parsePost w (selR s)) := by
  by_cases hz : s.size = 0
  · have he : s.toList.isEmpty = true := by rw [empty_iff, decide_eq_true hz]
    have Hn : Hid (selR s = ([], true)) := by show _ = _; unfold selR; rw [if_pos hz]
    clear hz hm
    generalize selR s = R at *
    go_enter Tryd.func13, Tryd.ntmps13
    go_wp2
    go_ret2
    rw [Hn.out]
    exact ⟨_, 0, rfl, ownTs_nil (World.ownsRow_lit w #[] 0 (Nat.le_refl _) (by decide) rfl), (Below.refl _ _).alloc (Nat.le_refl _) _⟩
  obtain ⟨i0, hi, hz0, hz1, hz2⟩ := info_parts Tryd.infoTerm
  have he : s.toList.isEmpty = false := by rw [empty_iff, decide_eq_false hz]
  have Hn : Hid (selR s = resT ((pieces s).map readI)) := selR_pieces hz
  have hsp := fun wx hm => split9_any s m wx hs hm
  have h0w : 0 < w.heap.size := World.block_lt_of_cell? _ _ hm
  have Hm : Hid (∀ wx, Below w.heap.size w wx → wx.cell? ⟨0, 0, none⟩ = some (.int .i64 m)) := fun wx hb => (hb.cell (p := ⟨0, 0, none⟩) h0w).trans hm
  have HPm : Hid (∀ p, p ∈ pieces s → p.length ≤ 1048576) := fun p hp => by have := splitK_mem_le' _ _ p hp; rw [show s.data.toList.length = s.size from by simp] at this; omega
  have hPl : (pieces s).length ≤ 10 := by
    have hle := Lib.splitB_length_le ⟨#[44]⟩ 0 (min 9 (s.size + 1) - 1) s
    rw [splitB_44, List.length_map] at hle
    omega
  generalize pieces s = P at *
  have Hsp := hide hsp
  generalize selR s = R at *
  clear hz hsp hm
  go_enter Tryd.func13, Tryd.ntmps13
  go_wp2_with fail
  refine (Hsp.out _ (Hm.out _ ((Below.refl _ _).alloc (Nat.le_refl _) _))).mono ?_
  rintro e w1 ⟨g1, cap1, rfl, ho1, hb1⟩
  have hg1 : (w.alloc (.cells #[] 54)).heap.size ≤ g1 ∧ g1 < w1.heap.size := owns_blk ho1 rfl
  have hg1' : w.heap.size + 1 ≤ g1 := by simpa using hg1.1
  have hg1s := hg1.2
  have Hb1 : Hid (Below w.heap.size w w1) := ((Below.refl _ _).alloc (by simp) _).trans (hb1.mono (by simp))
  have Hout : Hid (OT w1 w.heap.size w.heap.size 0 [] (fun _ => .nilIface) []) :=
    ⟨owns_below (World.ownsRow_lit (e := 54) (size := 3) w #[] 0 (Nat.le_refl w.heap.size) (by decide) rfl) hb1, fun j hj => by simp at hj, fun i j hi => by simp at hi⟩
  have Hp1 : Hid (∀ k (hk : k < P.length), w1.cell? ⟨g1, k, none⟩ = some (.string (ba P[k]))) := fun k hk => by rw [← strV_get' hk]; exact ho1.cellAt k (by omega)
  have hw1 : w.heap.size + 1 ≤ w1.heap.size := by omega
  clear ho1 hb1 hg1 Hsp
  go_wp2
  go_loopw [4, 14] (fun v i wr => ∃ (g cap k : Nat) (xs : List Value) (V : Nat → Value), k ≤ P.length ∧ i = .int .i64 k ∧ v = .slice (some ⟨g, 0, none⟩) k cap ∧ g ≠ g1 ∧ g1 < wr.heap.size ∧
      Hid (OT wr w.heap.size g cap xs V ((P.take k).map readI)) ∧ Hid (∀ k (hk : k < P.length), wr.cell? ⟨g1, k, none⟩ = some (.string (ba P[k]))) ∧ Hid (Below w.heap.size w wr)) (fun _ i _ => P.length - (intOf i).toNat)
  case atStart => exact ⟨_, _, 0, [], _, Nat.zero_le _, rfl, rfl, by omega, hg1s, Hout, Hp1, Hb1⟩
  case round =>
    clear Hb1 Hp1 Hout hg1s
    obtain ⟨g, cap, k, xs, V, hk, rfl, rfl, hgg, hg1s, Hot, Hp, Hbw⟩ := hrel
    have hlen : Hid (((P.take k).map readI).length = k) := by show _ = _; rw [List.length_map, List.length_take]; omega
    by_cases hlt : k < P.length
    · have c0 := Hp.out k hlt
      have hpl := HPm.out _ (List.getElem_mem hlt)
      have Hsucc := hide (map_take_succ readI P k hlt)
      have hrd := iread_any (P[k]'hlt) m wr hpl (Hm.out _ Hbw.out)
      have Hrd := hide hrd
      clear hpl hrd
      generalize P[k]'hlt = p at *
      generalize readI p = t at *
      go_wp2_with fail
      refine Hrd.out.mono ?_
      rintro e w2 ⟨v, rfl, hv2, hb2⟩
      obtain ⟨va, vc, rfl, -⟩ := strOf_own hv2 rfl
      have hbase := Hbw.out.size
      have hsz2 := hb2.size
      have hbw2 := Hbw.out.trans (hb2.mono Hbw.out.size)
      have hrow := Hot.out.1
      rw [hlen.out] at hrow
      have How2 := hide (owns_below hrow hb2)
      have Hv2 := hide hv2
      have Hb2 := hide hb2
      have Hp2 : Hid (∀ k (hk : k < P.length), w2.cell? ⟨g1, k, none⟩ = some (.string (ba P[k]))) := fun k hk => (hb2.cell (p := ⟨g1, k, none⟩) hg1s).trans (Hp.out k hk)
      clear hrow hv2 hb2 Hp Hrd
      obtain ⟨kd, ky, vs⟩ := t
      simp only at Hv2 ⊢
      go_wp2_with (at_builtin; refine wpList_append_lies _ rfl _ _ 24 rfl w.heap.size 54 i0 _ 3 48 Tryd.underlying24 hi hz0 hz1 hz2 rfl (by decide) _ _ _ rfl (How2.out.alloc _) ⟨w2.heap.size, 0, none⟩ 1 1 [.int .i64 kd, .string ky, .slice va vs.length vc] rfl rfl (cell_three_at _ _ rfl _ _ _ _) (fun x hx => by simp at hx; rcases hx with rfl | rfl | rfl <;> rfl) (by decide) (by unfold maxLen; omega) (by omega) (by simp; omega) _ rfl ?_; intro g' cap' w3 hown' hgrow3 hat3 hlt3)
      have Hot3 : Hid (OT w3 w.heap.size g' cap' (xs ++ [.int .i64 kd, .string ky, .slice va vs.length vc]) (fun j => if j = ((P.take k).map readI).length then .slice va vs.length vc else V j) ((P.take (k + 1)).map readI)) := by
        show OT _ _ _ _ _ _ _
        rw [Hsucc.out]
        exact OT_snoc (t := (kd, ky, vs)) Hot.out Hb2.out Hv2.out hbase (by rw [hlen.out]; exact hown') hgrow3 hat3
      have Hp3 : Hid (∀ k (hk : k < P.length), w3.cell? ⟨g1, k, none⟩ = some (.string (ba P[k]))) := fun k hk => by
        have e1 : (w2.alloc (.cells #[.int .i64 kd, .string ky, .slice va vs.length vc] 54)).cell? ⟨g1, k, none⟩ = some (.string (ba P[k])) := by rw [World.cell?_alloc_past _ _ _ (by omega)]; exact Hp2.out k hk
        rw [hgrow3.cell_far ⟨g1, k, none⟩ (by simp; omega) (fun e => hgg (by cases e; rfl))]
        exact e1
      have hne3 : g' ≠ g1 := by
        rcases hat3 with h | h
        · cases h; exact hgg
        · rw [h]; simp; omega
      have hsz3 := hgrow3.size
      have hg13 : g1 < w3.heap.size := by simp at hsz3; omega
      have Hb3 : Hid (Below w.heap.size w w3) := Below.grown (hbw2.alloc hbw2.size _) hgrow3 (by simp; omega) (fun j hj => by cases hj; exact (owns_blk How2.out rfl).1)
      clear hown' hgrow3 hat3 hsz3 Hot Hp2 Hbw Hv2 Hb2 How2
      go_roundw
      case rel => exact ⟨g', cap', k + 1, _, _, by omega, by go_num, by go_num, hne3, hg13, Hot3, Hp3, Hb3⟩
      case measure => simp [intOf]; omega
    · have e : k = P.length := by omega
      subst e
      have hot := Hot.out
      rw [List.take_length] at hot
      have Hots := hide hot
      have hml : (P.map readI).length = P.length := List.length_map ..
      have hok : ∀ t ∈ P.map readI, t.2.2.length ≤ maxLen := fun t ht => by
        obtain ⟨p, hp, rfl⟩ := List.mem_map.1 ht
        exact readI_len (HPm.out p hp)
      have hA := iselOk_any (some ⟨g, 0, none⟩) cap (P.map readI) wr (by rw [hml]; unfold maxLen; omega) hok hot.own.row
      have Ho := hide hot.own
      clear Hot Hp hot hok
      cases h1 : selB (P.map readI)
      · rw [h1, hml] at hA
        have HA := hide hA
        have HR : Hid (R = ([], false)) := by show _ = _; rw [Hn.out, resT_no h1]
        clear hA h1 Hots Hn Ho
        go_wp2_with fail
        refine HA.out.mono ?_
        rintro e w4 ⟨rfl, hb4⟩
        have hbw4 := Hbw.out.trans (hb4.mono Hbw.out.size)
        clear hb4
        go_wp2
        go_ret2
        rw [HR.out]
        exact ⟨_, 0, rfl, ownTs_mono (ownTs_nil (World.ownsRow_lit w4 #[] 0 (Nat.le_refl _) (by decide) rfl)) hbw4.size, hbw4.alloc hbw4.size _⟩
      · rw [h1, hml] at hA
        have HA := hide hA
        have HR : Hid (R = (P.map readI, true)) := by show _ = _; rw [Hn.out, resT_yes h1]
        clear hA h1 Hots Hn
        go_wp2_with fail
        refine HA.out.mono ?_
        rintro e w4 ⟨rfl, hb4⟩
        have hbw4 := Hbw.out.trans (hb4.mono Hbw.out.size)
        have Ho4 := hide (Ho.out.below hb4)
        clear hb4 Ho
        have Hml := hide hml
        clear hml
        go_wp2
        go_ret2
        rw [HR.out]
        exact parsePost_mk Hml.out.symm rfl Ho4.out hbw4
end Go.Proofs.YtbadjopaocindaaDoor
