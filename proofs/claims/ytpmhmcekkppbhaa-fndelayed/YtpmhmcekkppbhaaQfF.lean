/- Queues: the program's sets of names: namesOf, drop; itemsOk. -/
import Derived.Test.YtpmhmcekkppbhaaQfD
import Derived.Maps.OwnSet
import Derived.Maps.Own
import Derived.Maps.OwnOps
import Derived.Maps.Views
import Derived.ChangeMaps5
import Derived.StringKeys
namespace Go.Proofs.Ytpmhmcekkppbhaa
open Go.RowKit Go.BigFrame Go.Maps
set_option linter.unusedVariables false

def klS (s : ByteArray) : Lit := .string s.data.toList
theorem klS_inj {s t : ByteArray} (h : klS s = klS t) : s = t := by
  unfold klS at h
  cases s; cases t
  injection h with h
  congr 1
  exact Array.ext' h
theorem lawS : Keyed Try.prog 9 := string_keyed (by kernel_rfl)
theorem zeroU (w : World) : (zeroValue 190).run Try.prog w = .ok (.agg #[]) w := by kernel_rfl
theorem undM : Try.prog.underlying 135 = some (.map 9 190) := by kernel_rfl
theorem keyS {s : ByteArray} (h : s.size ≤ maxLen) : keyOf Try.prog 9 (.string s) = some (klS s) := Go.WideMaps.keyOf_string_mk (by kernel_rfl) h
theorem isKeyS (s : ByteArray) (h : s.size ≤ maxLen) : WideAt.IsKeyLit (klS s) := lawS.key (keyS h)
/-- a set of names in block b: just those of L -/
def MS9 (w : World) (b : Nat) (L : List ByteArray) : Prop := ∃ (n : Nat) (D : DataW Unit), w.ownsMap Try.prog 9 unitElem b n D ∧ n ≤ L.length ∧ (∀ s, Maps.has D (klS s) = true ↔ s ∈ L) ∧ (Maps.size D = L.length ↔ L.Nodup) ∧ Maps.size D ≤ L.length
theorem ownsMap_frame {w w' : World} {P : Program} {k : TypeId} {R : Value → Option (DataW Unit × List MemPlace)} {b n : Nat} {D : DataW Unit} (h : w.ownsMap P k R b n D) (hb : w'.heap[b]? = w.heap[b]?) : w'.ownsMap P k R b n D := by
  obtain ⟨es, clock, h1, h2⟩ := h
  exact ⟨es, clock, hb.trans h1, h2⟩
theorem MS9.below {w w' : World} {b : Nat} {L : List ByteArray} (h : MS9 w b L) (hb : Below w.heap.size w w') : MS9 w' b L := by
  obtain ⟨n, D, h1, h2⟩ := h
  exact ⟨n, D, ownsMap_frame h1 (hb.block b h1.lt), h2⟩
theorem MS9.lt {w : World} {b : Nat} {L : List ByteArray} (h : MS9 w b L) : b < w.heap.size := by
  obtain ⟨n, D, h1, h2⟩ := h; exact h1.lt
theorem MS9.made (w : World) : MS9 (w.alloc (.map #[] 0)) w.heap.size [] := ⟨0, .map [], World.ownsMap_made _ _ _ _, Nat.le_refl _, fun s => by simp [Maps.has_eq], by simp [Maps.size_eq], by simp [Maps.size_eq]⟩
theorem MS9.put {w1 : World} {b n : Nat} {L : List ByteArray} {D : DataW Unit} {s : ByteArray} (hs : s.size ≤ maxLen) (hT : Tidy D) (hn : n ≤ L.length) (h1 : ∀ s, Maps.has D (klS s) = true ↔ s ∈ L) (h2 : Maps.size D = L.length ↔ L.Nodup) (h3 : Maps.size D ≤ L.length)
    (hown : w1.ownsMap Try.prog 9 unitElem b (n + 1) (D.put (klS s) (.agg []))) : MS9 w1 b (L ++ [s]) := by
  have hp := size_put (k := klS s) hT (.agg [] : DataW Unit)
  refine ⟨n + 1, _, hown, by rw [List.length_append, List.length_singleton]; omega, fun t => ?_, ?_, ?_⟩
  · by_cases e : klS t = klS s
    · rw [e, has_put_same hT.isMap (isKeyS s hs)]
      simp [klS_inj e]
    · rw [has_put_other e, h1 t]
      simp only [List.mem_append, List.mem_singleton]
      exact ⟨.inl, fun h => h.resolve_right (fun h => e (by rw [h]))⟩
  · rw [hp, List.length_append, List.length_singleton, List.nodup_append]
    by_cases hh : Maps.has D (klS s) = true
    · rw [if_pos hh]
      have hm := (h1 s).1 hh
      exact ⟨fun h => by omega, fun h => ((h.2.2 s hm s (by simp)) rfl).elim⟩
    · rw [if_neg hh]
      have hm : s ∉ L := fun h => hh ((h1 s).2 h)
      constructor
      · intro h
        exact ⟨h2.1 (by omega), by simp, fun a ha b hb e => by simp at hb; exact hm (by rw [← hb, ← e]; exact ha)⟩
      · intro h
        have := h2.2 h.1
        omega
  · rw [hp, List.length_append, List.length_singleton]
    split <;> omega
/-- a set that loses names -/
def DS9 (w : World) (b : Nat) (F : ByteArray → Prop) : Prop := ∃ (n : Nat) (D : DataW Unit), w.ownsMap Try.prog 9 unitElem b n D ∧ ∀ s, Maps.has D (klS s) = true ↔ F s
theorem MS9.ds {w : World} {b : Nat} {L : List ByteArray} (h : MS9 w b L) : DS9 w b (fun s => s ∈ L) := by
  obtain ⟨n, D, h1, _, h3, _⟩ := h; exact ⟨n, D, h1, h3⟩
theorem DS9.frame {w w' : World} {b : Nat} {F : ByteArray → Prop} (h : DS9 w b F) (hb : w'.heap[b]? = w.heap[b]?) : DS9 w' b F := by
  obtain ⟨n, D, h1, h2⟩ := h; exact ⟨n, D, ownsMap_frame h1 hb, h2⟩
theorem DS9.congr {w : World} {b : Nat} {F G : ByteArray → Prop} (h : DS9 w b F) (hb : ∀ s, F s ↔ G s) : DS9 w b G := by
  obtain ⟨n, D, h1, h2⟩ := h; exact ⟨n, D, h1, fun s => (h2 s).trans (hb s)⟩
theorem DS9.lt {w : World} {b : Nat} {F : ByteArray → Prop} (h : DS9 w b F) : b < w.heap.size := by
  obtain ⟨n, D, h1, h2⟩ := h; exact h1.lt
theorem turned_out {w w' : World} {b : Nat} (h : w.mapTurned w' b) : OutS [b] w w' := grown_out h.grown
set_option maxHeartbeats 800000 in
theorem drop_any (b : Nat) (F : ByteArray → Prop) (s : ByteArray) (w : World) (hs : s.size ≤ maxLen) (h : DS9 w b F) :
    Calls Try.prog 96 #[.map (some b), .string s] w fun e w' => ∃ r : Bool, e = .returned (.bool r) ∧ (r = true ↔ F s) ∧ DS9 w' b (fun t => F t ∧ t ≠ s) ∧ OutS [b] w w' := by
  obtain ⟨n, D, hown, hF⟩ := h
  have HF := hide hF
  have Hown := hide hown
  have Hkey := hide (keyS hs)
  have hbl := hown.lt
  clear hF hown hs
  go_enter Try.func96, Try.ntmps96
  go_wp2_with (first
    | (at_lookup; refine wpList_lookup_own_unit _ rfl _ _ 135 rfl 9 190 lawS undM (zeroU _) b n D rfl Hown.out _ _ rfl Hkey.out ?_)
    | (at_delete; refine wpList_delete_own _ rfl _ _ 135 9 rfl 190 lawS undM unitElem b n D rfl (Hown.out.alloc _) _ _ rfl Hkey.out ?_; intro w1 hown1 hturn1))
  go_ret
  have ho : OutS [b] w w1 := (OutS.of_below (below_alloc w _)).trans (turned_out hturn1)
  refine ⟨_, rfl, HF.out s, ⟨n, _, hown1, fun t => ?_⟩, ho⟩
  by_cases e : klS t = klS s
  · rw [e, has_del_same]
    exact ⟨(fun h => by cases h), fun h => (h.2 (klS_inj e)).elim⟩
  · rw [has_del_other e, HF.out t]
    exact ⟨fun h => ⟨h, fun hh => e (by rw [hh])⟩, fun h => h.1⟩
def nmsI (L : List It) : List ByteArray := L.map (fun x => x.1)
/-- the names of the first lists, and of the beginning of the next one -/
def nmsV (VL : List (Value × List It)) (k : Nat) : List ByteArray := ((VL.take k).map (fun p => nmsI p.2)).flatten
theorem nmsV_succ {VL : List (Value × List It)} {k : Nat} (h : k < VL.length) : nmsV VL (k + 1) = nmsV VL k ++ nmsI (VL[k].2) := by
  unfold nmsV
  rw [List.take_add_one, List.getElem?_eq_getElem h, Option.toList_some, List.map_append, List.flatten_append, List.map_singleton, List.flatten_singleton]
theorem nmsV_len {VL : List (Value × List It)} (h : ∀ p ∈ VL, p.2.length ≤ 1048576) : ∀ k, k ≤ VL.length → (nmsV VL k).length ≤ k * 1048576
  | 0, _ => by simp [nmsV]
  | k + 1, hk => by
    rw [nmsV_succ (by omega), List.length_append]
    have h1 := nmsV_len h k (by omega)
    have h2 := h (VL[k]'(by omega)) (List.getElem_mem _)
    have h3 : (nmsI (VL[k]'(by omega)).2).length = (VL[k]'(by omega)).2.length := List.length_map _
    omega
theorem nmsI_succ {L : List It} {j : Nat} (h : j < L.length) : nmsI (L.take (j + 1)) = nmsI (L.take j) ++ [L[j].1] := by
  unfold nmsI
  rw [List.take_add_one, List.getElem?_eq_getElem h, Option.toList_some, List.map_append, List.map_singleton]
set_option maxRecDepth 20000 in
set_option maxHeartbeats 1600000 in
theorem namesOf_any (VL : List (Value × List It)) (c : Value) (w : World) (hl : VL.length ≤ 10) (hx : rdR w 1 c (VL.map (fun p => [p.1]))) (hv : ∀ p ∈ VL, rdR w 3 p.1 (p.2.map encI) ∧ okIs p.2) :
    Calls Try.prog 95 #[c] w fun e w' => ∃ b, e = .returned (.map (some b)) ∧ MS9 w' b (nmsV VL VL.length) ∧ w.heap.size ≤ b ∧ Below w.heap.size w w' := by
  have hmm := @run_makeMap Try.prog
  obtain ⟨a, cap, rfl, hc1, hc2, hc3⟩ := hx
  rw [List.length_map] at hc1 hc3 ⊢
  have HC := hide hc3
  have HV := hide hv

  clear hc3 hv
  go_enter Try.func95, Try.ntmps95
  go_wp2
  go_loopw [11] (fun i wr => ∃ (k : Nat), k ≤ VL.length ∧ i = .int .i64 k ∧ Hid (MS9 wr w.heap.size (nmsV VL k)) ∧ Hid (Below w.heap.size w wr)) (fun i _ => VL.length - (intOf i).toNat)
  case atStart => exact ⟨0, Nat.zero_le _, rfl, MS9.made w, below_alloc _ _⟩
  case round =>
    obtain ⟨k, hk, rfl, Hm, Hb⟩ := hrel
    by_cases hlt : k < VL.length
    · obtain ⟨b0, o0, rfl, hcell⟩ := HC.out (by omega)
      have hbl : b0 < w.heap.size := World.block_lt_of_cell? _ _ (hcell k [VL[k].1] 0 (VL[k].1) (by rw [List.getElem?_map, List.getElem?_eq_getElem hlt]; rfl) rfl)
      have hck : wr.cell? ⟨b0, o0 + k, none⟩ = some (VL[k].1) := by
        have := hcell k [VL[k].1] 0 (VL[k].1) (by rw [List.getElem?_map, List.getElem?_eq_getElem hlt]; rfl) rfl
        rw [Nat.mul_one, Nat.add_zero] at this
        exact (Hb.out.cell (p := ⟨b0, o0 + k, none⟩) hbl).trans this
      obtain ⟨hr, hok⟩ := HV.out _ (List.getElem_mem hlt)
      have HR := hide hr
      have hbd := nmsV_len (fun p hp => (HV.out p hp).2.1) k hk
      have Hbd : Hid ((nmsV VL k).length ≤ 10485760) := by show _ ≤ _; omega
      clear hbd
      have HOK := hide hok
      have HS : Hid (nmsV VL (k + 1) = nmsV VL k ++ nmsI (VL[k].2)) := nmsV_succ hlt
      clear hcell hr hok hbl
      generalize VL[k] = p at *
      obtain ⟨pv, L⟩ := p
      dsimp only at hck HR HOK HS
      obtain ⟨aL, pL, rfl, -, -⟩ := HR.out.itS
      have hLl := HOK.out.1
      have HW := hide Hb.out
      obtain ⟨wm, rfl⟩ : ∃ wm, wm = wr := ⟨_, rfl⟩
      clear Hb
      go_wp2
      go_loopw [17] (fun i wr => ∃ (j : Nat), j ≤ L.length ∧ i = .int .i64 j ∧ Hid (MS9 wr w.heap.size (nmsV VL k ++ nmsI (L.take j))) ∧ Hid (Below w.heap.size w wr)) (fun i _ => L.length - (intOf i).toNat)
      case atStart => exact ⟨0, Nat.zero_le _, rfl, by simpa [nmsI, Hid] using Hm, HW⟩
      case round =>
        obtain ⟨j, hj, rfl, Hj, Hy⟩ := hrel
        by_cases hlj : j < L.length
        · obtain ⟨b, off, rfl, hbk, c0, c1, c2⟩ := (HR.out.below Hy.out).itAt hlj
          have hs := (HOK.out.2 _ (List.getElem_mem hlj)).1
          have Hkey := hide (keyS hs)
          have HN : Hid (nmsI (L.take (j + 1)) = nmsI (L.take j) ++ [L[j].1]) := nmsI_succ hlj
          obtain ⟨n, D, hown, hn, h1, h2, h3⟩ := Hj.out
          have Hown := hide hown
          have HD := hide (And.intro hn (And.intro h1 (And.intro h2 h3)))
          have Hsz := hide hs
          have hnb : n ≤ 20000000 := by
            have h5 := Hbd.out
            have h6 : (nmsI (L.take j)).length ≤ L.length := by unfold nmsI; rw [List.length_map, List.length_take]; omega
            rw [List.length_append] at hn
            omega
          clear hown hn h1 h2 h3 hs Hj
          generalize L[j].1 = s at *
          generalize L[j].2.1 = rd at *
          generalize L[j].2.2 = fl at *
          have hmx : n < maxLen := by unfold maxLen; omega
          go_wp2_with (at_mapUpdate; refine wpList_mapUpdate_own _ rfl _ _ _ 135 rfl 9 190 lawS undM (unitElem (H := Unit)) w.heap.size n D rfl (ownsMap_frame Hown.out (Below.block (B := wr.heap.size) (by repeat (first | with_reducible exact Below.refl _ _ | with_reducible refine Below.setCell ?_ (by simp) _ | with_reducible refine Below.alloc ?_ (by simp) _)) _ Hown.out.lt)) hmx _ _ _ rfl rfl Hkey.out _ [] unitElem_mk ?_; intro w1 hown1 hgrow1)
          have hTd : Tidy D := Hown.out.tidy lawS
          have HM : Hid (MS9 w1 w.heap.size (nmsV VL k ++ nmsI (L.take (j + 1)))) := by
            show MS9 _ _ _
            rw [HN.out, ← List.append_assoc]
            exact MS9.put Hsz.out hTd HD.out.1 HD.out.2.1 HD.out.2.2.1 HD.out.2.2.2 hown1
          have HB1 : Hid (Below w.heap.size w w1) := Hy.out.trans (Below.grown (Below.mono ((by repeat (first | with_reducible exact Below.refl _ _ | with_reducible refine Below.setCell ?_ (by simp) _ | with_reducible refine Below.alloc ?_ (by simp) _)) : Below wr.heap.size wr _) Hy.out.size) hgrow1 (by simp; exact Nat.le_succ_of_le Hy.out.size) (fun g hg => by cases hg; exact Nat.le_refl _))
          clear hown1 hgrow1 hTd
          go_roundw
          case rel => exact ⟨j + 1, by omega, by go_num, HM, HB1⟩
          case measure => simp [intOf]; omega
        · have e : j = L.length := by omega
          have HM : Hid (MS9 wr w.heap.size (nmsV VL (k + 1))) := by
            show MS9 _ _ _
            rw [HS.out]
            have := Hj.out
            rwa [e, List.take_length] at this
          clear Hj
          subst e
          go_wp2
          go_roundw
          case rel => exact ⟨k + 1, by omega, by go_num, HM, Hy⟩
          case measure => simp [intOf]; omega
    · have e : k = VL.length := by omega
      subst e
      go_wp2
      go_ret
      exact ⟨_, rfl, Hm.out, Nat.le_refl _, Hb.out⟩
end Go.Proofs.Ytpmhmcekkppbhaa
