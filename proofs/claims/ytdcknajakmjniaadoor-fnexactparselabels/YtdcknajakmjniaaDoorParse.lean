import Derived.Test.YtdcknajakmjniaaDoorSplit
import Derived.Test.YtdcknajakmjniaaDoorEx
import Derived.Deep.RegionLaw
namespace Go.Proofs.YtdcknajakmjniaaDoor
open Go.RowKit Go.BigFrame
set_option linter.unusedVariables false

theorem allOf_snoc (f : List UInt8 → Option (ByteArray × ByteArray)) (p : List UInt8) : ∀ P : List (List UInt8), allOf f (P ++ [p]) = match allOf f P, f p with | some ls, some x => some (ls ++ [x]) | _, _ => none
  | [] => by cases h : f p <;> simp [allOf, h]
  | q :: P => by
    have ih := allOf_snoc f p P
    cases hq : f q <;> cases hP : allOf f P <;> cases hp : f p <;> simp [allOf, hq, hP, hp] at ih ⊢ <;> simp [ih]
theorem allOf_bad (f : List UInt8 → Option (ByteArray × ByteArray)) : ∀ (P : List (List UInt8)) (p : List UInt8), p ∈ P → f p = none → allOf f P = none
  | [], p, h, _ => by simp at h
  | q :: P, p, h, hp => by
    rcases List.mem_cons.1 h with rfl | h
    · simp [allOf, hp]
    · have := allOf_bad f P p h hp
      cases hq : f q <;> simp [allOf, hq, this]
theorem pcs_mem_le {c : UInt8} : ∀ (L : List UInt8) (p : List UInt8), p ∈ pcs c L → p.length ≤ L.length
  | [], p, h => by simp [pcs] at h; simp [h]
  | b :: L, p, h => by
    have ih := pcs_mem_le (c := c) L
    unfold pcs at h
    split at h
    · rcases List.mem_cons.1 h with rfl | h
      · simp
      · have := ih p h; simp only [List.length_cons]; omega
    · split at h
      · rename_i e
        rw [e] at ih
        rcases List.mem_cons.1 h with rfl | h
        · have := ih _ (List.mem_cons_self); simp only [List.length_cons]; omega
        · have := ih p (List.mem_cons_of_mem _ h); simp only [List.length_cons]; omega
      · simp at h; simp [h]
theorem kvOf_sizes {p : List UInt8} {x : ByteArray × ByteArray} (h : kvOf p = some x) : x.1.size ≤ p.length ∧ x.2.size ≤ p.length := by
  unfold kvOf at h
  split at h
  · rename_i a b e
    cases h
    exact ⟨pcs_mem_le p a (by rw [e]; simp), pcs_mem_le p b (by rw [e]; simp)⟩
  · cases h
theorem cutOf_sizes {p : List UInt8} {x : ByteArray × ByteArray} (h : cutOf p = some x) : x.1.size ≤ p.length ∧ x.2.size ≤ p.length := by
  unfold cutOf at h
  split at h
  · cases h
    unfold Lib.cut
    split
    · exact ⟨List.length_take_le' _ _, by show (List.drop _ _).length ≤ _; rw [List.length_drop]; omega⟩
    · exact ⟨Nat.le_refl _, Nat.zero_le _⟩
  · cases h
theorem allOf_sizes {f : List UInt8 → Option (ByteArray × ByteArray)} (hf : ∀ p x, f p = some x → x.1.size ≤ p.length ∧ x.2.size ≤ p.length) : ∀ (P : List (List UInt8)) (ls : List (ByteArray × ByteArray)), allOf f P = some ls → (∀ p, p ∈ P → p.length ≤ 1048576) → okSizes ls
  | [], ls, h, _ => by cases h; intro x hx; simp at hx
  | p :: P, ls, h, hp => by
    unfold allOf at h
    split at h
    · rename_i x y h1 h2
      cases h
      intro z hz
      rcases List.mem_cons.1 hz with rfl | hz
      · have := hf p _ h1
        have := hp p (by simp)
        unfold maxLen
        omega
      · exact allOf_sizes hf P y h2 (fun q hq => hp q (by simp [hq])) z hz
    · cases h
theorem owns_grown {w w' : World} {base g n cap : Nat} {e : TypeId} {size : Nat} {xs : List Value} {row : Option Nat} (h : w.ownsRow base e size (.slice (some ⟨g, 0, none⟩) n cap) n xs) (hg : w.grownBy w' row) (hne : row ≠ some g) :
    w'.ownsRow base e size (.slice (some ⟨g, 0, none⟩) n cap) n xs := by
  obtain ⟨h1, h2⟩ := h
  rcases h2 with ⟨h, _⟩ | ⟨g', cap', cur, h, hbs, hh, r⟩
  · cases h
  · cases h
    refine ⟨h1, .inr ⟨g, cap, cur, rfl, hbs, ?_, r⟩⟩
    rw [hg.block g (Array.getElem?_eq_some_iff.1 hh).1 (fun h => hne h.symm)]
    exact hh
theorem strV_get {P : List (List UInt8)} {k : Nat} (h : k < P.length) : (strV P)[k]? = some (.string (ba P[k])) := by
  unfold strV; rw [List.getElem?_map, List.getElem?_eq_getElem h]; rfl
theorem flat_snoc (ls : List (ByteArray × ByteArray)) (x : ByteArray × ByteArray) : flat (ls ++ [x]) = flat ls ++ [.string x.1, .string x.2] := by rw [flat_append]; rfl
def specR (s : ByteArray) : List (ByteArray × ByteArray) × Bool := if s.size = 0 then ([], true) else resOf (allOf kvOf (pcs 44 s.data.toList))
theorem ret_lb {a : Option Addr} {n m cap : Nat} {p q : Bool} (h : n = m ∧ p = q) : Ending.returned (.tuple #[.slice a n cap, .bool p]) = .returned (.tuple #[.slice a m cap, .bool q]) := by rw [h.1, h.2]

set_option maxRecDepth 1000000 in
set_option maxHeartbeats 1600000 in
theorem sparse_any (s : ByteArray) (w : World) (hs : s.size ≤ 1048576) :
    Calls Tryd.prog 15 #[.string s] w fun e w' => ∃ g cap, e = .returned (.tuple #[.slice (some ⟨g, 0, none⟩) (specR s).1.length cap, .bool (specR s).2]) ∧
      w'.ownsRow w.heap.size 33 2 (.slice (some ⟨g, 0, none⟩) (specR s).1.length cap) (specR s).1.length (flat (specR s).1) ∧ Below w.heap.size w w' := by
  by_cases hz : s.size = 0
  · have he : s.toList.isEmpty = true := by rw [empty_iff, decide_eq_true hz]
    have Hn : Hid (specR s = ([], true)) := by show _ = _; unfold specR; rw [if_pos hz]
    clear hz
    go_enter Tryd.func15, Tryd.ntmps15
    go_wp2
    go_ret2
    rw [Hn.out]
    exact ⟨_, 0, rfl, World.ownsRow_lit w #[] 0 (Nat.le_refl _) (by decide) rfl, (Below.refl _ _).alloc (Nat.le_refl _) _⟩
  obtain ⟨i0, hi, hz0, hz1, hz2⟩ := info_parts Tryd.info44
  have he : s.toList.isEmpty = false := by rw [empty_iff, decide_eq_false hz]
  have Hn : Hid (specR s = resOf (allOf kvOf (pcs 44 s.data.toList))) := by show _ = _; unfold specR; rw [if_neg hz]
  have hsp := fun wx => split_any s 44 44 rfl wx hs
  have hPl := pcs_length_le (c := 44) s.data.toList
  rw [show s.data.toList.length = s.size from by simp] at hPl
  have HPm : Hid (∀ p, p ∈ pcs 44 s.data.toList → p.length ≤ 1048576) := fun p hp => by have := pcs_mem_le _ p hp; rw [show s.data.toList.length = s.size from by simp] at this; omega
  generalize pcs 44 s.data.toList = P at *
  have Hsp := hide hsp
  clear hz hsp
  go_enter Tryd.func15, Tryd.ntmps15
  go_wp2_with fail
  refine (Hsp.out _).mono ?_
  rintro e w1 ⟨g1, cap1, rfl, ho1, hb1⟩
  have Hb1 := hide hb1
  have Ho1 := hide ho1
  clear ho1 hb1 Hsp
  have Hout := hide (owns_below (World.ownsRow_lit (e := 33) (size := 2) w #[] 0 (Nat.le_refl w.heap.size) (by decide) rfl) Hb1.out)
  have hw1 : w.heap.size + 1 ≤ w1.heap.size := by have := Hb1.out.size; simpa using this
  have hg1 := owns_lt Ho1.out
  have hg1' : w.heap.size + 1 ≤ g1 := by simpa using hg1.1
  have hg1s := hg1.2
  clear hg1
  go_wp2
  go_loopw [4, 6] (fun v i wr => ∃ (g cap k : Nat) (ls : List (ByteArray × ByteArray)), k ≤ P.length ∧ i = .int .i64 k ∧ v = .slice (some ⟨g, 0, none⟩) k cap ∧ ls.length = k ∧ g ≠ g1 ∧ w1.heap.size ≤ wr.heap.size ∧
      Hid (wr.ownsRow w.heap.size 33 2 (.slice (some ⟨g, 0, none⟩) k cap) k (flat ls)) ∧ Hid (wr.ownsRow (w.heap.size + 1) 9 1 (.slice (some ⟨g1, 0, none⟩) P.length cap1) P.length (strV P)) ∧
      Hid (allOf kvOf (P.take k) = some ls) ∧ Hid (Below w.heap.size w wr)) (fun _ i _ => P.length - (intOf i).toNat)
  case atStart => exact ⟨_, _, 0, [], Nat.zero_le _, rfl, rfl, rfl, by omega, Nat.le_refl _, Hout.out, (by show World.ownsRow _ _ _ _ _ _ _; have := Ho1.out; simpa using this), rfl, ((Below.refl _ _).alloc (Nat.le_refl _) _).trans (Hb1.out.mono (by simp))⟩
  case round =>
    obtain ⟨g, cap, k, ls, hk, rfl, rfl, hls, hgg, hws, How, Hop, Hall, Hbw⟩ := hrel
    clear Hb1 Ho1 Hout
    by_cases hlt : k < P.length
    · have c0 : wr.cell? ⟨g1, k, none⟩ = some (.string (ba (P[k]'hlt))) := by rw [← strV_get hlt]; exact Hop.out.cellAt k (by omega)
      have hpl := HPm.out _ (List.getElem_mem hlt)
      have Hmem : Hid (P[k]'hlt ∈ P) := List.getElem_mem hlt
      have Htk : Hid (allOf kvOf (P.take (k + 1)) = match allOf kvOf (P.take k), kvOf (P[k]'hlt) with | some ls, some x => some (ls ++ [x]) | _, _ => none) := by
        show _ = _
        rw [List.take_succ_eq_append_getElem hlt, allOf_snoc]
      have hps : (ba (P[k]'hlt)).size ≤ 1048576 := hpl
      have hdat : (ba (P[k]'hlt)).data.toList = P[k]'hlt := rfl
      have hsp := fun wx => split_any (ba (P[k]'hlt)) 61 61 rfl wx hps
      rw [hdat] at hsp
      have Hkv : Hid (kvOf (P[k]'hlt) = match pcs 61 (P[k]'hlt) with | [a, b] => some (ba a, ba b) | _ => none) := rfl
      clear hdat hpl
      generalize hp : P[k]'hlt = p at *
      clear hp
      by_cases hab : ∃ a b, pcs 61 p = [a, b]
      · obtain ⟨a, b, hab⟩ := hab
        rw [hab] at hsp
        have Hx : Hid (allOf kvOf (P.take (k + 1)) = some (ls ++ [(ba a, ba b)])) := by
          show _ = _
          rw [Htk.out, Hall.out, Hkv.out, hab]
        have Hsp := hide hsp
        clear hab hsp Htk Hkv Hall Hmem
        go_wp2_with fail
        refine (Hsp.out _).mono ?_
        rintro e w2 ⟨g7, cap7, rfl, ho7, hb2⟩
        have k0 : w2.cell? ⟨g7, 0, none⟩ = some (.string (ba a)) := ho7.cellAt 0 (by simp)
        have k1 : w2.cell? ⟨g7, 1, none⟩ = some (.string (ba b)) := ho7.cellAt 1 (by simp)
        have How2 := hide (owns_below How.out hb2)
        have Hop2 := hide (owns_below Hop.out hb2)
        have Hbw2 := hide (Hbw.out.trans (hb2.mono Hbw.out.size))
        have hws2 := hb2.size
        have hbase := Hbw2.out.size
        clear ho7 hb2 How Hop Hbw Hsp
        simp only [List.length_cons, List.length_nil, Nat.zero_add]
        go_wp2
        go_region_law (refine step_append_lies _ rfl (.tmp 29) (.tmp 37) 24 rfl w.heap.size 33 i0 _ 2 32 Tryd.underlying24 hi hz0 hz1 hz2 rfl (by decide) (.slice (some ⟨g, 0, none⟩) k cap) k (flat ls) (by simp [Act.eval]) (How2.out.alloc _).drew ⟨w2.heap.size, 0, none⟩ 1 1 [.string (ba a), .string (ba b)] (by simp [Act.eval]) rfl (fun j u hj => cell_two_at w2 _ rfl _ _ _ j u hj) (fun x hx => by simp at hx; rcases hx with rfl | rfl <;> rfl) (by decide) (by unfold maxLen; omega) (by omega) (by simp; omega) _ rfl ?_; intro g' cap' w3 hown' hgrow3 hat3 hlt3)
        all_goals (
          go_wp2
          have hne3 : g' ≠ g1 := by
            rcases hat3 with h | h
            · cases h; exact hgg
            · rw [h]; simp; omega
          have hsz3 := hgrow3.size
          have Hb3 : Hid (Below w.heap.size w w3) := Below.grown ((Hbw2.out.alloc hbase _).drew) hgrow3 (by simp; omega) (fun j hj => (How2.out.lt _ hj).1)
          have Ho3 : Hid (w3.ownsRow w.heap.size 33 2 (.slice (some ⟨g', 0, none⟩) (k + 1) cap') (k + 1) (flat (ls ++ [(ba a, ba b)]))) := by rw [flat_snoc]; exact hown'
          have Hp3 := hide (owns_grown ((Hop2.out.alloc _).drew) hgrow3 (by intro h; cases h; exact hgg rfl))
          have hws3 : w1.heap.size ≤ w3.heap.size := by simp at hsz3; omega
          clear hown' hgrow3 hat3 hsz3
          go_roundw
          case rel => exact ⟨g', cap', k + 1, ls ++ [(ba a, ba b)], by omega, by go_num, by go_num, by simp; omega, hne3, hws3, Ho3, Hp3, Hx, Hb3⟩
          case measure => simp [intOf]; omega)
      · have Hnone : Hid (kvOf p = none) := by
          show _ = _
          rw [Hkv.out]
          split
          · rename_i a b e; exact absurd ⟨a, b, e⟩ hab
          · rfl
        have hl2 : (((pcs 61 p).length : Int) != 2) = true := by
          rw [bne_iff_ne]
          intro h
          have h' : (pcs 61 p).length = 2 := by omega
          match hp : pcs 61 p, h' with
          | [a, b], _ => exact hab ⟨a, b, hp⟩
        have HR : Hid (specR s = ([], false)) := by show _ = _; rw [Hn.out, allOf_bad kvOf P p Hmem.out Hnone.out]; rfl
        have Hsp := hide hsp
        clear hsp hab Htk Hkv Hall Hnone Hmem
        generalize (pcs 61 p).length = N at *
        go_wp2_with fail
        refine (Hsp.out _).mono ?_
        rintro e w2 ⟨g7, cap7, rfl, ho7, hb2⟩
        have Hbw2 := hide (Hbw.out.trans (hb2.mono Hbw.out.size))
        clear ho7 hb2 How Hop Hbw Hsp
        go_wp2
        go_ret2
        rw [HR.out]
        exact ⟨_, 0, rfl, World.ownsRow_lit w2 #[] 0 Hbw2.out.size (by decide) rfl, Hbw2.out.alloc Hbw2.out.size _⟩
    · have e : k = P.length := by omega
      subst e
      have Hres : Hid (specR s = resOf (some ls)) := by show _ = _; rw [Hn.out, ← Hall.out, List.take_length]
      have Hok : Hid (okSizes ls) := allOf_sizes (fun p x h => kvOf_sizes h) P ls (by have := Hall.out; rw [List.take_length] at this; exact this) HPm.out
      have hll : ls.length ≤ maxLen := by unfold maxLen; omega
      have hsl := fun a cap wx => slabelsOk_any a cap ls wx hll Hok.out
      rw [hls] at hsl
      have Hsl := hide hsl
      clear hsl Hop Hall Hn HPm
      rcases Bool.eq_false_or_eq_true (labelsB ls) with hb | hb
      · have HR : Hid (specR s = (ls, true)) := by show _ = _; rw [Hres.out]; unfold resOf; simp only [hb]; rfl
        have hsl := Hsl.out
        rw [hb] at hsl
        have Hsl' := hide hsl
        clear hsl hb Hsl Hres
        go_wp2_with fail
        refine (Hsl'.out _ _ _ (row_of_owns How.out)).mono ?_
        rintro e w3 ⟨rfl, hn3⟩
        have hb3 : Below wr.heap.size wr w3 := by obtain ⟨n, rfl⟩ := hn3; exact below_drewN (Below.refl _ _) n
        have How3 := hide (owns_below How.out hb3)
        have Hbw3 := hide (Hbw.out.trans (hb3.mono Hbw.out.size))
        clear hn3 hb3 How Hbw Hsl'
        go_wp2
        go_ret2
        rw [HR.out]
        exact ⟨g, cap, ret_lb ⟨hls.symm, rfl⟩, (by simp only; rw [hls]; exact How3.out), Hbw3.out⟩
      · have HR : Hid (specR s = ([], false)) := by show _ = _; rw [Hres.out]; unfold resOf; simp only [hb]; rfl
        have hsl := Hsl.out
        rw [hb] at hsl
        have Hsl' := hide hsl
        clear hsl hb Hsl Hres
        go_wp2_with fail
        refine (Hsl'.out _ _ _ (row_of_owns How.out)).mono ?_
        rintro e w3 ⟨rfl, hn3⟩
        have hb3 : Below wr.heap.size wr w3 := by obtain ⟨n, rfl⟩ := hn3; exact below_drewN (Below.refl _ _) n
        have Hbw3 := hide (Hbw.out.trans (hb3.mono Hbw.out.size))
        clear hn3 hb3 How Hbw Hsl'
        go_wp2
        go_ret2
        rw [HR.out]
        exact ⟨_, 0, rfl, World.ownsRow_lit w3 #[] 0 Hbw3.out.size (by decide) rfl, Hbw3.out.alloc Hbw3.out.size _⟩
end Go.Proofs.YtdcknajakmjniaaDoor
