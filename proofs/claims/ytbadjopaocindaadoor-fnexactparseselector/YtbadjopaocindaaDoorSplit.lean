import Derived.Test.YtbadjopaocindaaDoorPcs
import Derived.Test.YtbadjopaocindaaDoorLabs7
import Derived.Deep.AppendLies
namespace Go.Proofs.YtbadjopaocindaaDoor
open Go.RowKit Go.BigFrame
set_option linter.unusedVariables false

def strV (P : List (List UInt8)) : List Value := P.map fun p => .string (ba p)
theorem Tryd.infoS : (Tryd.prog.info? 9).map (fun i => (i.zero, i.size, i.bytes)) = some (some (.string ByteArray.empty), 1, 16) := by kernel_rfl
theorem cell_one_at' (w : World) (n : Nat) (h : w.heap.size = n) (a : Value) (t : TypeId) : ∀ j u, [a][j]? = some u → (w.alloc (.cells #[a] t)).cell? ((⟨n, 0, none⟩ : Addr).add j) = some u := by
  subst h
  intro j u hj
  match j, hj with
  | 0, hj => simp at hj; subst hj; simp [Addr.add]
  | j + 1, hj => simp at hj
theorem extract_ba (s : ByteArray) (f k : Nat) (h1 : f ≤ k) (h2 : k ≤ s.size) : s.extract f k = ba ((s.data.toList.drop f).take (k - f)) := by
  apply ByteArray.ext
  apply Array.ext'
  show (s.extract f k).data.toList = _
  rw [Lib.extract_data]
  rfl
/-- where the cutting stands: the pieces so far, the place of the next one, the place that is looked at -/
def cutAt (c : UInt8) (L : List UInt8) (D : List (List UInt8)) (f k : Nat) : Prop :=
  (k ≤ L.length ∧ f ≤ k ∧ D.length ≤ f ∧ pcs c L = D ++ pcs c (L.drop f) ∧ ∀ b ∈ (L.drop f).take (k - f), b ≠ c) ∨ (k = L.length + 1 ∧ D.length ≤ k ∧ pcs c L = D)
theorem cutAt_start (c : UInt8) (L : List UInt8) : cutAt c L [] 0 0 := .inl ⟨Nat.zero_le _, Nat.le_refl _, Nat.le_refl _, rfl, by simp⟩
theorem cutAt_next {c : UInt8} {L : List UInt8} {D : List (List UInt8)} {f k : Nat} (h : cutAt c L D f k) (hk : k < L.length) (hc : L[k] ≠ c) : cutAt c L D f (k + 1) := by
  rcases h with ⟨h1, h2, h3, h4, h5⟩ | ⟨h1, _⟩
  · refine .inl ⟨by omega, by omega, h3, h4, ?_⟩
    rw [show k + 1 - f = (k - f) + 1 from by omega, List.take_succ_eq_append_getElem (by rw [List.length_drop]; omega)]
    intro b hb
    rcases List.mem_append.1 hb with hb | hb
    · exact h5 b hb
    · simp only [List.mem_singleton] at hb
      rw [hb, List.getElem_drop]
      have e : f + (k - f) = k := by omega
      simp only [e]
      exact hc
  · omega
theorem cutAt_hit {c : UInt8} {L : List UInt8} {D : List (List UInt8)} {f k : Nat} (h : cutAt c L D f k) (hk : k < L.length) (hc : L[k] = c) : cutAt c L (D ++ [(L.drop f).take (k - f)]) (k + 1) (k + 1) := by
  rcases h with ⟨h1, h2, h3, h4, h5⟩ | ⟨h1, _⟩
  · refine .inl ⟨by omega, Nat.le_refl _, by simp; omega, ?_, by simp⟩
    have e : L.drop f = (L.drop f).take (k - f) ++ c :: L.drop (k + 1) := by
      have := (List.take_append_drop (k - f) (L.drop f)).symm
      rw [List.drop_drop, show f + (k - f) = k from by omega, List.drop_eq_getElem_cons hk, hc] at this
      exact this
    rw [h4, List.append_assoc]
    congr 1
    conv => lhs; rw [e]
    rw [pcs_hit _ _ h5]
    rfl
  · omega
theorem cutAt_end {c : UInt8} {L : List UInt8} {D : List (List UInt8)} {f : Nat} (h : cutAt c L D f L.length) : cutAt c L (D ++ [(L.drop f).take (L.length - f)]) (L.length + 1) (L.length + 1) := by
  rcases h with ⟨h1, h2, h3, h4, h5⟩ | ⟨h1, _⟩
  · refine .inr ⟨rfl, by simp; omega, ?_⟩
    have e : (L.drop f).take (L.length - f) = L.drop f := List.take_of_length_le (by rw [List.length_drop]; omega)
    rw [e] at h5 ⊢
    rw [h4, pcs_none _ h5]
  · omega

set_option maxRecDepth 1000000 in
set_option maxHeartbeats 800000 in
theorem split_any (s : ByteArray) (c : UInt8) (x : Int) (hx : x = (c.toNat : Int)) (w : World) (hs : s.size ≤ 1048576) :
    Calls Tryd.prog 45 #[.string s, .int .u8 x] w fun e w' => ∃ g cap, e = .returned (.slice (some ⟨g, 0, none⟩) (pcs c s.data.toList).length cap) ∧
      w'.ownsRow w.heap.size 9 1 (.slice (some ⟨g, 0, none⟩) (pcs c s.data.toList).length cap) (pcs c s.data.toList).length (strV (pcs c s.data.toList)) ∧ Below w.heap.size w w' := by
  obtain ⟨i0, hi, hz0, hz1, hz2⟩ := info_parts Tryd.infoS
  have Hx := hide hx
  have Hlen : Hid (s.data.toList.length = s.size) := by show _ = _; simp
  clear hx
  go_enter Tryd.func45, Tryd.ntmps45
  go_wp2_with fail
  go_loopw [5, 6, 7] (fun v f i wr => ∃ (g cap fn k : Nat) (D : List (List UInt8)), k ≤ s.size + 1 ∧ fn ≤ s.size + 1 ∧ D.length ≤ s.size + 1 ∧ f = .int .i64 fn ∧ i = .int .i64 k ∧ v = .slice (some ⟨g, 0, none⟩) D.length cap ∧
      Hid (wr.ownsRow w.heap.size 9 1 (.slice (some ⟨g, 0, none⟩) D.length cap) D.length (strV D)) ∧ Hid (cutAt c s.data.toList D fn k) ∧ Below w.heap.size w wr) (fun _ _ i _ => s.size + 1 - (intOf i).toNat)
  case atStart => exact ⟨_, _, 0, 0, [], by omega, by omega, by simp, rfl, rfl, rfl, World.ownsRow_lit w #[] 0 (Nat.le_refl _) (by decide) rfl, cutAt_start c _, (Below.refl _ _).alloc (Nat.le_refl _) _⟩
  case round =>
    obtain ⟨g, cap, f, k, D, hk, hf, hD, rfl, rfl, rfl, How, Hc, hbw⟩ := hrel
    by_cases hlt : k < s.size
    · have hlt' : k < s.data.toList.length := by have := Hlen.out; omega
      have hne : ((k : Int) == (s.size : Int)) = false := by rw [beq_eq_false_iff_ne]; omega
      have hbyte : ((s[k]'hlt).toNat : Int) < 256 := by have := (s[k]'hlt).toNat_lt; omega
      have hfk : f ≤ k := by rcases Hc.out with ⟨_, h, _⟩ | ⟨h, _⟩; exact h; have := Hlen.out; omega
      by_cases hq : s[k]'hlt = c
      · have hb : (((s[k]'hlt).toNat : Int) == x) = true := by rw [beq_iff_eq, Hx.out, hq]
        have Hn := hide (cutAt_hit Hc.out hlt' hq)
        have He := hide (extract_ba s f k hfk (by omega))
        clear hq Hc
        have Hv : Hid (strV (D ++ [(s.data.toList.drop f).take (k - f)]) = strV D ++ [.string (s.extract f k)]) := by show _ = _; rw [He.out]; unfold strV; rw [List.map_append]; rfl
        go_wp2_with (at_builtin; refine wpList_append_lies _ rfl _ _ 37 rfl w.heap.size 9 i0 _ 1 16 Tryd.underlying37 hi hz0 hz1 hz2 rfl (by decide) _ _ _ rfl (How.out.alloc _) ⟨wr.heap.size, 0, none⟩ 1 1 [.string (s.extract f k)] rfl rfl (cell_one_at' _ _ rfl _ _) (fun x hx => by simp at hx; rcases hx with rfl; rfl) (by decide) (by unfold maxLen; omega) (by omega) (by have := hbw.size; simp; omega) _ rfl ?_; intro g' cap' w3 hown' hgrow3 hat3 hlt3)
        go_roundw
        case rel => exact ⟨g', cap', k + 1, k + 1, D ++ [(s.data.toList.drop f).take (k - f)], by omega, by omega, (by have := Hn.out; rcases this with ⟨h, _, h', _⟩ | ⟨h, h', _⟩ <;> (have := Hlen.out; omega)), by go_num, by go_num, (by simp), (by show World.ownsRow _ _ _ _ _ _ _; rw [Hv.out, List.length_append]; exact hown'), Hn, Below.grown (hbw.alloc hbw.size _) hgrow3 (by have := hbw.size; simp; omega) (fun j hj => (How.out.lt _ hj).1)⟩
        case measure => simp [intOf]; omega
      · have hb : (((s[k]'hlt).toNat : Int) == x) = false := by
          rw [beq_eq_false_iff_ne, Hx.out]; intro h; exact hq (UInt8.toNat_inj.1 (by omega))
        have Hn := hide (cutAt_next Hc.out hlt' hq)
        clear hq Hc
        go_wp2
        go_roundw
        case rel => exact ⟨_, _, f, k + 1, D, by omega, by omega, hD, rfl, by go_num, rfl, How, Hn, hbw⟩
        case measure => simp [intOf]; omega
    · by_cases hend : k = s.size
      · have hne : ((k : Int) == (s.size : Int)) = true := by rw [beq_iff_eq]; omega
        have hle : (k : Int) ≤ (s.size : Int) := by omega
        have Hk := hide hend
        have hfk : f ≤ k := by rcases Hc.out with ⟨_, h, _⟩ | ⟨h, _⟩; exact h; have := Hlen.out; omega
        have Hn : Hid (cutAt c s.data.toList (D ++ [(s.data.toList.drop f).take (k - f)]) (k + 1) (k + 1)) := by
          have e : k = s.data.toList.length := by have := Hlen.out; omega
          have := Hc.out
          rw [e] at this ⊢
          exact cutAt_end this
        have He := hide (extract_ba s f k hfk (by omega))
        clear hend Hc
        have Hv : Hid (strV (D ++ [(s.data.toList.drop f).take (k - f)]) = strV D ++ [.string (s.extract f k)]) := by show _ = _; rw [He.out]; unfold strV; rw [List.map_append]; rfl
        go_wp2_with (at_builtin; refine wpList_append_lies _ rfl _ _ 37 rfl w.heap.size 9 i0 _ 1 16 Tryd.underlying37 hi hz0 hz1 hz2 rfl (by decide) _ _ _ rfl (How.out.alloc _) ⟨wr.heap.size, 0, none⟩ 1 1 [.string (s.extract f k)] rfl rfl (cell_one_at' _ _ rfl _ _) (fun x hx => by simp at hx; rcases hx with rfl; rfl) (by decide) (by unfold maxLen; omega) (by omega) (by have := hbw.size; simp; omega) _ rfl ?_; intro g' cap' w3 hown' hgrow3 hat3 hlt3)
        go_roundw
        case rel => exact ⟨g', cap', k + 1, k + 1, D ++ [(s.data.toList.drop f).take (k - f)], by omega, by omega, (by have := Hn.out; rcases this with ⟨h, _, h', _⟩ | ⟨h, h', _⟩ <;> (have := Hlen.out; omega)), by go_num, by go_num, (by simp), (by show World.ownsRow _ _ _ _ _ _ _; rw [Hv.out, List.length_append]; exact hown'), Hn, Below.grown (hbw.alloc hbw.size _) hgrow3 (by have := hbw.size; simp; omega) (fun j hj => (How.out.lt _ hj).1)⟩
        case measure => simp [intOf]; omega
      · have hgt : ¬ (k : Int) ≤ (s.size : Int) := by omega
        have He : Hid (pcs c s.data.toList = D) := by
          rcases Hc.out with ⟨h, _⟩ | ⟨_, _, h⟩
          · have := Hlen.out; omega
          · exact h
        clear Hc hend
        go_wp2
        go_ret
        rw [He.out]
        exact ⟨g, cap, rfl, How.out, hbw⟩
end Go.Proofs.YtbadjopaocindaaDoor
