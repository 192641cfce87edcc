/- The texts of values, by the spec: quoted texts, numbers. -/
import Derived.Test.YtkdiinjkpmkcpaaDoorVTx
import Derived.Test.YtkdiinjkpmkcpaaDoorVals
import Derived.Deep.QuietTactic
import Derived.Test.YtkdiinjkpmkcpaaDoorOwnB
namespace Go.Proofs.YtkdiinjkpmkcpaaDoor
open Go.RowKit Go.BigFrame
set_option linter.unusedVariables false

theorem Tryd.infoByt : (Tryd.prog.info? 5).map (fun i => (i.zero, i.size, i.bytes)) = some (some (.int .u8 0), 1, 1) := by kernel_rfl
def bytVs (l : List UInt8) : List Value := l.map fun c => .int .u8 c.toNat
theorem bytVs_app (l r : List UInt8) : bytVs (l ++ r) = bytVs l ++ bytVs r := by unfold bytVs; rw [List.map_append]
theorem byt_conv {w : World} {B g n cap : Nat} {e : TypeId} {l : List UInt8} (h : w.ownsRow B e 1 (.slice (some ⟨g, 0, none⟩) n cap) n (bytVs l)) (hn : n = l.length) : (convert 65 9 (.slice (some ⟨g, 0, none⟩) n cap)).run Tryd.prog w = .ok (.string ⟨l.toArray⟩) w := by
  subst hn
  have := run_convert_bytes_back (P := Tryd.prog) w 65 9 5 ⟨g, 0, none⟩ cap l Tryd.underlying65 Tryd.underlying5 Tryd.underlying9 (fun j hj => by
    have hc := h.cellAt j (by omega)
    unfold bytVs at hc
    rw [List.getElem?_map, List.getElem?_eq_getElem hj] at hc
    rw [Go.WideShapes.add_plain, Nat.zero_add, hc]; rfl)
  exact this
def quoL (s : ByteArray) (k : Nat) : List UInt8 := 34 :: (s.data.toList.take k).flatMap escC
theorem quoL_len (s : ByteArray) (k : Nat) : (quoL s k).length ≤ 1 + 2 * k := by
  have := flat_len (s.data.toList.take k)
  have h2 : (s.data.toList.take k).length ≤ k := by rw [List.length_take]; omega
  show ((s.data.toList.take k).flatMap escC).length + 1 ≤ _
  omega
theorem quoL_succ (s : ByteArray) (k : Nat) (h : k < s.size) : quoL s (k + 1) = quoL s k ++ escC (s[k]'h) := by
  have h' : k < s.data.toList.length := by simpa using h
  unfold quoL
  rw [List.take_succ_eq_append_getElem h', List.flatMap_append, List.cons_append]
  congr 1
  congr 1
  rw [List.flatMap_cons, List.flatMap_nil, List.append_nil]
  rfl
theorem quoL_end (s : ByteArray) : (⟨(quoL s s.size ++ [34]).toArray⟩ : ByteArray) = quoB s := by
  apply bs_ext'
  unfold quoB
  rw [bs_app, bs_app]
  have e : s.data.toList.take s.size = s.data.toList := List.take_of_length_le (by rw [Array.length_toList]; exact Nat.le_refl _)
  unfold quoL
  rw [e]
  show (34 :: s.data.toList.flatMap escC) ++ [34] = ([34] ++ s.data.toList.flatMap escC) ++ [34]
  rfl
theorem bytVs_two (C : UInt8) : bytVs [92, C] = [.int .u8 92, .int .u8 C.toNat] := rfl
theorem owns_slice {w : World} {B n : Nat} {v : Value} {e : TypeId} {size : Nat} {xs : List Value} (h : w.ownsRow B e size v n xs) : ∃ a c, v = .slice a n c := by
  rcases h.2 with ⟨h, h0⟩ | ⟨g, cap, cur, h, _⟩
  · exact ⟨none, 0, by rw [h, h0]⟩
  · exact ⟨_, _, h⟩
theorem u8_eq {c d : UInt8} : ((c.toNat : Int) == (d.toNat : Int)) = decide (c = d) := by
  rw [Bool.eq_iff_iff, beq_iff_eq, decide_eq_true_eq]
  exact ⟨fun h => UInt8.toNat_inj.1 (by omega), fun h => by rw [h]⟩
set_option maxRecDepth 100000 in
set_option maxHeartbeats 1600000 in
theorem l4Quoted_any (s : ByteArray) (w : World) (hs : s.size ≤ 100) : Calls Tryd.prog 22 #[.string s] w fun e w' => e = .returned (.string (quoB s)) ∧ Below w.heap.size w w' := by
  obtain ⟨i0, hi0, hz0, hz1, hz2⟩ := info_parts Tryd.infoByt
  go_enter Tryd.func22, Tryd.ntmps22
  go_wp2
  go_loopw [3, 4] (fun o i wr => ∃ (k len : Nat), k ≤ s.size ∧ i = .int .i64 k ∧ len ≤ 1 + 2 * k ∧ Hid (o ≠ .slice none 0 0) ∧ Hid (len = (quoL s k).length) ∧ Hid (wr.ownsRow w.heap.size 5 1 o len (bytVs (quoL s k))) ∧ Below w.heap.size w wr) (fun _ i _ => s.size - (intOf i).toNat)
  case atStart => exact ⟨0, 1, Nat.zero_le _, rfl, by omega, (fun h => by cases h), rfl, World.ownsRow_lit w #[.int .u8 34] 1 (Nat.le_refl _) (by decide) rfl, (Below.refl _ _).alloc (Nat.le_refl _) _⟩
  case round =>
    obtain ⟨k, len, hk, rfl, hle, Hnn, Hlen, How, hbw⟩ := hrel
    by_cases hlt : k < s.size
    · have hb := byt_bd s k
      rw [byt_get s k hlt] at hb
      have hq := quoL_succ s k hlt
      have hql := quoL_len s (k + 1)
      have hee : ((s[k]'hlt) = 34 ↔ ((s[k]'hlt).toNat : Int) = 34) ∧ ((s[k]'hlt) = 92 ↔ ((s[k]'hlt).toNat : Int) = 92) := by
        have h1 := u8_eq (c := s[k]'hlt) (d := 34)
        have h2 := u8_eq (c := s[k]'hlt) (d := 92)
        generalize s[k]'hlt = C at *
        exact ⟨⟨fun h => by rw [h]; rfl, fun h => UInt8.toNat_inj.1 (by show C.toNat = 34; omega)⟩, ⟨fun h => by rw [h]; rfl, fun h => UInt8.toNat_inj.1 (by show C.toNat = 92; omega)⟩⟩
      have he : ((s[k]'hlt).toNat : Int) = 34 ∨ ((s[k]'hlt).toNat : Int) = 92 → escC (s[k]'hlt) = [92, s[k]'hlt] := fun h => if_pos (by rcases h with h | h; exact .inl (hee.1.2 h); exact .inr (hee.2.2 h))
      have hn : ((s[k]'hlt).toNat : Int) ≠ 34 ∧ ((s[k]'hlt).toNat : Int) ≠ 92 → escC (s[k]'hlt) = [s[k]'hlt] := fun h => if_neg (by rintro (g | g); exact h.1 (hee.1.1 g); exact h.2 (hee.2.1 g))
      clear hee
      by_cases c1 : ((s[k]'hlt).toNat : Int) = 34
      · have HQ : Hid (bytVs (quoL s (k + 1)) = bytVs (quoL s k) ++ [.int .u8 92] ++ [.int .u8 ((s[k]'hlt).toNat : Int)]) := by show _ = _; rw [hq, he (by left; assumption), bytVs_app, bytVs_two]; simp
        have HL : Hid (len + 1 + 1 = (quoL s (k + 1)).length) := by show _ = _; rw [hq, he (by left; assumption), List.length_append, Hlen.out]; rfl
        have q1 : (((s[k]'hlt).toNat : Int) == 34) = true := by simpa using c1
        clear c1
        clear hq he hn
        go_wp2_with (at_builtin; first
          | (refine wpList_append_own _ rfl _ _ 65 rfl w.heap.size 5 i0 _ 1 1 Tryd.underlying65 hi0 hz0 hz1 hz2 rfl (by decide) _ _ _ rfl (HO1.out.alloc _) ⟨w1.heap.size, 0, none⟩ 1 1 [.int .u8 ((s[k]'hlt).toNat : Int)] rfl rfl (cell_one_at1 _ _ rfl _ _) (fun x hx => by simp at hx; rcases hx with rfl; rfl) (by unfold maxLen; omega) (by omega) (by have := HB1.out.size; simp; omega) ?_; intro v2 w2 hown2 hgrow2 hnil2)
          | (refine wpList_append_own _ rfl _ _ 65 rfl w.heap.size 5 i0 _ 1 1 Tryd.underlying65 hi0 hz0 hz1 hz2 rfl (by decide) _ _ _ rfl (How.out.alloc _) ⟨wr.heap.size, 0, none⟩ 1 1 [.int .u8 92] rfl rfl (cell_one_at1 _ _ rfl _ _) (fun x hx => by simp at hx; rcases hx with rfl; rfl) (by unfold maxLen; omega) (by omega) (by have := hbw.size; simp; omega) ?_; intro v1 w1 hown1 hgrow1 hnil1; have HB1 := hide (Below.grown (hbw.alloc hbw.size _) hgrow1 (by have := hbw.size; simp; omega) (fun j hj => (How.out.lt _ hj).1)); have HO1 := hide hown1; clear hown1 hgrow1))
        go_roundw
        case rel => exact ⟨k + 1, len + 1 + 1, by omega, by go_num, by omega, (fun h => Hnn.out (hnil1.1 (hnil2.1 h).1).1), HL, (by rw [HQ.out]; exact hown2), Below.grown (HB1.out.alloc HB1.out.size _) hgrow2 (by have := HB1.out.size; simp; omega) (fun j hj => (HO1.out.lt _ hj).1)⟩
        case measure => simp [intOf]; omega
      by_cases c2 : ((s[k]'hlt).toNat : Int) = 92
      · have HQ : Hid (bytVs (quoL s (k + 1)) = bytVs (quoL s k) ++ [.int .u8 92] ++ [.int .u8 ((s[k]'hlt).toNat : Int)]) := by show _ = _; rw [hq, he (by right; assumption), bytVs_app, bytVs_two]; simp
        have HL : Hid (len + 1 + 1 = (quoL s (k + 1)).length) := by show _ = _; rw [hq, he (by right; assumption), List.length_append, Hlen.out]; rfl
        have q1 : (((s[k]'hlt).toNat : Int) == 34) = false := by simpa using c1
        have q2 : (((s[k]'hlt).toNat : Int) == 92) = true := by simpa using c2
        clear c1 c2
        clear hq he hn
        go_wp2_with (at_builtin; first
          | (refine wpList_append_own _ rfl _ _ 65 rfl w.heap.size 5 i0 _ 1 1 Tryd.underlying65 hi0 hz0 hz1 hz2 rfl (by decide) _ _ _ rfl (HO1.out.alloc _) ⟨w1.heap.size, 0, none⟩ 1 1 [.int .u8 ((s[k]'hlt).toNat : Int)] rfl rfl (cell_one_at1 _ _ rfl _ _) (fun x hx => by simp at hx; rcases hx with rfl; rfl) (by unfold maxLen; omega) (by omega) (by have := HB1.out.size; simp; omega) ?_; intro v2 w2 hown2 hgrow2 hnil2)
          | (refine wpList_append_own _ rfl _ _ 65 rfl w.heap.size 5 i0 _ 1 1 Tryd.underlying65 hi0 hz0 hz1 hz2 rfl (by decide) _ _ _ rfl (How.out.alloc _) ⟨wr.heap.size, 0, none⟩ 1 1 [.int .u8 92] rfl rfl (cell_one_at1 _ _ rfl _ _) (fun x hx => by simp at hx; rcases hx with rfl; rfl) (by unfold maxLen; omega) (by omega) (by have := hbw.size; simp; omega) ?_; intro v1 w1 hown1 hgrow1 hnil1; have HB1 := hide (Below.grown (hbw.alloc hbw.size _) hgrow1 (by have := hbw.size; simp; omega) (fun j hj => (How.out.lt _ hj).1)); have HO1 := hide hown1; clear hown1 hgrow1))
        go_roundw
        case rel => exact ⟨k + 1, len + 1 + 1, by omega, by go_num, by omega, (fun h => Hnn.out (hnil1.1 (hnil2.1 h).1).1), HL, (by rw [HQ.out]; exact hown2), Below.grown (HB1.out.alloc HB1.out.size _) hgrow2 (by have := HB1.out.size; simp; omega) (fun j hj => (HO1.out.lt _ hj).1)⟩
        case measure => simp [intOf]; omega
      have HQ : Hid (bytVs (quoL s (k + 1)) = bytVs (quoL s k) ++ [.int .u8 ((s[k]'hlt).toNat : Int)]) := by show _ = _; rw [hq, hn ⟨c1, c2⟩, bytVs_app]; rfl
      have HL : Hid (len + 1 = (quoL s (k + 1)).length) := by show _ = _; rw [hq, hn ⟨c1, c2⟩, List.length_append, Hlen.out]; rfl
      have q1 : (((s[k]'hlt).toNat : Int) == 34) = false := by simpa using c1
      have q2 : (((s[k]'hlt).toNat : Int) == 92) = false := by simpa using c2
      clear hq he hn c1 c2
      go_wp2_with (at_builtin; refine wpList_append_own _ rfl _ _ 65 rfl w.heap.size 5 i0 _ 1 1 Tryd.underlying65 hi0 hz0 hz1 hz2 rfl (by decide) _ _ _ rfl (How.out.alloc _) ⟨wr.heap.size, 0, none⟩ 1 1 [.int .u8 ((s[k]'hlt).toNat : Int)] rfl rfl (cell_one_at1 _ _ rfl _ _) (fun x hx => by simp at hx; rcases hx with rfl; rfl) (by unfold maxLen; omega) (by omega) (by have := hbw.size; simp; omega) ?_; intro v' w3 hown' hgrow3 hnil3)
      go_roundw
      case rel => exact ⟨k + 1, len + 1, by omega, by go_num, by omega, (fun h => Hnn.out (hnil3.1 h).1), HL, (by rw [HQ.out]; exact hown'), Below.grown (hbw.alloc hbw.size _) hgrow3 (by have := hbw.size; simp; omega) (fun j hj => (How.out.lt _ hj).1)⟩
      case measure => simp [intOf]; omega
    · have e : k = s.size := by omega
      subst e
      have HE := hide (quoL_end s)
      have Hcv : Hid (∀ (wx : World) (v : Value), v ≠ .slice none 0 0 → wx.ownsRow w.heap.size 5 1 v (len + 1) (bytVs (quoL s s.size) ++ [.int .u8 34]) → (convert 65 9 v).run Tryd.prog wx = .ok (.string (quoB s)) wx) := by
        intro wx v hv h
        have hb : bytVs (quoL s s.size) ++ [.int .u8 34] = bytVs (quoL s s.size ++ [34]) := by rw [bytVs_app]; rfl
        rw [hb] at h
        rcases h.2 with ⟨h0, h1⟩ | ⟨g, cap, cur, h0, _⟩
        · omega
        · subst h0
          rw [byt_conv h (by rw [List.length_append, ← Hlen.out]; rfl), quoL_end]
      clear HE Hlen
      generalize quoL s s.size = QL at *
      go_wp2_with (at_builtin; refine wpList_append_own _ rfl _ _ 65 rfl w.heap.size 5 i0 _ 1 1 Tryd.underlying65 hi0 hz0 hz1 hz2 rfl (by decide) _ _ _ rfl (How.out.alloc _) ⟨wr.heap.size, 0, none⟩ 1 1 [.int .u8 34] rfl rfl (cell_one_at1 _ _ rfl _ _) (fun x hx => by simp at hx; rcases hx with rfl; rfl) (by unfold maxLen; omega) (by omega) (by have := hbw.size; simp; omega) ?_; intro v1 w1 hown1 hgrow1 hnil1; have hcv := Hcv.out w1 v1 (fun h => Hnn.out (hnil1.1 h).1) hown1; have HB1 := hide (Below.grown (hbw.alloc hbw.size _) hgrow1 (by have := hbw.size; simp; omega) (fun j hj => (How.out.lt _ hj).1)))
      go_ret
      exact ⟨rfl, HB1.out⟩
end Go.Proofs.YtkdiinjkpmkcpaaDoor
