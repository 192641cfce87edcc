/- spec.l2Find, spec.l2Read. -/
import Derived.Test.YtbadjopaocindaaDoorSelP
import Derived.Test.YtbadjopaocindaaDoorSplit
import Derived.Test.YtbadjopaocindaaDoorOut
import Derived.Deep.RegionWith
namespace Go.Proofs.YtbadjopaocindaaDoor
open Go.RowKit Go.BigFrame
set_option linter.unusedVariables false

theorem occ_ext (s t : ByteArray) (k : Nat) (h : k + t.size ≤ s.size) : (s.extract k (k + t.size) = t) ↔ Lib.occAt s.data.toList t.data.toList k = true := by
  unfold Lib.occAt
  rw [List.isPrefixOf_iff_prefix, extract_ba s k (k + t.size) (by omega) h, Nat.add_sub_cancel_left]
  have hl : t.data.toList.length = t.size := by simp
  constructor
  · intro e
    have e2 : (s.data.toList.drop k).take t.size = t.data.toList := congrArg (fun b : ByteArray => b.data.toList) e
    rw [← e2]
    exact List.take_prefix _ _
  · rintro ⟨r, hr⟩
    apply bs_ext'
    show (s.data.toList.drop k).take t.size = t.data.toList
    rw [← hr, ← hl, List.take_left]
set_option maxRecDepth 100000 in
theorem find_any (s t : ByteArray) (w : World) (hs : s.size ≤ 1048576) (h1 : 1 ≤ t.size) (h5 : t.size ≤ 5) :
    Calls Tryd.prog 81 #[.string s, .string t] w fun e w' => e = .returned (.int .i64 (Lib.index s.data.toList t.data.toList)) ∧ w' = w := by
  have Hl : Hid (s.data.toList.length = s.size ∧ t.data.toList.length = t.size) := ⟨by simp, by simp⟩
  have Hne : Hid (t.data.toList ≠ []) := by intro e; have := Hl.out.2; rw [e] at this; simp at this; omega
  go_enter Tryd.func81, Tryd.ntmps81
  go_wp2
  go_loop [5] (fun i => ∃ k : Nat, k ≤ s.size + 1 ∧ i = .int .i64 k ∧ Hid (Lib.NoOcc s.data.toList t.data.toList k)) (fun i => s.size + 1 - (intOf i).toNat)
  case atStart => exact ⟨0, Nat.zero_le _, rfl, Lib.NoOcc.zero _ _⟩
  case round =>
    obtain ⟨k, hk, rfl, Hx⟩ := hrel
    by_cases hlt : k + t.size ≤ s.size
    · have hq := occ_ext s t k hlt
      have he := beq_str (s.extract k (k + t.size)) t
      by_cases ho : Lib.occAt s.data.toList t.data.toList k = true
      · rw [decide_eq_true (hq.2 ho)] at he
        have Hn : Hid (Lib.index s.data.toList t.data.toList = k) := Lib.index_hit Hx.out (by have := Hl.out; omega) ho
        clear hq ho Hx
        go_wp2
        go_ret
        exact ⟨ret_int Hn.out.symm, rfl⟩
      · rw [decide_eq_false (fun h => ho (hq.1 h))] at he
        have Hn : Hid (Lib.NoOcc s.data.toList t.data.toList (k + 1)) := Lib.NoOcc.succ Hx.out (by simpa using ho)
        clear hq ho Hx
        go_wp2
        go_round
        case rel => exact ⟨k + 1, by omega, by go_num, Hn⟩
        case measure => simp [intOf]; omega
    · have Hn : Hid (Lib.index s.data.toList t.data.toList = -1) := Lib.index_past Hne.out Hx.out (by have := Hl.out; omega)
      clear Hx
      go_wp2
      go_ret
      exact ⟨ret_int Hn.out.symm, rfl⟩

def readPost (w : World) (t : TD) (e : Ending) (w' : World) : Prop := ∃ v, e = .returned (.agg #[.int .i64 t.1, .string t.2.1, v]) ∧ w'.ownsRow w.heap.size 9 1 v t.2.2.length (strVs t.2.2) ∧ Below w.heap.size w w'
theorem last_byte (s : ByteArray) (h : s.size - 1 < s.size) : ((((s[s.size - 1]'h).toNat : Int) == 41) = true ↔ s.data.toList.getLast? = some 41) := by
  have hl : s.data.toList.length = s.size := by simp
  have e : s[s.size - 1]'h = s.data.toList[s.size - 1]'(by omega) := rfl
  rw [beq_iff_eq, List.getLast?_eq_getElem?, hl, List.getElem?_eq_getElem (by omega), e]
  constructor
  · intro h; exact congrArg some (UInt8.toNat_inj.1 (by show _ = 41; omega))
  · intro h; rw [Option.some.inj h]; rfl
theorem shut_last {p : List UInt8} (h : hasI p pIn = true) : shutB (restOf p) = true ↔ p.getLast? = some 41 := by
  have hp := cut_parts h
  have e : p.drop (cutI p pIn + pIn.length) = restOf p := rfl
  rw [e] at hp
  generalize p.take (cutI p pIn) = a at hp
  generalize restOf p = r at *
  unfold shutB
  rw [decide_eq_true_eq, hp]
  cases hr : r.getLast? with
  | none =>
    have : r = [] := List.getLast?_eq_none_iff.1 hr
    subst this
    rw [List.append_nil, show a ++ pIn = (a ++ [32, 105, 110, 32]) ++ [40] from by simp [pIn], List.getLast?_concat]
    simp
  | some x =>
    obtain ⟨ys, rfl⟩ := List.getLast?_eq_some_iff.1 hr
    rw [← List.append_assoc, List.getLast?_concat]

theorem wrap_small (x : Int) (h0 : -1000000000 ≤ x) (h1 : x ≤ 1000000000) : IntKind.i64.wrap x = x := by rw [IntKind.wrap_i64]; omega
theorem bcellx {W w1 : World} (hb : Below W.heap.size W w1) : (∀ b o, b < W.heap.size → w1.cell? ⟨b, o, none⟩ = W.cell? ⟨b, o, none⟩) ∧ (∀ b o, b < W.heap.size → w1.frozen? ⟨b, o, none⟩ = W.frozen? ⟨b, o, none⟩) :=
  ⟨fun b o h => hb.cell (p := ⟨b, o, none⟩) h, fun b o h => hb.frozen (p := ⟨b, o, none⟩) h⟩
theorem strVs_ba (P : List (List UInt8)) : strVs (P.map ba) = strV P := by unfold strVs strV; rw [List.map_map]; rfl
theorem split_post (x : ByteArray) (l : List UInt8) (wx : World) {W0 : World} (hx : x = ba l) (hs : (ba l).size ≤ 1048576) (hb : Below W0.heap.size W0 wx) :
    Calls Tryd.prog 45 #[.string x, .int .u8 32] wx fun e w' => ∃ g cap, e = .returned (.slice (some ⟨g, 0, none⟩) (pcs 32 l).length cap) ∧
      Hid (w'.ownsRow W0.heap.size 9 1 (.slice (some ⟨g, 0, none⟩) (pcs 32 l).length cap) (pcs 32 l).length (strV (pcs 32 l))) ∧ Hid (Below W0.heap.size W0 w') := by
  subst hx
  exact (split_any (ba l) 32 32 rfl wx hs).mono fun e w' ⟨g, cap, h1, h2, h3⟩ => ⟨g, cap, h1, owns_mono h2 hb.size, hb.trans (h3.mono hb.size)⟩
theorem has_idx {p t : List UInt8} (h : hasI p t = true) : ∃ j : Nat, Lib.index p t = j ∧ cutI p t = j ∧ j + t.length ≤ p.length := by
  unfold hasI at h
  rw [decide_eq_true_eq] at h
  have hr := Lib.index_room _ _ h
  exact ⟨(Lib.index p t).toNat, by omega, rfl, by omega⟩
theorem has_no {p t : List UInt8} (h : hasI p t = false) : Lib.index p t = -1 := by
  unfold hasI at h
  rw [decide_eq_false_iff_not] at h
  have := Lib.index_ge p t
  omega
theorem ext_take (s : ByteArray) (j : Nat) (h : j ≤ s.size) : s.extract 0 j = ba (s.data.toList.take j) := by rw [extract_ba s 0 j (by omega) h]; rfl
theorem ext_drop (s : ByteArray) (j : Nat) (h : j ≤ s.size) : s.extract j s.size = ba (s.data.toList.drop j) := by
  rw [extract_ba s j s.size h (Nat.le_refl _), List.take_of_length_le (by rw [List.length_drop]; simp)]
theorem ba_self (s : ByteArray) : ba s.data.toList = s := rfl
theorem head_byte (s : ByteArray) (h : 0 < s.size) : ((((s[0]'h).toNat : Int) == 33) = true ↔ s.data.toList.head? = some 33) := by
  have hl : s.data.toList.length = s.size := by simp
  have e : s[0]'h = s.data.toList[0]'(by omega) := rfl
  rw [beq_iff_eq, List.head?_eq_getElem?, List.getElem?_eq_getElem (by omega), e]
  constructor
  · intro h; exact congrArg some (UInt8.toNat_inj.1 (by show _ = 33; omega))
  · intro h; rw [Option.some.inj h]; rfl

theorem lit_own (W1 : World) (x : ByteArray) (n B : Nat) (hn : n = W1.heap.size) (hB : B ≤ n) : (W1.alloc (.cells #[.string x] 9)).ownsRow B 9 1 (.slice (some ⟨n, 0, none⟩) 1 1) 1 (strVs [x]) := by
  subst hn
  exact World.ownsRow_lit W1 #[.string x] 1 hB (by decide) rfl
theorem nil_own (w : World) (B : Nat) : w.ownsRow B 9 1 (.slice none 0 0) 0 (strVs []) := ⟨rfl, .inl ⟨rfl, rfl⟩⟩

set_option maxRecDepth 100000 in
set_option maxHeartbeats 1600000 in
theorem sread_a (s : ByteArray) (w : World) (hs : s.size ≤ 1048576) (I : Int) (hI : I < 0) (Hf1 : Hid (∀ wx, Calls Tryd.prog 81 #[.string s, .string ⟨#[32, 105, 110, 32, 40]⟩] wx fun e w' => e = .returned (.int .i64 I) ∧ w' = wx)) : Calls Tryd.prog 46 #[.string s] w (readPost w (notIn s.data.toList)) := by
  have hl : s.data.toList.length = s.size := by simp
  have hf := fun t wx h1 h5 => find_any s t wx hs h1 h5
  have hf2 := fun wx => hf (ba [33, 61]) wx (by decide) (by decide)
  have hf3 := fun wx => hf (ba [61]) wx (by decide) (by decide)
  rw [show (ba [33, 61]).data.toList = [33, 61] from rfl] at hf2
  rw [show (ba [61]).data.toList = [61] from rfl] at hf3
  clear hf
  cases h2 : hasI s.data.toList [33, 61]
  rotate_left
  · obtain ⟨j, hj1, hj2, hj3⟩ := has_idx h2
    simp only [List.length_cons, List.length_nil, hl] at hj3
    rw [hj1] at hf2
    have Hf2 := hide hf2
    have HR : Hid (notIn s.data.toList = (2, ba (s.data.toList.take j), [ba (s.data.toList.drop (j + 2))])) := by
      show _ = _
      unfold notIn
      rw [h2, if_pos rfl, hj2]
    have He1 := hide (ext_take s j (by omega))
    have He2 := hide (ext_drop s (j + 2) (by omega))
    have hw := wrap_small ((j : Int) + 2) (by omega) (by omega)
    have hn1 : (j : Int) ≤ (s.size : Int) := by omega
    have hn2 : (j : Int) + 2 ≤ (s.size : Int) := by omega
    have hn3 : (0 : Int) ≤ (j : Int) + 2 := by omega
    clear hf2 hf3 h2 hj1 hj2 hl
    generalize notIn s.data.toList = T at *
    go_enter Tryd.func46, Tryd.ntmps46
    go_wp2_with fail
    refine (Hf1.out _).mono ?_
    rintro e w1 ⟨rfl, rfl⟩
    go_wp2_with fail
    refine (Hf2.out _).mono ?_
    rintro e w1 ⟨rfl, rfl⟩
    go_wp2
    go_region
    go_wp2
    refine bodyPost_ret (v := .agg #[.int .i64 2, .string (s.extract 0 j), .slice (some ⟨w.heap.size + 1, 0, none⟩) 1 1]) ?_ rfl ?_
    · simp [results, Tryd.results46, go_sem]
    · rw [HR.out]
      refine ⟨_, by rw [He1.out], ?_, ?_⟩
      · show World.ownsRow _ _ _ _ _ 1 (strVs [ba (s.data.toList.drop (j + 2))])
        rw [← He2.out]
        exact lit_own _ _ _ _ (by simp) (by omega)
      · exact ((((Below.refl _ _).alloc (by simp) _).alloc (by simp) _)).drew
  cases h3 : hasI s.data.toList [61]
  rotate_left
  · rw [has_no h2] at hf2
    have Hf2 := hide hf2
    obtain ⟨j, hj1, hj2, hj3⟩ := has_idx h3
    simp only [List.length_cons, List.length_nil, hl] at hj3
    rw [hj1] at hf3
    have Hf3 := hide hf3
    have HR : Hid (notIn s.data.toList = (1, ba (s.data.toList.take j), [ba (s.data.toList.drop (j + 1))])) := by
      show _ = _
      unfold notIn
      rw [h2, if_neg (by simp), h3, if_pos rfl, hj2]
    have He1 := hide (ext_take s j (by omega))
    have He2 := hide (ext_drop s (j + 1) (by omega))
    have hw := wrap_small ((j : Int) + 1) (by omega) (by omega)
    have hn1 : (j : Int) ≤ (s.size : Int) := by omega
    have hn2 : (j : Int) + 1 ≤ (s.size : Int) := by omega
    have hn3 : (0 : Int) ≤ (j : Int) + 1 := by omega
    clear hf2 hf3 h2 hj1 hj2 hl h3
    generalize notIn s.data.toList = T at *
    go_enter Tryd.func46, Tryd.ntmps46
    go_wp2_with fail
    refine (Hf1.out _).mono ?_
    rintro e w1 ⟨rfl, rfl⟩
    go_wp2_with fail
    refine (Hf2.out _).mono ?_
    rintro e w1 ⟨rfl, rfl⟩
    go_wp2_with fail
    refine (Hf3.out _).mono ?_
    rintro e w1 ⟨rfl, rfl⟩
    go_wp2
    go_region
    go_wp2
    refine bodyPost_ret (v := .agg #[.int .i64 1, .string (s.extract 0 j), .slice (some ⟨w.heap.size + 1, 0, none⟩) 1 1]) ?_ rfl ?_
    · simp [results, Tryd.results46, go_sem]
    · rw [HR.out]
      refine ⟨_, by rw [He1.out], ?_, ?_⟩
      · show World.ownsRow _ _ _ _ _ 1 (strVs [ba (s.data.toList.drop (j + 1))])
        rw [← He2.out]
        exact lit_own _ _ _ _ (by simp) (by omega)
      · exact ((((Below.refl _ _).alloc (by simp) _).alloc (by simp) _)).drew
  rw [has_no h2] at hf2
  rw [has_no h3] at hf3
  have Hf2 := hide hf2
  have Hf3 := hide hf3
  by_cases hz : 0 < s.size
  · have hzi : (0 : Int) < (s.size : Int) := by omega
    have hzi1 : (1 : Int) ≤ (s.size : Int) := by omega
    cases hq0 : (((s[0]'hz).toNat : Int) == 33)
    · have HR : Hid (notIn s.data.toList = (4, ba s.data.toList, [])) := by
        show _ = _
        unfold notIn
        rw [h2, if_neg (by simp), h3, if_neg (by simp), if_neg (fun h => by rw [(head_byte s hz).2 h] at hq0; cases hq0)]
      clear hf2 hf3 h2 h3 hl
      generalize notIn s.data.toList = T at *
      go_enter Tryd.func46, Tryd.ntmps46
      go_wp2_with fail
      refine (Hf1.out _).mono ?_
      rintro e w1 ⟨rfl, rfl⟩
      go_wp2_with fail
      refine (Hf2.out _).mono ?_
      rintro e w1 ⟨rfl, rfl⟩
      go_wp2_with fail
      refine (Hf3.out _).mono ?_
      rintro e w1 ⟨rfl, rfl⟩
      go_wp2
      refine bodyPost_ret (v := .agg #[.int .i64 4, .string s, .slice none 0 0]) ?_ rfl ?_
      · simp [results, Tryd.results46, go_sem]
      · rw [HR.out]
        exact ⟨_, rfl, nil_own _ _, (Below.refl _ _).alloc (by simp) _⟩
    · have HR : Hid (notIn s.data.toList = (5, ba s.data.toList.tail, [])) := by
        show _ = _
        unfold notIn
        rw [h2, if_neg (by simp), h3, if_neg (by simp), if_pos ((head_byte s hz).1 hq0)]
      have He1 : Hid (s.extract 1 s.size = ba s.data.toList.tail) := by show _ = _; rw [ext_drop s 1 (by omega), List.drop_one]
      clear hf2 hf3 h2 h3 hl
      generalize notIn s.data.toList = T at *
      go_enter Tryd.func46, Tryd.ntmps46
      go_wp2_with fail
      refine (Hf1.out _).mono ?_
      rintro e w1 ⟨rfl, rfl⟩
      go_wp2_with fail
      refine (Hf2.out _).mono ?_
      rintro e w1 ⟨rfl, rfl⟩
      go_wp2_with fail
      refine (Hf3.out _).mono ?_
      rintro e w1 ⟨rfl, rfl⟩
      go_wp2
      refine bodyPost_ret (v := .agg #[.int .i64 5, .string (s.extract 1 s.size), .slice none 0 0]) ?_ rfl ?_
      · simp [results, Tryd.results46, go_sem]
      · rw [HR.out]
        exact ⟨_, by rw [He1.out], nil_own _ _, (Below.refl _ _).alloc (by simp) _⟩
  · have hzi : (s.size : Int) ≤ 0 := by omega
    have HR : Hid (notIn s.data.toList = (4, ba s.data.toList, [])) := by
      show _ = _
      unfold notIn
      rw [h2, if_neg (by simp), h3, if_neg (by simp), if_neg (fun h => by
        have : s.data.toList = [] := List.eq_nil_of_length_eq_zero (by omega)
        rw [this] at h; cases h)]
    clear hf2 hf3 h2 h3 hl
    generalize notIn s.data.toList = T at *
    go_enter Tryd.func46, Tryd.ntmps46
    go_wp2_with fail
    refine (Hf1.out _).mono ?_
    rintro e w1 ⟨rfl, rfl⟩
    go_wp2_with fail
    refine (Hf2.out _).mono ?_
    rintro e w1 ⟨rfl, rfl⟩
    go_wp2_with fail
    refine (Hf3.out _).mono ?_
    rintro e w1 ⟨rfl, rfl⟩
    go_wp2
    refine bodyPost_ret (v := .agg #[.int .i64 4, .string s, .slice none 0 0]) ?_ rfl ?_
    · simp [results, Tryd.results46, go_sem]
    · rw [HR.out]
      exact ⟨_, rfl, nil_own _ _, (Below.refl _ _).alloc (by simp) _⟩
set_option maxRecDepth 100000 in
set_option maxHeartbeats 1600000 in
theorem sread_b (s : ByteArray) (w : World) (hs : s.size ≤ 1048576) (I : Int) (hI : 0 ≤ I) (h0s : s.size - 1 < s.size) (hq : (((s[s.size - 1]'h0s).toNat : Int) == 41) = false) (hia0 : (1 : Int) ≤ (s.size : Int)) (Hf1 : Hid (∀ wx, Calls Tryd.prog 81 #[.string s, .string ⟨#[32, 105, 110, 32, 40]⟩] wx fun e w' => e = .returned (.int .i64 I) ∧ w' = wx)) : Calls Tryd.prog 46 #[.string s] w (readPost w (notIn s.data.toList)) := by
  have hl : s.data.toList.length = s.size := by simp
  have hf := fun t wx h1 h5 => find_any s t wx hs h1 h5
  have hf2 := fun wx => hf (ba [33, 61]) wx (by decide) (by decide)
  have hf3 := fun wx => hf (ba [61]) wx (by decide) (by decide)
  rw [show (ba [33, 61]).data.toList = [33, 61] from rfl] at hf2
  rw [show (ba [61]).data.toList = [61] from rfl] at hf3
  clear hf
  cases h2 : hasI s.data.toList [33, 61]
  rotate_left
  · obtain ⟨j, hj1, hj2, hj3⟩ := has_idx h2
    simp only [List.length_cons, List.length_nil, hl] at hj3
    rw [hj1] at hf2
    have Hf2 := hide hf2
    have HR : Hid (notIn s.data.toList = (2, ba (s.data.toList.take j), [ba (s.data.toList.drop (j + 2))])) := by
      show _ = _
      unfold notIn
      rw [h2, if_pos rfl, hj2]
    have He1 := hide (ext_take s j (by omega))
    have He2 := hide (ext_drop s (j + 2) (by omega))
    have hw := wrap_small ((j : Int) + 2) (by omega) (by omega)
    have hn1 : (j : Int) ≤ (s.size : Int) := by omega
    have hn2 : (j : Int) + 2 ≤ (s.size : Int) := by omega
    have hn3 : (0 : Int) ≤ (j : Int) + 2 := by omega
    clear hf2 hf3 h2 hj1 hj2 hl
    generalize notIn s.data.toList = T at *
    go_enter Tryd.func46, Tryd.ntmps46
    go_wp2_with fail
    refine (Hf1.out _).mono ?_
    rintro e w1 ⟨rfl, rfl⟩
    go_wp2_with fail
    refine (Hf2.out _).mono ?_
    rintro e w1 ⟨rfl, rfl⟩
    go_wp2
    go_region
    go_wp2
    refine bodyPost_ret (v := .agg #[.int .i64 2, .string (s.extract 0 j), .slice (some ⟨w.heap.size + 1, 0, none⟩) 1 1]) ?_ rfl ?_
    · simp [results, Tryd.results46, go_sem]
    · rw [HR.out]
      refine ⟨_, by rw [He1.out], ?_, ?_⟩
      · show World.ownsRow _ _ _ _ _ 1 (strVs [ba (s.data.toList.drop (j + 2))])
        rw [← He2.out]
        exact lit_own _ _ _ _ (by simp) (by omega)
      · exact ((((Below.refl _ _).alloc (by simp) _).alloc (by simp) _)).drew
  cases h3 : hasI s.data.toList [61]
  rotate_left
  · rw [has_no h2] at hf2
    have Hf2 := hide hf2
    obtain ⟨j, hj1, hj2, hj3⟩ := has_idx h3
    simp only [List.length_cons, List.length_nil, hl] at hj3
    rw [hj1] at hf3
    have Hf3 := hide hf3
    have HR : Hid (notIn s.data.toList = (1, ba (s.data.toList.take j), [ba (s.data.toList.drop (j + 1))])) := by
      show _ = _
      unfold notIn
      rw [h2, if_neg (by simp), h3, if_pos rfl, hj2]
    have He1 := hide (ext_take s j (by omega))
    have He2 := hide (ext_drop s (j + 1) (by omega))
    have hw := wrap_small ((j : Int) + 1) (by omega) (by omega)
    have hn1 : (j : Int) ≤ (s.size : Int) := by omega
    have hn2 : (j : Int) + 1 ≤ (s.size : Int) := by omega
    have hn3 : (0 : Int) ≤ (j : Int) + 1 := by omega
    clear hf2 hf3 h2 hj1 hj2 hl h3
    generalize notIn s.data.toList = T at *
    go_enter Tryd.func46, Tryd.ntmps46
    go_wp2_with fail
    refine (Hf1.out _).mono ?_
    rintro e w1 ⟨rfl, rfl⟩
    go_wp2_with fail
    refine (Hf2.out _).mono ?_
    rintro e w1 ⟨rfl, rfl⟩
    go_wp2_with fail
    refine (Hf3.out _).mono ?_
    rintro e w1 ⟨rfl, rfl⟩
    go_wp2
    go_region
    go_wp2
    refine bodyPost_ret (v := .agg #[.int .i64 1, .string (s.extract 0 j), .slice (some ⟨w.heap.size + 1, 0, none⟩) 1 1]) ?_ rfl ?_
    · simp [results, Tryd.results46, go_sem]
    · rw [HR.out]
      refine ⟨_, by rw [He1.out], ?_, ?_⟩
      · show World.ownsRow _ _ _ _ _ 1 (strVs [ba (s.data.toList.drop (j + 1))])
        rw [← He2.out]
        exact lit_own _ _ _ _ (by simp) (by omega)
      · exact ((((Below.refl _ _).alloc (by simp) _).alloc (by simp) _)).drew
  rw [has_no h2] at hf2
  rw [has_no h3] at hf3
  have Hf2 := hide hf2
  have Hf3 := hide hf3
  by_cases hz : 0 < s.size
  · have hzi : (0 : Int) < (s.size : Int) := by omega
    have hzi1 : (1 : Int) ≤ (s.size : Int) := by omega
    cases hq0 : (((s[0]'hz).toNat : Int) == 33)
    · have HR : Hid (notIn s.data.toList = (4, ba s.data.toList, [])) := by
        show _ = _
        unfold notIn
        rw [h2, if_neg (by simp), h3, if_neg (by simp), if_neg (fun h => by rw [(head_byte s hz).2 h] at hq0; cases hq0)]
      clear hf2 hf3 h2 h3 hl
      generalize notIn s.data.toList = T at *
      go_enter Tryd.func46, Tryd.ntmps46
      go_wp2_with fail
      refine (Hf1.out _).mono ?_
      rintro e w1 ⟨rfl, rfl⟩
      go_wp2_with fail
      refine (Hf2.out _).mono ?_
      rintro e w1 ⟨rfl, rfl⟩
      go_wp2_with fail
      refine (Hf3.out _).mono ?_
      rintro e w1 ⟨rfl, rfl⟩
      go_wp2
      refine bodyPost_ret (v := .agg #[.int .i64 4, .string s, .slice none 0 0]) ?_ rfl ?_
      · simp [results, Tryd.results46, go_sem]
      · rw [HR.out]
        exact ⟨_, rfl, nil_own _ _, (Below.refl _ _).alloc (by simp) _⟩
    · have HR : Hid (notIn s.data.toList = (5, ba s.data.toList.tail, [])) := by
        show _ = _
        unfold notIn
        rw [h2, if_neg (by simp), h3, if_neg (by simp), if_pos ((head_byte s hz).1 hq0)]
      have He1 : Hid (s.extract 1 s.size = ba s.data.toList.tail) := by show _ = _; rw [ext_drop s 1 (by omega), List.drop_one]
      clear hf2 hf3 h2 h3 hl
      generalize notIn s.data.toList = T at *
      go_enter Tryd.func46, Tryd.ntmps46
      go_wp2_with fail
      refine (Hf1.out _).mono ?_
      rintro e w1 ⟨rfl, rfl⟩
      go_wp2_with fail
      refine (Hf2.out _).mono ?_
      rintro e w1 ⟨rfl, rfl⟩
      go_wp2_with fail
      refine (Hf3.out _).mono ?_
      rintro e w1 ⟨rfl, rfl⟩
      go_wp2
      refine bodyPost_ret (v := .agg #[.int .i64 5, .string (s.extract 1 s.size), .slice none 0 0]) ?_ rfl ?_
      · simp [results, Tryd.results46, go_sem]
      · rw [HR.out]
        exact ⟨_, by rw [He1.out], nil_own _ _, (Below.refl _ _).alloc (by simp) _⟩
  · omega
set_option maxRecDepth 100000 in
set_option maxHeartbeats 1600000 in
theorem sread_any (s : ByteArray) (w : World) (hs : s.size ≤ 1048576) : Calls Tryd.prog 46 #[.string s] w (readPost w (readS s.data.toList)) := by
  have hl : s.data.toList.length = s.size := by simp
  have hf := fun t wx h1 h5 => find_any s t wx hs h1 h5
  have Hf := hide hf
  clear hf
  cases h1 : hasI s.data.toList pIn
  · have hf1 := fun wx => Hf.out (ba pIn) wx (by decide) (by decide)
    rw [show (ba pIn).data.toList = pIn from rfl, has_no h1] at hf1
    have e : readS s.data.toList = notIn s.data.toList := by unfold readS; rw [h1]; rfl
    rw [e]
    exact sread_a s w hs (-1) (by omega) hf1
  · have hI : ∃ i : Nat, Lib.index s.data.toList pIn = i ∧ cutI s.data.toList pIn = i ∧ i + 5 ≤ s.size := by
      have h1' := h1
      unfold hasI at h1'
      rw [decide_eq_true_eq] at h1'
      have hr := Lib.index_room _ _ h1'
      have h5 : pIn.length = 5 := rfl
      refine ⟨(Lib.index s.data.toList pIn).toNat, by omega, rfl, by omega⟩
    obtain ⟨i, hi1, hi2, hi5⟩ := hI
    have h0s : s.size - 1 < s.size := by omega
    have hlast := last_byte s h0s
    have hsl := shut_last h1
    cases h2 : shutB (restOf s.data.toList)
    · have hq : (((s[s.size - 1]'h0s).toNat : Int) == 41) = false := by
        cases hb : (((s[s.size - 1]'h0s).toNat : Int) == 41)
        · rfl
        · rw [hsl.2 (hlast.1 hb)] at h2; cases h2
      have hf1 := fun wx => Hf.out (ba pIn) wx (by decide) (by decide)
      rw [show (ba pIn).data.toList = pIn from rfl, hi1] at hf1
      have e : readS s.data.toList = notIn s.data.toList := by unfold readS; rw [h1, h2]; rfl
      rw [e]
      exact sread_b s w hs i (by omega) h0s hq (by omega) hf1
    · have hq : (((s[s.size - 1]'h0s).toNat : Int) == 41) = true := hlast.2 (hsl.1 h2)
      have hf1 := fun wx => Hf.out (ba pIn) wx (by decide) (by decide)
      rw [show (ba pIn).data.toList = pIn from rfl, hi1] at hf1
      have Hf1 := hide hf1
      have hrl : (restOf s.data.toList).length = s.size - (i + 5) := by unfold restOf; rw [hi2, List.length_drop, hl]
      have hi6 : i + 5 + 1 ≤ s.size := by
        have hsp := shut_parts h2
        have := congrArg List.length hsp
        rw [List.length_append, List.length_singleton] at this
        omega
      have He1 : Hid (s.extract 0 i = ba (s.data.toList.take i)) := by
        show _ = _
        rw [extract_ba s 0 i (by omega) (by omega)]; rfl
      have He2 : Hid (s.extract (i + 5) (s.size - 1) = ba (restOf s.data.toList).dropLast) := by
        show _ = _
        rw [extract_ba s (i + 5) (s.size - 1) (by omega) (by omega)]
        unfold restOf
        rw [hi2, List.dropLast_eq_take, List.length_drop, hl]
        congr 2
        omega
      have HR : Hid (readS s.data.toList = (3, ba (s.data.toList.take i), (pcs 32 (restOf s.data.toList).dropLast).map ba)) := by
        show _ = _
        unfold readS
        rw [h1, h2, Bool.and_self, if_pos rfl, hi2]
      have hds : (ba (restOf s.data.toList).dropLast).size ≤ 1048576 := by show (restOf s.data.toList).dropLast.length ≤ _; rw [List.length_dropLast]; omega
      have hW0 := fun (x : ByteArray) (wx : World) (hx : x = ba (restOf s.data.toList).dropLast) (hb : Below (w.alloc (.cells #[.int .i64 0, .string ⟨#[]⟩, .slice none 0 0] 54)).heap.size (w.alloc (.cells #[.int .i64 0, .string ⟨#[]⟩, .slice none 0 0] 54)) wx) =>
        split_post x (restOf s.data.toList).dropLast wx hx hds hb
      have Hsp := hide hW0
      generalize restOf s.data.toList = r at *
      clear hf1 hlast hsl hW0 hrl hds h1 h2
      generalize readS s.data.toList = T at *
      have hia : ((i : Int) + 5) ≤ (s.size : Int) - 1 := by omega
      have hwr1 : IntKind.i64.wrap ((i : Int) + 5) = (i : Int) + 5 := wrap_small _ (by omega) (by omega)
      have hwr2 : IntKind.i64.wrap ((s.size : Int) - 1) = (s.size : Int) - 1 := wrap_small _ (by omega) (by omega)
      have hsl2 : ∀ W : World, (Instr.slice 9 (.string s) (some (.int .i64 ((i : Int) + 5))) (some (.int .i64 ((s.size : Int) - 1))) none).run Tryd.prog W = .ok (.string (s.extract (i + 5) (s.size - 1))) W := fun W => by
        rw [run_slice_string W 9 s .i64 .i64 _ _ Tryd.underlying9 (by omega) (by omega) (by omega)]
        rw [show ((i : Int) + 5).toNat = i + 5 from by omega, show ((s.size : Int) - 1).toNat = s.size - 1 from by omega]
      have hia0 : (0 : Int) ≤ (s.size : Int) - 1 := by omega
      have hia1 : (s.size : Int) - 1 ≤ (s.size : Int) := by omega
      have hia2 : (i : Int) ≤ (s.size : Int) := by omega
      have hia3 : s.size - 1 ≤ s.size := by omega
      have hia4 : 1 ≤ s.size := by omega
      have hin : i ≤ s.size := by omega
      have hin2 : i + 5 ≤ s.size - 1 := by omega
      go_enter Tryd.func46, Tryd.ntmps46
      go_wp2_with fail
      refine (Hf1.out _).mono ?_
      rintro e w1 ⟨rfl, rfl⟩
      go_wp2
      go_region_with (go_at_call 45; refine (Hsp.out _ _ (by exact He2.out) (by repeat (first | exact Below.refl _ _ | refine Below.drew ?_ | refine below_drewN ?_ _))).mono ?_; rintro e w2 ⟨g, cap, rfl, ho2, hb2⟩; obtain ⟨hc2, hz2⟩ := bcellx hb2.out)
      all_goals
        go_wp2
        refine bodyPost_ret (v := .agg #[.int .i64 3, .string (s.extract 0 i), .slice (some ⟨g, 0, none⟩) (pcs 32 r.dropLast).length cap]) ?_ rfl ?_
        · simp [results, Tryd.results46, go_sem, hc2]
        · rw [HR.out]
          refine ⟨_, by rw [He1.out], ?_, ?_⟩
          · have h3 := owns_mono (owns_at_set (owns_at_set (owns_at_set ho2.out (p := ⟨w.heap.size, 0, none⟩) (u := .int .i64 3) (by simp)) (p := ⟨w.heap.size, 1, none⟩) (u := .string (s.extract 0 i)) (by simp)) (p := ⟨w.heap.size, 2, none⟩) (u := .slice (some ⟨g, 0, none⟩) (pcs 32 r.dropLast).length cap) (by simp)) (B' := w.heap.size) (by simp)
            show World.ownsRow _ _ _ _ _ ((pcs 32 r.dropLast).map ba).length (strVs ((pcs 32 r.dropLast).map ba))
            rw [List.length_map, strVs_ba]
            exact h3
          · exact ((((Below.refl _ _).alloc (by simp) _).trans (hb2.out.mono (by simp))).setCell (by simp) _).setCell (by simp) _ |>.setCell (by simp) _
end Go.Proofs.YtbadjopaocindaaDoor
