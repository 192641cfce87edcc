/- spec.LabelSet: what it answers, and the walk. -/
import Derived.Test.YtbihhcbbjdjhcaaLabs7
import Derived.Test.YtbihhcbbjdjhcaaEx
import Derived.Deep.AppendLies
namespace Go.Proofs.Ytbihhcbbjdjhcaa
open Go.RowKit Go.BigFrame
set_option linter.unusedVariables false

/-- one label of the list is passed: the new one goes ahead of the first that is not below it; one of its key goes -/
def setStep (key val : ByteArray) (o : List (ByteArray × ByteArray) × Bool) (x : ByteArray × ByteArray) : List (ByteArray × ByteArray) × Bool :=
  let q := if !o.2 && !(Op.bytesLess x.1.toList key.toList) then (o.1 ++ [(key, val)], true) else o
  if x.1 = key then q else (q.1 ++ [x], q.2)
def setTo (key val : ByteArray) (ls : List (ByteArray × ByteArray)) : List (ByteArray × ByteArray) × Bool := ls.foldl (setStep key val) ([], false)
def setAll (key val : ByteArray) (ls : List (ByteArray × ByteArray)) : List (ByteArray × ByteArray) := if (setTo key val ls).2 then (setTo key val ls).1 else (setTo key val ls).1 ++ [(key, val)]
/-- when it goes -/
def setOk (ls : List (ByteArray × ByteArray)) (key val : ByteArray) : Bool := labelsB ls && nameB key && nameB val && (getH ls key || !(ls.length == 8))
def setR (ls : List (ByteArray × ByteArray)) (key val : ByteArray) : List (ByteArray × ByteArray) × Bool := if setOk ls key val then (setAll key val ls, true) else (ls, false)
theorem setTo_succ {ls : List (ByteArray × ByteArray)} {k : Nat} (key val : ByteArray) (h : k < ls.length) : setTo key val (ls.take (k + 1)) = setStep key val (setTo key val (ls.take k)) (keyAt ls k, valAt ls k) := by
  unfold setTo
  rw [take_succ_at ls k h, List.foldl_append]; rfl
theorem setTo_len (key val : ByteArray) : ∀ (ls : List (ByteArray × ByteArray)) (o : List (ByteArray × ByteArray) × Bool), (ls.foldl (setStep key val) o).1.length ≤ o.1.length + 2 * ls.length
  | [], o => by simp
  | x :: r, o => by
    have ih := setTo_len key val r (setStep key val o x)
    have h : (setStep key val o x).1.length ≤ o.1.length + 2 := by
      unfold setStep
      simp only
      split <;> split <;> simp
    simp only [List.foldl_cons, List.length_cons]
    omega
theorem rows_add {w : World} {b off : Nat} {ls : List (ByteArray × ByteArray)} (h : labsAt w b off ls) : ∀ j u, (flat ls)[j]? = some u → w.cell? ((⟨b, off, none⟩ : Addr).add j) = some u := by
  intro j u hj
  have hlt : j < ls.length * 2 := by rw [← flat_length]; exact (List.getElem?_eq_some_iff.1 hj).1
  have hi : j / 2 < ls.length := by omega
  have hf := flat_get ls (j / 2) hi
  rw [Go.WideShapes.add_plain]
  by_cases e : j % 2 = 0
  · have ej : j = j / 2 * 2 := by omega
    rw [ej] at hj ⊢
    rw [hf.1] at hj
    rw [← hj]
    have e2 : j / 2 * 2 / 2 = j / 2 := by omega
    exact (h (j / 2) hi).1
  · have ej : j = j / 2 * 2 + 1 := by omega
    rw [ej] at hj ⊢
    rw [hf.2] at hj
    rw [← hj]
    exact (h (j / 2) hi).2
theorem flat_cell (ls : List (ByteArray × ByteArray)) : ∀ u ∈ flat ls, u.oneCell' = true := by
  intro u hu
  unfold flat at hu
  obtain ⟨p, _, hp⟩ := List.mem_flatMap.1 hu
  simp at hp
  rcases hp with rfl | rfl <;> rfl

set_option maxHeartbeats 800000 in
theorem copyL_any (b off cap : Nat) (ls : List (ByteArray × ByteArray)) (w : World) (hl : ls.length ≤ 1048576) (hrow : labsAt w b off ls) :
    Calls Try.prog 39 #[.slice (some ⟨b, off, none⟩) ls.length cap] w fun e w' => ∃ g cap', e = .returned (.slice (some ⟨g, 0, none⟩) ls.length cap') ∧
      w'.ownsRow w.heap.size 43 2 (.slice (some ⟨g, 0, none⟩) ls.length cap') ls.length (flat ls) ∧ Below w.heap.size w w' := by
  obtain ⟨i0, hi, hz0, hz1, hz2⟩ := info_parts Try.info44
  have hnews := rows_add (w := w.alloc (.cells #[] 43)) (hrow.below ((Below.refl _ _).alloc (Nat.le_refl _) _))
  have Hn := hide hnews
  have hfl := flat_length ls
  have Hfl := hide hfl
  have hown0 := World.ownsRow_lit (e := 43) (size := 2) w #[] 0 (Nat.le_refl w.heap.size) (by decide) rfl
  have Ho := hide hown0
  clear hnews hfl hown0 hrow
  go_enter Try.func39, Try.ntmps39
  go_wp2_with (at_builtin; refine wpList_append_own _ rfl _ _ 25 rfl w.heap.size 43 i0 _ 2 32 Try.underlying25 hi hz0 hz1 hz2 rfl (by decide) _ _ _ rfl Ho.out ⟨b, off, none⟩ ls.length cap (flat ls) rfl Hfl.out Hn.out (flat_cell ls) (by unfold maxLen; omega) (by omega) (by simp) ?_; intro v' w3 hown' hgrow3 hnil3)
  have hv : ∃ g cap', v' = .slice (some ⟨g, 0, none⟩) ls.length cap' := by
    rcases hown'.2 with ⟨h, _⟩ | ⟨g, cp, cur, h, _⟩
    · have := hnil3.1 h; cases this.1
    · exact ⟨g, cp, by rw [h, Nat.zero_add]⟩
  obtain ⟨g, cp, rfl⟩ := hv
  have Hown := hide hown'
  have Hg := hide hgrow3
  clear hown' hgrow3 hnil3
  go_wp2
  go_ret
  exact ⟨g, cp, rfl, by have := Hown.out; rw [Nat.zero_add] at this; exact this, Below.grown ((Below.refl _ _).alloc (Nat.le_refl _) _) Hg.out (by simp) (fun j hj => by cases hj; exact Nat.le_refl _)⟩

set_option maxRecDepth 1000000 in
set_option maxHeartbeats 1600000 in
/-- the rows behind the tests: the loop over what is there -/
theorem slabelSet_yes (b off cap : Nat) (ls : List (ByteArray × ByteArray)) (key val : ByteArray) (w : World) (hl : ls.length ≤ 1048576) (hz : okSizes ls) (hkz : key.size ≤ maxLen) (hvz : val.size ≤ maxLen) (hrow : labsAt w b off ls) (hok : setOk ls key val = true) :
    Calls Try.prog 35 #[.slice (some ⟨b, off, none⟩) ls.length cap, .string key, .string val] w fun e w' => ∃ g cap', e = .returned (.tuple #[.slice (some ⟨g, 0, none⟩) (setAll key val ls).length cap', .bool true]) ∧
      w'.ownsRow w.heap.size 43 2 (.slice (some ⟨g, 0, none⟩) (setAll key val ls).length cap') (setAll key val ls).length (flat (setAll key val ls)) ∧ Below w.heap.size w w' := by
  obtain ⟨i0, hi, hz0, hz1, hz2⟩ := info_parts Try.info44
  have hok4 : labelsB ls = true ∧ nameB key = true ∧ nameB val = true ∧ (getH ls key = true ∨ getH ls key = false ∧ ((ls.length : Int) == 8) = false) := by
    unfold setOk at hok
    simp only [Bool.and_eq_true, Bool.or_eq_true, Bool.not_eq_true'] at hok
    obtain ⟨⟨⟨h1, h2⟩, h3⟩, h4⟩ := hok
    refine ⟨h1, h2, h3, ?_⟩
    cases hg : getH ls key with
    | true => exact .inl rfl
    | false =>
      right
      rcases h4 with h4 | h4
      · rw [hg] at h4; cases h4
      · exact ⟨rfl, by rw [beq_eq_false_iff_ne] at h4 ⊢; omega⟩
  have hlm : ls.length ≤ maxLen := by unfold maxLen; omega
  have hlab := fun a cap wx => slabelsOk_any a cap ls wx hlm hz
  have hkey := fun wx => sname_any key wx hkz
  have hval := fun wx => sname_any val wx hvz
  have hget := fun a cap wx => slabelGet_any a cap ls key wx hlm
  rw [hok4.1] at hlab
  rw [hok4.2.1] at hkey
  rw [hok4.2.2.1] at hval
  have Hrow : Hid (rowOf w (some ⟨b, off, none⟩) ls) := fun _ => ⟨b, off, rfl, hrow⟩
  have Hlab := hide hlab
  have Hkey := hide hkey
  have Hval := hide hval
  have Hget := hide hget
  have Hcase := hide hok4.2.2.2
  have Hall : Hid (setAll key val ls = if (setTo key val ls).2 then (setTo key val ls).1 else (setTo key val ls).1 ++ [(key, val)]) := rfl
  have Hat := hide hrow
  clear hlab hkey hval hget hok4 hrow hok
  generalize getH ls key = hg at *
  generalize getV ls key = gv at *
  generalize setAll key val ls = R at *
  rcases Hcase.out with hc | ⟨hc, hc8⟩
  all_goals
    subst hc
    go_enter Try.func35, Try.ntmps35
    go_wp2_with fail
    refine (Hget.out _ _ _ Hrow.out).mono ?_
    rintro e w1 ⟨rfl, hb1⟩
    have Hb1 := hide hb1
    have Hrow1 := hide (Hrow.out.below hb1)
    clear hb1
    go_wp2_with fail
    refine (Hlab.out _ _ _ Hrow1.out).mono ?_
    rintro e w2 ⟨rfl, hn2⟩
    have Hb2 : Hid (Below w.heap.size w w2) := by obtain ⟨n, rfl⟩ := hn2; exact below_drewN Hb1.out n
    clear hn2
    go_wp2_with fail
    refine (Hkey.out _).mono ?_
    rintro e w3 ⟨rfl, rfl⟩
    go_wp2_with fail
    refine (Hval.out _).mono ?_
    rintro e w4 ⟨rfl, rfl⟩
    clear Hget Hlab Hkey Hval Hrow Hrow1 Hb1 Hcase
    have hws := Hb2.out.size
    go_wp2
    go_loopw [10, 11, 12] (fun v pv i wr => ∃ (g cap k : Nat) (D : List (ByteArray × ByteArray)) (p : Bool), k ≤ ls.length ∧ i = .int .i64 k ∧ pv = .bool p ∧ v = .slice (some ⟨g, 0, none⟩) D.length cap ∧ D.length ≤ 2 * k ∧
        Hid (wr.ownsRow w.heap.size 43 2 (.slice (some ⟨g, 0, none⟩) D.length cap) D.length (flat D)) ∧ Hid (setTo key val (ls.take k) = (D, p)) ∧ Hid (Below w.heap.size w wr)) (fun _ _ i _ => ls.length - (intOf i).toNat)
    case atStart => exact ⟨_, _, 0, [], false, Nat.zero_le _, rfl, rfl, rfl, Nat.zero_le _, World.ownsRow_lit _ #[] 0 hws (by decide) rfl, rfl, Hb2.out.alloc hws _⟩
    case round =>
      obtain ⟨g, cap, k, D, p, hk, rfl, rfl, rfl, hD, How, Hst, Hbw⟩ := hrel
      clear Hb2 hws
      have hws := Hbw.out.size
      by_cases hlt : k < ls.length
      · have hbb : b < w.heap.size := World.block_lt_of_cell? _ _ (Hat.out k hlt).1
        have hcc := cellsOf_of Hat.out k hlt
        have Hc : Hid (∀ wx, Below w.heap.size w wx → wx.cell? ⟨b, off + k * 2, none⟩ = some (.string (keyAt ls k)) ∧ wx.cell? ⟨b, off + k * 2 + 1, none⟩ = some (.string (valAt ls k))) :=
          fun wx hx => ⟨(hx.cell (p := ⟨b, off + k * 2, none⟩) hbb).trans hcc.1, (hx.cell (p := ⟨b, off + k * 2 + 1, none⟩) hbb).trans hcc.2⟩
        have c0 := (Hc.out _ Hbw.out).1
        have c1 := (Hc.out _ Hbw.out).2
        have Hss := hide (setTo_succ key val hlt)
        have hbe := beq_str (keyAt ls k) key
        clear hcc
        generalize keyAt ls k = K at *
        generalize valAt ls k = V at *
        by_cases heq : K = key
        · rw [decide_eq_true heq] at hbe
          rcases Bool.eq_false_or_eq_true (Op.bytesLess K.toList key.toList) with hless | hless
          · cases p with
            | true =>
              have Hn : Hid (setTo key val (ls.take (k + 1)) = (D, true)) := by
                show _ = _
                rw [Hss.out, Hst.out]
                unfold setStep; simp only; rw [if_pos heq]; simp [hless]
              have hcap : ls.length ≤ 1048576 := hl
              clear heq
              go_wp2
              go_roundw
              case rel => exact ⟨g, cap, k + 1, D, true, by omega, by go_num, rfl, rfl, by omega, How, Hn, Hbw⟩
              case measure => simp [intOf]; omega
            | false =>
              have Hn : Hid (setTo key val (ls.take (k + 1)) = (D, false)) := by
                show _ = _
                rw [Hss.out, Hst.out]
                unfold setStep; simp only; rw [if_pos heq]; simp [hless]
              have hcap : ls.length ≤ 1048576 := hl
              clear heq
              go_wp2
              go_roundw
              case rel => exact ⟨g, cap, k + 1, D, false, by omega, by go_num, rfl, rfl, by omega, How, Hn, Hbw⟩
              case measure => simp [intOf]; omega
          · cases p with
            | true =>
              have Hn : Hid (setTo key val (ls.take (k + 1)) = (D, true)) := by
                show _ = _
                rw [Hss.out, Hst.out]
                unfold setStep; simp only; rw [if_pos heq]; simp [hless]
              have hcap : ls.length ≤ 1048576 := hl
              clear heq
              go_wp2
              go_roundw
              case rel => exact ⟨g, cap, k + 1, D, true, by omega, by go_num, rfl, rfl, by omega, How, Hn, Hbw⟩
              case measure => simp [intOf]; omega
            | false =>
              have Hn : Hid (setTo key val (ls.take (k + 1)) = (D ++ [(key, val)], true)) := by
                show _ = _
                rw [Hss.out, Hst.out]
                unfold setStep; simp only; rw [if_pos heq]; simp [hless]
              have hcap : ls.length ≤ 1048576 := hl
              clear heq
              go_wp2_with (first | (at_builtin; refine wpList_append_lies _ rfl (.tmp 61) (.tmp 65) 25 rfl w.heap.size 43 i0 _ 2 32 Try.underlying25 hi hz0 hz1 hz2 rfl (by decide) _ _ _ rfl (How.out.alloc _) ⟨wr.heap.size, 0, none⟩ 1 1 [.string key, .string val] rfl rfl (cell_two_at _ _ rfl _ _ _) (fun x hx => by simp at hx; rcases hx with rfl | rfl <;> rfl) (by decide) (by unfold maxLen; omega) (by omega) (by simp; omega) _ rfl ?_; intro g3 cap3 w3 hown3 hgrow3 hat3 hlt3; have Hb3 : Hid (Below w.heap.size w w3) := Below.grown (Hbw.out.alloc Hbw.out.size _) hgrow3 (by simp; omega) (fun j hj => (How.out.lt _ hj).1); have c3 := (Hc.out _ Hb3.out).1; have d3 := (Hc.out _ Hb3.out).2; have hsz3 := Hb3.out.size))
              go_roundw
              case rel => exact ⟨g3, cap3, k + 1, D ++ [(key, val)], true, by omega, by go_num, rfl, (by simp), (by simp; omega), (by show World.ownsRow _ _ _ _ _ _ _; rw [flat_snoc, List.length_append]; exact hown3), Hn, Hb3⟩
              case measure => simp [intOf]; omega
        · rw [decide_eq_false heq] at hbe
          rcases Bool.eq_false_or_eq_true (Op.bytesLess K.toList key.toList) with hless | hless
          · cases p with
            | true =>
              have Hn : Hid (setTo key val (ls.take (k + 1)) = (D ++ [(K, V)], true)) := by
                show _ = _
                rw [Hss.out, Hst.out]
                unfold setStep; simp only; rw [if_neg heq]; simp [hless]
              have hcap : ls.length ≤ 1048576 := hl
              clear heq
              go_wp2_with (first | (at_builtin; refine wpList_append_lies _ rfl (.tmp 74) (.tmp 79) 25 rfl w.heap.size 43 i0 _ 2 32 Try.underlying25 hi hz0 hz1 hz2 rfl (by decide) _ _ _ rfl (How.out.alloc _) ⟨wr.heap.size, 0, none⟩ 1 1 [.string K, .string V] rfl rfl (cell_two_at _ _ rfl _ _ _) (fun x hx => by simp at hx; rcases hx with rfl | rfl <;> rfl) (by decide) (by unfold maxLen; omega) (by omega) (by simp; omega) _ rfl ?_; intro g4 cap4 w4 hown4 hgrow4 hat4 hlt4; have Hb4 : Hid (Below w.heap.size w w4) := Below.grown (Hbw.out.alloc Hbw.out.size _) hgrow4 (by simp; omega) (fun j hj => (How.out.lt _ hj).1); have c4 := (Hc.out _ Hb4.out).1; have d4 := (Hc.out _ Hb4.out).2; have hsz4 := Hb4.out.size))
              go_roundw
              case rel => exact ⟨g4, cap4, k + 1, D ++ [(K, V)], true, by omega, by go_num, rfl, (by simp), (by simp; omega), (by show World.ownsRow _ _ _ _ _ _ _; rw [flat_snoc, List.length_append]; exact hown4), Hn, Hb4⟩
              case measure => simp [intOf]; omega
            | false =>
              have Hn : Hid (setTo key val (ls.take (k + 1)) = (D ++ [(K, V)], false)) := by
                show _ = _
                rw [Hss.out, Hst.out]
                unfold setStep; simp only; rw [if_neg heq]; simp [hless]
              have hcap : ls.length ≤ 1048576 := hl
              clear heq
              go_wp2_with (first | (at_builtin; refine wpList_append_lies _ rfl (.tmp 74) (.tmp 79) 25 rfl w.heap.size 43 i0 _ 2 32 Try.underlying25 hi hz0 hz1 hz2 rfl (by decide) _ _ _ rfl (How.out.alloc _) ⟨wr.heap.size, 0, none⟩ 1 1 [.string K, .string V] rfl rfl (cell_two_at _ _ rfl _ _ _) (fun x hx => by simp at hx; rcases hx with rfl | rfl <;> rfl) (by decide) (by unfold maxLen; omega) (by omega) (by simp; omega) _ rfl ?_; intro g4 cap4 w4 hown4 hgrow4 hat4 hlt4; have Hb4 : Hid (Below w.heap.size w w4) := Below.grown (Hbw.out.alloc Hbw.out.size _) hgrow4 (by simp; omega) (fun j hj => (How.out.lt _ hj).1); have c4 := (Hc.out _ Hb4.out).1; have d4 := (Hc.out _ Hb4.out).2; have hsz4 := Hb4.out.size))
              go_roundw
              case rel => exact ⟨g4, cap4, k + 1, D ++ [(K, V)], false, by omega, by go_num, rfl, (by simp), (by simp; omega), (by show World.ownsRow _ _ _ _ _ _ _; rw [flat_snoc, List.length_append]; exact hown4), Hn, Hb4⟩
              case measure => simp [intOf]; omega
          · cases p with
            | true =>
              have Hn : Hid (setTo key val (ls.take (k + 1)) = (D ++ [(K, V)], true)) := by
                show _ = _
                rw [Hss.out, Hst.out]
                unfold setStep; simp only; rw [if_neg heq]; simp [hless]
              have hcap : ls.length ≤ 1048576 := hl
              clear heq
              go_wp2_with (first | (at_builtin; refine wpList_append_lies _ rfl (.tmp 74) (.tmp 79) 25 rfl w.heap.size 43 i0 _ 2 32 Try.underlying25 hi hz0 hz1 hz2 rfl (by decide) _ _ _ rfl (How.out.alloc _) ⟨wr.heap.size, 0, none⟩ 1 1 [.string K, .string V] rfl rfl (cell_two_at _ _ rfl _ _ _) (fun x hx => by simp at hx; rcases hx with rfl | rfl <;> rfl) (by decide) (by unfold maxLen; omega) (by omega) (by simp; omega) _ rfl ?_; intro g4 cap4 w4 hown4 hgrow4 hat4 hlt4; have Hb4 : Hid (Below w.heap.size w w4) := Below.grown (Hbw.out.alloc Hbw.out.size _) hgrow4 (by simp; omega) (fun j hj => (How.out.lt _ hj).1); have c4 := (Hc.out _ Hb4.out).1; have d4 := (Hc.out _ Hb4.out).2; have hsz4 := Hb4.out.size))
              go_roundw
              case rel => exact ⟨g4, cap4, k + 1, D ++ [(K, V)], true, by omega, by go_num, rfl, (by simp), (by simp; omega), (by show World.ownsRow _ _ _ _ _ _ _; rw [flat_snoc, List.length_append]; exact hown4), Hn, Hb4⟩
              case measure => simp [intOf]; omega
            | false =>
              have Hn : Hid (setTo key val (ls.take (k + 1)) = ((D ++ [(key, val)]) ++ [(K, V)], true)) := by
                show _ = _
                rw [Hss.out, Hst.out]
                unfold setStep; simp only; rw [if_neg heq]; simp [hless]
              have hcap : ls.length ≤ 1048576 := hl
              clear heq
              go_wp2_with (first | (at_builtin; refine wpList_append_lies _ rfl (.tmp 61) (.tmp 65) 25 rfl w.heap.size 43 i0 _ 2 32 Try.underlying25 hi hz0 hz1 hz2 rfl (by decide) _ _ _ rfl (How.out.alloc _) ⟨wr.heap.size, 0, none⟩ 1 1 [.string key, .string val] rfl rfl (cell_two_at _ _ rfl _ _ _) (fun x hx => by simp at hx; rcases hx with rfl | rfl <;> rfl) (by decide) (by unfold maxLen; omega) (by omega) (by simp; omega) _ rfl ?_; intro g3 cap3 w3 hown3 hgrow3 hat3 hlt3; have Hb3 : Hid (Below w.heap.size w w3) := Below.grown (Hbw.out.alloc Hbw.out.size _) hgrow3 (by simp; omega) (fun j hj => (How.out.lt _ hj).1); have c3 := (Hc.out _ Hb3.out).1; have d3 := (Hc.out _ Hb3.out).2; have hsz3 := Hb3.out.size) | (at_builtin; refine wpList_append_lies _ rfl (.tmp 74) (.tmp 79) 25 rfl w.heap.size 43 i0 _ 2 32 Try.underlying25 hi hz0 hz1 hz2 rfl (by decide) _ _ _ rfl (hown3.alloc _) ⟨w3.heap.size, 0, none⟩ 1 1 [.string K, .string V] rfl rfl (cell_two_at _ _ rfl _ _ _) (fun x hx => by simp at hx; rcases hx with rfl | rfl <;> rfl) (by decide) (by unfold maxLen; omega) (by omega) (by simp; omega) _ rfl ?_; intro g4 cap4 w4 hown4 hgrow4 hat4 hlt4; have Hb4 : Hid (Below w.heap.size w w4) := Below.grown (Hb3.out.alloc Hb3.out.size _) hgrow4 (by simp; omega) (fun j hj => (hown3.lt _ hj).1); have c4 := (Hc.out _ Hb4.out).1; have d4 := (Hc.out _ Hb4.out).2; have hsz4 := Hb4.out.size))
              go_roundw
              case rel => exact ⟨g4, cap4, k + 1, (D ++ [(key, val)]) ++ [(K, V)], true, by omega, by go_num, rfl, (by simp), (by simp; omega), (by show World.ownsRow _ _ _ _ _ _ _; rw [flat_snoc, flat_snoc, List.length_append, List.length_append]; exact hown4), Hn, Hb4⟩
              case measure => simp [intOf]; omega
      · have e : k = ls.length := by omega
        subst e
        have Hst' : Hid (setTo key val ls = (D, p)) := by have := Hst.out; rw [List.take_length] at this; exact this
        clear Hst
        cases p with
        | true =>
          have HR : Hid (R = D) := by show _ = _; rw [Hall.out, Hst'.out]; rfl
          clear Hst' Hat
          go_wp2
          go_ret2
          rw [HR.out]
          exact ⟨g, cap, rfl, How.out, Hbw.out⟩
        | false =>
          have HR : Hid (R = D ++ [(key, val)]) := by show _ = _; rw [Hall.out, Hst'.out]; rfl
          clear Hst' Hat
          go_wp2_with (at_builtin; refine wpList_append_lies _ rfl (.tmp 83) (.tmp 87) 25 rfl w.heap.size 43 i0 _ 2 32 Try.underlying25 hi hz0 hz1 hz2 rfl (by decide) _ _ _ rfl (How.out.alloc _) ⟨wr.heap.size, 0, none⟩ 1 1 [.string key, .string val] rfl rfl (cell_two_at _ _ rfl _ _ _) (fun x hx => by simp at hx; rcases hx with rfl | rfl <;> rfl) (by decide) (by unfold maxLen; omega) (by omega) (by simp; omega) _ rfl ?_; intro g3 cap3 w3 hown3 hgrow3 hat3 hlt3; have Hb3 : Hid (Below w.heap.size w w3) := Below.grown (Hbw.out.alloc Hbw.out.size _) hgrow3 (by simp; omega) (fun j hj => (How.out.lt _ hj).1); have hsz3 := Hb3.out.size)
          go_ret2
          rw [HR.out, flat_snoc, List.length_append]
          exact ⟨g3, cap3, rfl, hown3, Hb3.out⟩

theorem owns_base {w : World} {base base' g n cap : Nat} {e : TypeId} {size : Nat} {xs : List Value} (h : w.ownsRow base e size (.slice (some ⟨g, 0, none⟩) n cap) n xs) (hb : base' ≤ base) :
    w.ownsRow base' e size (.slice (some ⟨g, 0, none⟩) n cap) n xs := by
  obtain ⟨h1, h2⟩ := h
  rcases h2 with h2 | ⟨g', cap', cur, h, hg, r⟩
  · exact ⟨h1, .inl h2⟩
  · exact ⟨h1, .inr ⟨g', cap', cur, h, Nat.le_trans hb hg, r⟩⟩
set_option maxRecDepth 1000000 in
set_option maxHeartbeats 1600000 in
/-- where a test says no: a copy of what came in -/
theorem slabelSet_no (b off cap : Nat) (ls : List (ByteArray × ByteArray)) (key val : ByteArray) (w : World) (hl : ls.length ≤ 1048576) (hz : okSizes ls) (hkz : key.size ≤ maxLen) (hvz : val.size ≤ maxLen) (hrow : labsAt w b off ls) (hok : setOk ls key val = false) :
    Calls Try.prog 35 #[.slice (some ⟨b, off, none⟩) ls.length cap, .string key, .string val] w fun e w' => ∃ g cap', e = .returned (.tuple #[.slice (some ⟨g, 0, none⟩) ls.length cap', .bool false]) ∧
      w'.ownsRow w.heap.size 43 2 (.slice (some ⟨g, 0, none⟩) ls.length cap') ls.length (flat ls) ∧ Below w.heap.size w w' := by
  have hok4 : labelsB ls = false ∨ labelsB ls = true ∧ nameB key = false ∨ labelsB ls = true ∧ nameB key = true ∧ nameB val = false ∨ labelsB ls = true ∧ nameB key = true ∧ nameB val = true ∧ getH ls key = false ∧ ((ls.length : Int) == 8) = true := by
    unfold setOk at hok
    cases h1 : labelsB ls with
    | false => exact .inl rfl
    | true =>
      cases h2 : nameB key with
      | false => exact .inr (.inl ⟨rfl, rfl⟩)
      | true =>
        cases h3 : nameB val with
        | false => exact .inr (.inr (.inl ⟨rfl, rfl, rfl⟩))
        | true =>
          rw [h1, h2, h3] at hok
          simp only [Bool.true_and, Bool.or_eq_false_iff, Bool.not_eq_false'] at hok
          exact .inr (.inr (.inr ⟨rfl, rfl, rfl, hok.1, by have := hok.2; rw [beq_iff_eq] at this ⊢; omega⟩))
  have hlm : ls.length ≤ maxLen := by unfold maxLen; omega
  have hlab := fun a cap wx => slabelsOk_any a cap ls wx hlm hz
  have hkey := fun wx => sname_any key wx hkz
  have hval := fun wx => sname_any val wx hvz
  have hget := fun a cap wx => slabelGet_any a cap ls key wx hlm
  have Hrow : Hid (rowOf w (some ⟨b, off, none⟩) ls) := fun _ => ⟨b, off, rfl, hrow⟩
  have Hat := hide hrow
  clear hrow hok
  generalize getH ls key = hg at *
  generalize getV ls key = gv at *
  rcases hok4 with h1 | ⟨h1, h2⟩ | ⟨h1, h2, h3⟩ | ⟨h1, h2, h3, h4, h5⟩
  · rw [h1] at hlab
    have Hlab := hide hlab
    have Hget := hide hget
    clear hlab hkey hval hget h1
    go_enter Try.func35, Try.ntmps35
    go_wp2_with fail
    refine (Hget.out _ _ _ Hrow.out).mono ?_
    rintro e w1 ⟨rfl, hb1⟩
    have Hb1 := hide hb1
    have Hrow1 := hide (Hrow.out.below hb1)
    clear hb1
    go_wp2_with fail
    refine (Hlab.out _ _ _ Hrow1.out).mono ?_
    rintro e w2 ⟨rfl, hn2⟩
    have Hb2 : Hid (Below w.heap.size w w2) := by obtain ⟨n, rfl⟩ := hn2; exact below_drewN Hb1.out n
    have Hat2 : Hid (labsAt w2 b off ls) := Hat.out.below Hb2.out
    clear hn2
    go_wp2_with fail
    refine (copyL_any b off cap ls _ hl Hat2.out).mono ?_
    rintro e w5 ⟨g, cap5, rfl, ho5, hb5⟩
    have Ho5 := hide ho5
    have Hb5 := hide (Hb2.out.trans (hb5.mono Hb2.out.size))
    clear ho5 hb5
    go_wp2
    go_ret2
    exact ⟨g, cap5, rfl, owns_base Ho5.out Hb2.out.size, Hb5.out⟩
  · rw [h1] at hlab
    rw [h2] at hkey
    have Hlab := hide hlab
    have Hget := hide hget
    have Hkey := hide hkey
    clear hlab hkey hval hget h1 h2
    go_enter Try.func35, Try.ntmps35
    go_wp2_with fail
    refine (Hget.out _ _ _ Hrow.out).mono ?_
    rintro e w1 ⟨rfl, hb1⟩
    have Hb1 := hide hb1
    have Hrow1 := hide (Hrow.out.below hb1)
    clear hb1
    go_wp2_with fail
    refine (Hlab.out _ _ _ Hrow1.out).mono ?_
    rintro e w2 ⟨rfl, hn2⟩
    have Hb2 : Hid (Below w.heap.size w w2) := by obtain ⟨n, rfl⟩ := hn2; exact below_drewN Hb1.out n
    have Hat2 : Hid (labsAt w2 b off ls) := Hat.out.below Hb2.out
    clear hn2
    go_wp2_with fail
    refine (Hkey.out _).mono ?_
    rintro e w3 ⟨rfl, rfl⟩
    go_wp2_with fail
    refine (copyL_any b off cap ls _ hl Hat2.out).mono ?_
    rintro e w5 ⟨g, cap5, rfl, ho5, hb5⟩
    have Ho5 := hide ho5
    have Hb5 := hide (Hb2.out.trans (hb5.mono Hb2.out.size))
    clear ho5 hb5
    go_wp2
    go_ret2
    exact ⟨g, cap5, rfl, owns_base Ho5.out Hb2.out.size, Hb5.out⟩
  · rw [h1] at hlab
    rw [h2] at hkey
    rw [h3] at hval
    have Hlab := hide hlab
    have Hget := hide hget
    have Hkey := hide hkey
    have Hval := hide hval
    clear hlab hkey hval hget h1 h2 h3
    go_enter Try.func35, Try.ntmps35
    go_wp2_with fail
    refine (Hget.out _ _ _ Hrow.out).mono ?_
    rintro e w1 ⟨rfl, hb1⟩
    have Hb1 := hide hb1
    have Hrow1 := hide (Hrow.out.below hb1)
    clear hb1
    go_wp2_with fail
    refine (Hlab.out _ _ _ Hrow1.out).mono ?_
    rintro e w2 ⟨rfl, hn2⟩
    have Hb2 : Hid (Below w.heap.size w w2) := by obtain ⟨n, rfl⟩ := hn2; exact below_drewN Hb1.out n
    have Hat2 : Hid (labsAt w2 b off ls) := Hat.out.below Hb2.out
    clear hn2
    go_wp2_with fail
    refine (Hkey.out _).mono ?_
    rintro e w3 ⟨rfl, rfl⟩
    go_wp2_with fail
    refine (Hval.out _).mono ?_
    rintro e w4 ⟨rfl, rfl⟩
    go_wp2_with fail
    refine (copyL_any b off cap ls _ hl Hat2.out).mono ?_
    rintro e w5 ⟨g, cap5, rfl, ho5, hb5⟩
    have Ho5 := hide ho5
    have Hb5 := hide (Hb2.out.trans (hb5.mono Hb2.out.size))
    clear ho5 hb5
    go_wp2
    go_ret2
    exact ⟨g, cap5, rfl, owns_base Ho5.out Hb2.out.size, Hb5.out⟩
  · rw [h1] at hlab
    rw [h2] at hkey
    rw [h3] at hval
    subst h4
    have Hlab := hide hlab
    have Hget := hide hget
    have Hkey := hide hkey
    have Hval := hide hval
    clear hlab hkey hval hget h1 h2 h3
    go_enter Try.func35, Try.ntmps35
    go_wp2_with fail
    refine (Hget.out _ _ _ Hrow.out).mono ?_
    rintro e w1 ⟨rfl, hb1⟩
    have Hb1 := hide hb1
    have Hrow1 := hide (Hrow.out.below hb1)
    clear hb1
    go_wp2_with fail
    refine (Hlab.out _ _ _ Hrow1.out).mono ?_
    rintro e w2 ⟨rfl, hn2⟩
    have Hb2 : Hid (Below w.heap.size w w2) := by obtain ⟨n, rfl⟩ := hn2; exact below_drewN Hb1.out n
    have Hat2 : Hid (labsAt w2 b off ls) := Hat.out.below Hb2.out
    clear hn2
    go_wp2_with fail
    refine (Hkey.out _).mono ?_
    rintro e w3 ⟨rfl, rfl⟩
    go_wp2_with fail
    refine (Hval.out _).mono ?_
    rintro e w4 ⟨rfl, rfl⟩
    go_wp2_with fail
    refine (copyL_any b off cap ls _ hl Hat2.out).mono ?_
    rintro e w5 ⟨g, cap5, rfl, ho5, hb5⟩
    have Ho5 := hide ho5
    have Hb5 := hide (Hb2.out.trans (hb5.mono Hb2.out.size))
    clear ho5 hb5
    go_wp2
    go_ret2
    exact ⟨g, cap5, rfl, owns_base Ho5.out Hb2.out.size, Hb5.out⟩

theorem slabelSet_any (b off cap : Nat) (ls : List (ByteArray × ByteArray)) (key val : ByteArray) (w : World) (hl : ls.length ≤ 1048576) (hz : okSizes ls) (hkz : key.size ≤ maxLen) (hvz : val.size ≤ maxLen) (hrow : labsAt w b off ls) :
    Calls Try.prog 35 #[.slice (some ⟨b, off, none⟩) ls.length cap, .string key, .string val] w fun e w' => ∃ g cap', e = .returned (.tuple #[.slice (some ⟨g, 0, none⟩) (setR ls key val).1.length cap', .bool (setR ls key val).2]) ∧
      w'.ownsRow w.heap.size 43 2 (.slice (some ⟨g, 0, none⟩) (setR ls key val).1.length cap') (setR ls key val).1.length (flat (setR ls key val).1) ∧ Below w.heap.size w w' := by
  unfold setR
  rcases Bool.eq_false_or_eq_true (setOk ls key val) with h | h
  · rw [if_pos h]
    exact slabelSet_yes b off cap ls key val w hl hz hkz hvz hrow h
  · rw [if_neg (by rw [h]; decide)]
    exact slabelSet_no b off cap ls key val w hl hz hkz hvz hrow h
end Go.Proofs.Ytbihhcbbjdjhcaa
