/- impl.withLabels with one label more, over labels that are right. -/
import Derived.Test.YtlbpfcchaobgjaaDoorIns2
namespace Go.Proofs.YtlbpfcchaobgjaaDoor
open Go.RowKit Go.BigFrame
set_option linter.unusedVariables false
/-- the place of a key among keys that ascend -/
def putL (ls : List (ByteArray × ByteArray)) (i : Nat) (key val : ByteArray) : List (ByteArray × ByteArray) := if i < ls.length ∧ keyAt ls i = key then ls.set i (key, val) else insL ls i (key, val)
theorem flat_set : ∀ (ls : List (ByteArray × ByteArray)) (p : Nat) (x : ByteArray × ByteArray), p < ls.length → ((flat ls).set (p * 2) (.string x.1)).set (p * 2 + 1) (.string x.2) = flat (ls.set p x)
  | [], p, x, h => by simp at h
  | q :: r, 0, x, _ => rfl
  | q :: r, p + 1, x, h => by
    have ih := flat_set r p x (by simpa using h)
    have e : flat (q :: r) = .string q.1 :: .string q.2 :: flat r := rfl
    rw [e, show (p + 1) * 2 = p * 2 + 1 + 1 from by omega, List.set_cons_succ, List.set_cons_succ, List.set_cons_succ, List.set_cons_succ, ih]
    rfl
theorem insL_len (ls : List (ByteArray × ByteArray)) (i : Nat) (x : ByteArray × ByteArray) (h : i ≤ ls.length) : (insL ls i x).length = ls.length + 1 := by
  unfold insL
  rw [List.length_append, List.length_cons, List.length_take, List.length_drop]
  omega
set_option maxRecDepth 1000000 in
set_option maxHeartbeats 1600000 in
theorem withOne_any (b off cap h hc : Nat) (ls : List (ByteArray × ByteArray)) (key val : ByteArray) (w : World) (hl : ls.length ≤ 1048575) (ha : asc ls) (hrow : labsAt w b off ls) (hv : w.cell? ⟨h, 0, none⟩ = some (.string key) ∧ w.cell? ⟨h, 1, none⟩ = some (.string val)) :
    Calls Tryd.prog 35 #[.slice (some ⟨b, off, none⟩) ls.length cap, .slice (some ⟨h, 0, none⟩) 1 hc] w fun e w' => ∃ i g n cap', between ls key i i ∧ i ≤ ls.length ∧ n = (putL ls i key val).length ∧ e = .returned (.slice (some ⟨g, 0, none⟩) n cap') ∧
      w'.ownsRow w.heap.size 33 2 (.slice (some ⟨g, 0, none⟩) n cap') n (flat (putL ls i key val)) ∧ Below w.heap.size w w' := by
  obtain ⟨cz, hczl, hmk⟩ := makeL ls.length 1 (by omega) w
  have hmk' : (Instr.makeSlice 24 (.int .i64 (ls.length : Int)) (.int .i64 ((ls.length : Int) + 1))).run Tryd.prog w = .ok (.slice (some ⟨w.heap.size, 0, none⟩) ls.length (ls.length + 1)) (w.alloc (.cells cz.toArray 33)) := hmk
  have Hczl := hide hczl
  have Hfl := hide (flat_length ls)
  have Hadd : Hid (∀ wx, Below w.heap.size w wx → ∀ j u, (flat ls)[j]? = some u → wx.cell? ((⟨b, off, none⟩ : Addr).add j) = some u) := fun wx hb => rows_add (hrow.below hb)
  have Hcur : Hid ((w.alloc (.cells cz.toArray 33)).heap[w.heap.size]? = some (.cells cz.toArray 33 (0, 0))) := by show _ = _; exact heap_alloc_new w _
  have Ha := hide ha
  have hh : h < w.heap.size := World.block_lt_of_cell? _ _ hv.1
  have Hv : Hid (∀ wx, Below w.heap.size w wx → wx.cell? ⟨h, 0, none⟩ = some (.string key) ∧ wx.cell? ⟨h, 1, none⟩ = some (.string val)) := fun wx hb => ⟨(hb.cell (p := ⟨h, 0, none⟩) hh).trans hv.1, (hb.cell (p := ⟨h, 1, none⟩) hh).trans hv.2⟩
  clear hrow ha hv hczl hmk
  go_enter Tryd.func35, Tryd.ntmps35
  go_wp2_with (refine wpList_copy_k rfl (.tmp 18) (.tmp 19) 24 24 rfl 33 2 Tryd.underlying24 Tryd.size44 w.heap.size 0 ls.length (ls.length + 1) ⟨b, off, none⟩ ls.length cap rfl rfl cz 33 Hcur.out (flat ls) ls.length (by simp) Hfl.out (Hadd.out _ ((Below.refl _ _).alloc (Nat.le_refl _) _)) (by rw [Hfl.out, Hczl.out]; omega) (flat_cell ls) ?_; intro w2 hw2; have Hw2 := hide hw2; clear hw2)
  obtain ⟨G, HG⟩ : ∃ G, Hid (G = w.heap.size) := ⟨_, rfl⟩
  have hb2 : Below w.heap.size w w2 := by rw [Hw2.out]; exact below_setRow ((Below.refl _ _).alloc (Nat.le_refl _) _) (Nat.le_refl _) _
  have hsz2 : w2.heap.size = w.heap.size + 1 := by rw [Hw2.out]; simp [World.setRow]
  obtain ⟨sp, Hsp⟩ : ∃ sp : List Value, Hid (sp.length = 2 ∧ w2.heap[w.heap.size]? = some (.cells (flat ls ++ sp).toArray 33 (0, 0))) := by
    refine ⟨cz.drop (0 + (flat ls).length), ?_, ?_⟩
    · rw [List.length_drop, Hczl.out, Hfl.out]; omega
    · rw [Hw2.out, setRow_heap _ _ _ _ _ _ Hcur.out]
      unfold splice
      rw [List.take_zero, List.nil_append]
  have Hb2 := hide hb2
  clear hb2 Hw2 Hcur Hczl hmk' Hadd
  rw [← HG.out] at Hsp hsz2
  rw [← HG.out]
  go_loopw [5, 23] (fun v i wr => (i = .int .i64 0 ∧ v = .slice (some ⟨G, 0, none⟩) ls.length (ls.length + 1) ∧ wr = w2) ∨
      (i = .int .i64 1 ∧ ∃ p n cap', Hid (between ls key p p) ∧ p ≤ ls.length ∧ Hid (n = (putL ls p key val).length) ∧ v = .slice (some ⟨G, 0, none⟩) n cap' ∧
        Hid (wr.ownsRow w.heap.size 33 2 (.slice (some ⟨G, 0, none⟩) n cap') n (flat (putL ls p key val))) ∧ Hid (Below w.heap.size w wr))) (fun _ i _ => 1 - (intOf i).toNat)
  case atStart => exact .inl ⟨rfl, rfl, rfl⟩
  case round =>
    rcases hrel with ⟨rfl, rfl, rfl⟩ | ⟨rfl, p, n, cap', Hbt, hp, Hn, rfl, Ho, Hb⟩
    · have c0 := (Hv.out _ Hb2.out).1
      have c1 := (Hv.out _ Hb2.out).2
      have hown0 : wr.ownsRow w.heap.size 33 2 (.slice (some ⟨G, 0, none⟩) ls.length (ls.length + 1)) ls.length (flat ls) :=
        owns_row (flat ls) sp Hsp.out.2 Hfl.out (by rw [List.length_append, Hfl.out, Hsp.out.1]; omega) (by omega) (by unfold maxLen; omega) (by rw [HG.out]; exact Nat.le_refl _)
      have hsz : wr.heap.size = G + 1 := by rw [hsz2]
      have hrow3 : rowOf (wr.alloc (.cells #[.string key, .string val] 33)) (some ⟨G, 0, none⟩) ls := (row_of_owns hown0).below ((Below.refl _ _).alloc (Nat.le_refl _) _)
      have Hown3 := hide (hown0.alloc (.cells #[.string key, .string val] 33))
      have Hr3 := hide hrow3
      have Hg3 : Hid ((wr.alloc (.cells #[.string key, .string val] 33)).heap[G]? = some (.cells (flat ls ++ sp).toArray 33 (0, 0))) := by
        show _ = _
        rw [Below.heap_alloc _ _ _ (by omega)]
        exact Hsp.out.2
      have Hb3 : Hid (Below w.heap.size w (wr.alloc (.cells #[.string key, .string val] 33))) := Hb2.out.alloc Hb2.out.size _
      have Hd : Hid ((wr.alloc (.cells #[.string key, .string val] 33)).cell? ⟨wr.heap.size, 0, none⟩ = some (.string key) ∧ (wr.alloc (.cells #[.string key, .string val] 33)).cell? ⟨wr.heap.size, 1, none⟩ = some (.string val)) := ⟨by simp, by simp⟩
      clear hown0 hrow3
      go_wp2_with fail
      refine (search_any _ _ ls key _ (by omega) Ha.out Hr3.out).mono ?_
      rintro e w4 ⟨p, hp, rfl, hbt, hb4⟩
      have How4 := hide (owns_below Hown3.out hb4)
      have hb4s : wr.heap.size + 1 ≤ w4.heap.size := by have := hb4.size; simpa using this
      have d0 : w4.cell? ⟨G + 1, 0, none⟩ = some (.string key) := by rw [← hsz]; exact (hb4.cell (p := ⟨wr.heap.size, 0, none⟩) (by simp)).trans Hd.out.1
      have d1 : w4.cell? ⟨G + 1, 1, none⟩ = some (.string val) := by rw [← hsz]; exact (hb4.cell (p := ⟨wr.heap.size, 1, none⟩) (by simp)).trans Hd.out.2
      have Hg4 : Hid (w4.heap[G]? = some (.cells (flat ls ++ sp).toArray 33 (0, 0))) := by
        show _ = _
        rw [hb4.block G (by simp; omega)]
        exact Hg3.out
      have Hb4 := hide (Hb3.out.trans (hb4.mono Hb3.out.size))
      have Hbt := hide hbt
      have hGw : w.heap.size ≤ G := by rw [HG.out]; exact Nat.le_refl _
      clear hb4 hbt Hown3 Hg3 Hb3 Hr3 Hd
      by_cases hq : p < ls.length ∧ keyAt ls p = key
      · rw [decide_eq_true hq]
        have hpl : p < ls.length := hq.1
        have HP : Hid (putL ls p key val = ls.set p (key, val)) := by show _ = _; unfold putL; rw [if_pos hq]
        have fg := flat_get ls p hpl
        have q0 : w4.cell? ⟨G, p * 2, none⟩ = some (.string (ls[p]'hpl).1) := (How4.out.cellAt _ (by omega)).trans fg.1
        have q1 : w4.cell? ⟨G, p * 2 + 1, none⟩ = some (.string (ls[p]'hpl).2) := (How4.out.cellAt _ (by omega)).trans fg.2
        have f0 := How4.out.frozenAt (p * 2)
        have f1 := How4.out.frozenAt (p * 2 + 1)
        have S1 := (How4.out.stored (p * 2) (.string key)).1
        have S2 := hide (S1.stored (p * 2 + 1) (.string val)).1
        generalize (ls[p]'hpl).1 = o0 at *
        generalize (ls[p]'hpl).2 = o1 at *
        clear hq fg S1
        go_wp2
        go_roundw
        case rel => exact .inr ⟨rfl, p, ls.length, ls.length + 1, Hbt, hp, (by show _ = _; rw [HP.out, List.length_set]), rfl, (by show World.ownsRow _ _ _ _ _ _ _; rw [HP.out, ← flat_set ls p (key, val) hpl]; exact S2.out), (Hb4.out.setCell hGw _).setCell hGw _⟩
        case measure => simp [intOf]
      · rw [decide_eq_false hq]
        have HP : Hid (putL ls p key val = insL ls p (key, val)) := by show _ = _; unfold putL; rw [if_neg hq]
        clear hq
        have Hg5 : Hid ((w4.alloc (.cells #[.string key, .string val] 33)).heap[G]? = some (.cells (flat ls ++ sp).toArray 33 (0, 0))) := by
          show _ = _
          rw [Below.heap_alloc _ _ _ (by omega)]
          exact Hg4.out
        have Hv5 : Hid ((w4.alloc (.cells #[.string key, .string val] 33)).heap[w4.heap.size]? = some (.cells #[.string key, .string val] 33 (0, 0))) := heap_alloc_new w4 _
        go_wp2_with fail
        refine (insert_any G w4.heap.size 1 p ls key val sp _ (by omega) hp (by omega) Hsp.out.1 Hg5.out Hv5.out).mono ?_
        rintro e w6 ⟨rfl, hg6, hex6⟩
        have Hb6 : Hid (Below w.heap.size w w6) := (Hb4.out.alloc Hb4.out.size _).trans ((hex6.mono (by have := Hb4.out.size; simp; omega)).below hGw)
        have Ho6 : Hid (w6.ownsRow w.heap.size 33 2 (.slice (some ⟨G, 0, none⟩) (ls.length + 1) (ls.length + 1)) (ls.length + 1) (flat (putL ls p key val))) := by
          rw [HP.out]
          exact owns_row (flat (insL ls p (key, val))) [] (by rw [List.append_nil]; exact hg6) (by rw [flat_length, insL_len _ _ _ hp]) (by rw [List.append_nil, flat_length, insL_len _ _ _ hp]) (Nat.le_refl _) (by unfold maxLen; omega) hGw
        clear hg6 hex6
        go_wp2
        go_roundw
        case rel => exact .inr ⟨rfl, p, ls.length + 1, ls.length + 1, Hbt, hp, (by show _ = _; rw [HP.out, insL_len _ _ _ hp]), rfl, Ho6, Hb6⟩
        case measure => simp [intOf]
    · go_wp2
      go_ret
      exact ⟨p, G, n, cap', Hbt.out, hp, Hn.out, rfl, Ho.out, Hb.out⟩
end Go.Proofs.YtlbpfcchaobgjaaDoor
