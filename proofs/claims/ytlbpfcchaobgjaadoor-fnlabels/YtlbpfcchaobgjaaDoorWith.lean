/- impl.withLabels: a copy of the labels; with one label more, put where it belongs. -/
import Derived.Test.YtlbpfcchaobgjaaDoorCopyK
import Derived.Test.YtlbpfcchaobgjaaDoorBin
namespace Go.Proofs.YtlbpfcchaobgjaaDoor
open Go.RowKit Go.BigFrame
set_option linter.unusedVariables false
theorem Tryd.size44 : (Tryd.prog.info? 33).map (·.size) = some 2 := by kernel_rfl
theorem makeL (n m : Nat) (hn : n + m ≤ 1048576) (w : World) : ∃ cz : List Value, cz.length = (n + m) * 2 ∧
    (Instr.makeSlice 24 (.int .i64 (n : Int)) (.int .i64 ((n : Int) + (m : Int)))).run Tryd.prog w = .ok (.slice (some ⟨w.heap.size, 0, none⟩) n (n + m)) (w.alloc (.cells cz.toArray 33)) := by
  obtain ⟨i0, hi, hz0, hz1, hz2⟩ := info_parts Tryd.info44
  have hr := run_make (P := Tryd.prog) w 24 33 i0 _ Tryd.underlying24 hi hz0 .i64 .i64 n ((n : Int) + m) (by omega) (by omega) (by rw [hz2]; omega) (by omega)
  have e : ((n : Int) + (m : Int)).toNat = n + m := by omega
  rw [e, hz1, Int.toNat_natCast] at hr
  refine ⟨(madeCells (Value.agg #[Value.string ByteArray.empty, Value.string ByteArray.empty]).cells ((n + m) * 2)).toList, by simp [madeCells], ?_⟩
  rw [hr, Array.toArray_toList]

theorem owns_row {w : World} {g n cap : Nat} {e : TypeId} {B : Nat} (cs sp : List Value) (hh : w.heap[g]? = some (.cells (cs ++ sp).toArray e (0, 0))) (hc : cs.length = n * 2) (hsp : (cs ++ sp).length = cap * 2) (hn : n ≤ cap) (hm : cap ≤ maxLen) (hB : B ≤ g) :
    w.ownsRow B e 2 (.slice (some ⟨g, 0, none⟩) n cap) n cs :=
  ⟨hc, .inr ⟨g, cap, _, rfl, hB, hh, hn, hm, by simpa using hsp, by rw [List.take_append_of_le_length (by omega), List.take_of_length_le (by omega)]⟩⟩
theorem row_cur {w : World} {B g n cap : Nat} {e : TypeId} {xs : List Value} (h : w.ownsRow B e 2 (.slice (some ⟨g, 0, none⟩) n cap) n xs) : ∃ cur : List Value, Hid (w.heap[g]? = some (.cells cur.toArray e (0, 0))) ∧ Hid (cur.length = cap * 2) := by
  rcases h.2 with ⟨h, _⟩ | ⟨g', cap', cur, h, _, hh, _, _, hc, _⟩
  · cases h
  · cases h
    exact ⟨cur.toList, by show _ = _; rw [hh, Array.toArray_toList], by show _ = _; simpa using hc⟩
set_option maxHeartbeats 800000 in
theorem withNone_any (b off cap : Nat) (ls : List (ByteArray × ByteArray)) (w : World) (hl : ls.length ≤ 1048576) (hrow : labsAt w b off ls) :
    Calls Tryd.prog 35 #[.slice (some ⟨b, off, none⟩) ls.length cap, .slice none 0 0] w fun e w' => ∃ g cap', e = .returned (.slice (some ⟨g, 0, none⟩) ls.length cap') ∧
      w'.ownsRow w.heap.size 33 2 (.slice (some ⟨g, 0, none⟩) ls.length cap') ls.length (flat ls) ∧ Below w.heap.size w w' := by
  obtain ⟨i0, hi, hz0, hz1, hz2⟩ := info_parts Tryd.info44
  have Hfl := hide (flat_length ls)
  have Hadd : Hid (∀ wx, Below w.heap.size w wx → ∀ j u, (flat ls)[j]? = some u → wx.cell? ((⟨b, off, none⟩ : Addr).add j) = some u) := fun wx hb => rows_add (hrow.below hb)
  clear hrow
  go_enter Tryd.func35, Tryd.ntmps35
  go_wp2_with (first | (at_make; refine wpList_make_full _ rfl _ _ 24 rfl w.heap.size 33 i0 _ 2 Tryd.underlying24 hi hz0 hz1 _ _ _ _ ls.length rfl rfl rfl rfl (by rw [hz2]; omega) (by unfold maxLen; omega) (Nat.le_refl _) ?_; intro w1 hown hgrow; have Hb1 : Hid (Below w.heap.size w w1) := Below.grown (Below.refl _ _) hgrow (Nat.le_refl _) (fun k hk => by cases hk); obtain ⟨cur, Hcur, Hcl⟩ := row_cur hown) | (refine wpList_copy_k rfl (.tmp 18) (.tmp 19) 24 24 rfl 33 2 Tryd.underlying24 Tryd.size44 w.heap.size 0 ls.length ls.length ⟨b, off, none⟩ ls.length cap rfl rfl cur 33 Hcur.out (flat ls) ls.length (by simp) Hfl.out (Hadd.out _ Hb1.out) (by rw [Hfl.out, Hcl.out]; omega) (flat_cell ls) ?_; intro w2 hw2; have Hw2 := hide hw2; clear hw2))
  have hb2 : Below w.heap.size w w2 := by rw [Hw2.out]; exact below_setRow Hb1.out (Nat.le_refl _) _
  have ho2 : w2.ownsRow w.heap.size 33 2 (.slice (some ⟨w.heap.size, 0, none⟩) ls.length ls.length) ls.length (flat ls) := by
    rw [Hw2.out]
    refine owns_row (flat ls) [] ?_ Hfl.out (by simp [Hfl.out]) (Nat.le_refl _) (by unfold maxLen; omega) (Nat.le_refl _)
    rw [setRow_heap _ _ _ _ _ _ Hcur.out]
    have e : splice cur 0 (flat ls) = flat ls ++ [] := by
      unfold splice
      rw [List.take_zero, List.nil_append, List.drop_eq_nil_of_le (by rw [Hfl.out, Hcl.out]; omega)]
    rw [e]
  have Hb2 := hide hb2
  have Ho2 := hide ho2
  clear hb2 ho2 Hw2 Hcur Hcl hown hgrow
  go_loopw [5, 23] (fun v i wr => v = .slice (some ⟨w.heap.size, 0, none⟩) ls.length ls.length ∧ i = .int .i64 0 ∧ wr = w2) (fun _ _ _ => 0)
  case atStart => exact ⟨rfl, rfl, rfl⟩
  case round =>
    obtain ⟨rfl, rfl, rfl⟩ := hrel
    go_wp2
    go_ret
    exact ⟨_, _, rfl, Ho2.out, Hb2.out⟩
end Go.Proofs.YtlbpfcchaobgjaaDoor
