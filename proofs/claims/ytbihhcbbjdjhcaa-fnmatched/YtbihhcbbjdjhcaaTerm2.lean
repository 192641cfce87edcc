/- impl.termsOf, impl.SelectorOk. -/
import Derived.Test.YtbihhcbbjdjhcaaTerm1
import Derived.Test.YtbihhcbbjdjhcaaOwnB
namespace Go.Proofs.Ytbihhcbbjdjhcaa
open Go.RowKit Go.BigFrame
set_option linter.unusedVariables false

/-- where a slice of impl's terms leads -/
def ifsOf (w : World) (a : Option Addr) (ts : List TD) : Prop := 0 < ts.length → ∃ b off, a = some ⟨b, off, none⟩ ∧ ∀ i (hi : i < ts.length), ∃ v, w.cell? ⟨b, off + i, none⟩ = some v ∧ isIf w v ts[i]
theorem ifsOf.below {w w' : World} {a : Option Addr} {ts : List TD} (h : ifsOf w a ts) (hb : Below w.heap.size w w') : ifsOf w' a ts := by
  intro hl
  obtain ⟨b, off, e, h⟩ := h hl
  refine ⟨b, off, e, fun i hi => ?_⟩
  obtain ⟨v, h1, h2⟩ := h i hi
  exact ⟨v, (hb.cell (p := ⟨b, off + i, none⟩) (World.block_lt_of_cell? _ _ h1)).trans h1, h2.below hb⟩
theorem ifsOf_owns {w w0 : World} {B g n cap : Nat} {e : TypeId} {vs : List Value} {ts : List TD} (h : w.ownsRow B e 1 (.slice (some ⟨g, 0, none⟩) n cap) n vs) (hn : n = ts.length) (hb : Below w0.heap.size w0 w) (ht : ∀ i (hi : i < ts.length), ∃ v, vs[i]? = some v ∧ isIf w0 v ts[i]) : ifsOf w (some ⟨g, 0, none⟩) ts := by
  intro _
  refine ⟨g, 0, rfl, fun i hi => ?_⟩
  obtain ⟨v, h1, h2⟩ := ht i hi
  subst hn
  rw [Nat.zero_add]
  exact ⟨v, (h.cellAt _ (by omega)).trans h1, h2.below hb⟩
theorem Try.infoIf : (Try.prog.info? 48).map (fun i => (i.zero, i.size, i.bytes)) = some (some .nilIface, 1, 16) := by kernel_rfl
theorem isV_if {v : Value} {t : TD} {a : Option Addr} {cap : Nat} (h : isV v t a cap) : ∃ ty x, v = .iface ty x := by
  rcases h with ⟨_, rfl⟩ | ⟨_, rfl⟩ | ⟨_, rfl⟩ | ⟨_, rfl⟩ | ⟨_, rfl⟩ <;> exact ⟨_, _, rfl⟩
theorem selB_mem {ts : List TD} (h : selB ts = true) {i : Nat} (hi : i < ts.length) : termB (ts[i]'hi) = true := by
  unfold selB at h; rw [decide_eq_true_eq] at h; exact h.2 _ (List.getElem_mem hi)

set_option maxRecDepth 100000 in
set_option maxHeartbeats 800000 in
theorem itermsOf_any (a : Option Addr) (cap : Nat) (ts : List TD) (w : World) (hl : ts.length ≤ maxLen) (hz : ∀ t ∈ ts, t.2.2.length ≤ maxLen) (hrow : termsOf w a ts) :
    Calls Try.prog 17 #[.slice a ts.length cap] w fun e w' =>
      ((selB ts = true ∧ ∃ g cp, e = .returned (.tuple #[.slice (some ⟨g, 0, none⟩) ts.length cp, .bool true]) ∧ ifsOf w' (some ⟨g, 0, none⟩) ts) ∨ (selB ts = false ∧ e = .returned (.tuple #[.slice none 0 0, .bool false]))) ∧ Below w.heap.size w w' := by
  obtain ⟨i0, hi, hz0, hz1, hz2⟩ := info_parts Try.infoIf
  unfold maxLen at hl
  have Hr := hide hrow
  have Hz := hide hz
  clear hrow hz
  by_cases hbig : 8 < ts.length
  · have Hn := hide (selB_long hbig)
    have hbig' : (8 : Int) < (ts.length : Int) := by omega
    clear hbig Hr
    go_enter Try.func17, Try.ntmps17
    go_wp2
    go_ret2
    exact ⟨.inr ⟨Hn.out, rfl⟩, Below.refl _ _⟩
  have hbig' : ¬ (8 : Int) < (ts.length : Int) := by omega
  go_enter Try.func17, Try.ntmps17
  go_wp2
  go_loopw [4, 15] (fun s i wr => ∃ (k : Nat) (vs : List Value), k ≤ ts.length ∧ i = .int .i64 k ∧ Hid (s ≠ .slice none 0 0) ∧ Hid (wr.ownsRow w.heap.size 48 1 s k vs) ∧
      Hid (∀ j (hj : j < ts.length), j < k → termB ts[j] = true ∧ ∃ v, vs[j]? = some v ∧ isIf w v ts[j]) ∧ Below w.heap.size w wr) (fun _ i _ => ts.length - (intOf i).toNat)
  case atStart => exact ⟨0, [], Nat.zero_le _, rfl, (fun h => by cases h), World.ownsRow_lit w #[] 0 (Nat.le_refl _) (by decide) rfl, fun j _ hj => by omega, (Below.refl _ _).alloc (Nat.le_refl _) _⟩
  case round =>
    obtain ⟨k, vs, hk, rfl, Hnn, How, Hx, hbw⟩ := hrel
    by_cases hlt : k < ts.length
    · obtain ⟨b, off, rfl, hat⟩ := Hr.out (by omega)
      obtain ⟨-, -, av0, capv0, h20, h30⟩ := hat k hlt
      obtain ⟨h0c, h1c, av, capv, h2c, h3c⟩ := (hat k hlt).below hbw
      have hav : av = av0 ∧ capv = capv0 := by
        have hbb := World.block_lt_of_cell? _ _ h20
        have := (hbw.cell (p := ⟨b, off + k * 3 + 2, none⟩) hbb).trans h20
        rw [h2c] at this
        simp only [Option.some.injEq, Value.slice.injEq, true_and] at this
        exact this
      obtain ⟨rfl, rfl⟩ := hav
      have hz := Hz.out _ (List.getElem_mem hlt)
      have Hs3 := hide h30.1
      have hcon := fun wx hx => iterm_any (ts[k]'hlt) av capv wx hz hx
      have Hcon := hide hcon
      have Hb : Hid (termB (ts[k]'hlt) = false → selB ts = false) := fun h => selB_bad hlt h
      have Hs : Hid (termB (ts[k]'hlt) = true → ∀ v, isV v (ts[k]'hlt) av capv → ∀ j (hj : j < ts.length), j < k + 1 → termB ts[j] = true ∧ ∃ u, (vs ++ [v])[j]? = some u ∧ isIf w u ts[j]) := fun h v hv j hj hjk => by
        have hvl : vs.length = k * 1 := How.out.1
        by_cases e : j = k
        · subst e
          exact ⟨h, v, by rw [List.getElem?_append_right (by omega)]; simp [hvl], av, capv, hv, h30.1, h30.2.1⟩
        · obtain ⟨g1, u, g2, g3⟩ := Hx.out j hj (by omega)
          exact ⟨g1, u, by rw [List.getElem?_append_left (by omega)]; exact g2, g3⟩
      clear hat hcon hz h30 h3c h20
      generalize ts[k]'hlt = t at *
      obtain ⟨kd, key, ss⟩ := t
      simp only at h0c h1c h2c Hcon
      go_wp2_with fail
      refine (Hcon.out _ (Hs3.out.below (hbw.alloc hbw.size _))).mono ?_
      rintro e w1 ⟨⟨hb, v, rfl, hv⟩ | ⟨hb, rfl⟩, hb1⟩
      · obtain ⟨ty, iv, rfl⟩ := isV_if hv
        have Hn := hide (Hs.out hb _ hv)
        have How1 := hide (owns_below_any (How.out.alloc (.cells #[.int .i64 kd, .string key, .slice av ss.length capv] 33)) hb1)
        have hbw1 : Below w.heap.size w w1 := (hbw.alloc hbw.size _).trans (hb1.mono (by have := hbw.size; simp; omega))
        clear Hb Hs hb hv hb1
        go_wp2_with (at_builtin; refine wpList_append_own _ rfl _ _ 44 rfl w.heap.size 48 i0 _ 1 16 Try.underlying44 hi hz0 hz1 hz2 rfl (by decide) _ _ _ rfl (How1.out.alloc _) ⟨w1.heap.size, 0, none⟩ 1 1 [.iface ty iv] rfl rfl (cell_one_at1 _ _ rfl _ _) (fun x hx => by simp at hx; rcases hx with rfl; rfl) (by unfold maxLen; omega) (by omega) (by have := hbw1.size; simp; omega) ?_; intro v' w3 hown' hgrow3 hnil3)
        go_roundw
        case rel => exact ⟨k + 1, _, by omega, by go_num, (fun h => Hnn.out (hnil3.1 h).1), hown', Hn, Below.grown (hbw1.alloc hbw1.size _) hgrow3 (by have := hbw1.size; simp; omega) (fun j hj => (How.out.lt _ hj).1)⟩
        case measure => simp [intOf]; omega
      · have Hn := hide (Hb.out hb)
        have hbw1 : Below w.heap.size w w1 := (hbw.alloc hbw.size _).trans (hb1.mono (by have := hbw.size; simp; omega))
        clear Hb Hs hb hb1
        go_wp2
        go_ret2
        exact ⟨.inr ⟨Hn.out, rfl⟩, hbw1⟩
    · have e : k = ts.length := by omega
      subst e
      have Hn : Hid (selB ts = true) := by show _ = _; rw [selB_end fun i hi => (Hx.out i hi hi).1, decide_eq_true_eq]; omega
      have Hf : Hid (∃ g cap, u4 = Value.slice (some ⟨g, 0, none⟩) ts.length cap) := by
        rcases How.out.2 with ⟨h, _⟩ | ⟨g, cap, cur, h, _⟩
        · exact absurd h Hnn.out
        · exact ⟨g, cap, h⟩
      obtain ⟨g, cp, hv⟩ := Hf.out
      subst hv
      have Hf2 : Hid (ifsOf wr (some ⟨g, 0, none⟩) ts) := ifsOf_owns How.out rfl hbw fun i hi => (Hx.out i hi hi).2
      clear Hx Hr How Hnn Hf
      go_wp2
      go_ret2
      exact ⟨.inl ⟨Hn.out, g, cp, rfl, Hf2.out⟩, hbw⟩

end Go.Proofs.Ytbihhcbbjdjhcaa
