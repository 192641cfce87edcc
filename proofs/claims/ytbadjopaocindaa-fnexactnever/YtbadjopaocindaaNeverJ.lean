/- impl.termsAbout, canHold, Never. -/
import Derived.Test.YtbadjopaocindaaNeverI
namespace Go.Proofs.Ytbadjopaocindaa
open Go.RowKit Go.BigFrame
set_option linter.unusedVariables false

theorem about_succ {ts : List TD} {key : ByteArray} {k : Nat} (h : k < ts.length) : about (ts.take (k + 1)) key = about (ts.take k) key ++ (if (ts[k]'h).2.1 = key then [ts[k]'h] else []) := by
  unfold about
  rw [List.take_succ_eq_append_getElem h, List.filter_append]
  by_cases e : (ts[k]'h).2.1 = key
  · rw [if_pos e, List.filter_cons_of_pos (by simpa using e)]; simp
  · rw [if_neg e, List.filter_cons_of_neg (by simpa using e)]; simp
theorem about_len (ts : List TD) (key : ByteArray) : (about ts key).length ≤ ts.length := List.length_filter_le _ _
theorem about_mem {ts : List TD} {key : ByteArray} {t : TD} (h : t ∈ about ts key) : t ∈ ts := (List.mem_filter.1 h).1
def aboutPost (w : World) (fs : List TD) (e : Ending) (w' : World) : Prop := ∃ g cp, e = .returned (.slice (some ⟨g, 0, none⟩) fs.length cp) ∧ ifsOf w' (some ⟨g, 0, none⟩) fs ∧ Below w.heap.size w w'
theorem aboutPost_mk {w w' : World} {fs : List TD} {g n cp : Nat} (hn : n = fs.length) (h : ifsOf w' (some ⟨g, 0, none⟩) fs) (hb : Below w.heap.size w w') : aboutPost w fs (.returned (.slice (some ⟨g, 0, none⟩) n cp)) w' := by
  subst hn; exact ⟨_, _, rfl, h, hb⟩

set_option maxRecDepth 100000 in
set_option maxHeartbeats 400000 in
theorem iabout_any (a : Option Addr) (cap : Nat) (ts : List TD) (key : ByteArray) (w : World) (hl : ts.length ≤ 8) (hrow : ifsOf w a ts) :
    Calls Try.prog 81 #[.slice a ts.length cap, .string key] w (aboutPost w (about ts key)) := by
  obtain ⟨i0, hi0, hz0, hz1, hz2⟩ := info_parts Try.infoIf
  have Hr := hide hrow
  clear hrow
  go_enter Try.func81, Try.ntmps81
  go_wp2
  go_loopw [5, 11] (fun s i wr => ∃ (k : Nat) (vs : List Value), k ≤ ts.length ∧ i = .int .i64 k ∧ Hid (s ≠ .slice none 0 0) ∧ Hid (wr.ownsRow w.heap.size 81 1 s (about (ts.take k) key).length vs) ∧
      Hid (∀ j (hj : j < (about (ts.take k) key).length), ∃ v, vs[j]? = some v ∧ isIf w v ((about (ts.take k) key)[j])) ∧ Below w.heap.size w wr) (fun _ i _ => ts.length - (intOf i).toNat)
  case atStart => exact ⟨0, [], Nat.zero_le _, rfl, (fun h => by cases h), World.ownsRow_lit w #[] 0 (Nat.le_refl _) (by decide) rfl, (fun j hj => by simp [about] at hj), (Below.refl _ _).alloc (Nat.le_refl _) _⟩
  case round =>
    obtain ⟨k, vs, hk, rfl, Hnn, How, Hx, hbw⟩ := hrel
    by_cases hlt : k < ts.length
    · obtain ⟨b, off, rfl, hat⟩ := Hr.out (by omega)
      obtain ⟨u, hc0, av, capv, hu, hs⟩ := hat k hlt
      have hc := (hbw.cell (p := ⟨b, off + k, none⟩) (World.block_lt_of_cell? _ _ hc0)).trans hc0
      have hab := about_len (ts.take k) key
      rw [List.length_take] at hab
      have hsucc := about_succ (key := key) hlt
      obtain ⟨ty, iv, rv, rfl, ab, hta⟩ := about_of hu
      have he := beq_str (ts[k]'hlt).2.1 key
      have Hif : Hid (isIf w (.iface ty iv) (ts[k]'hlt)) := ⟨av, capv, hu, hs⟩
      have Hta := hide (hta wr)
      clear hat hs hu hta hc0
      generalize ts[k]'hlt = t at *
      obtain ⟨kd, KEY, ss⟩ := t
      simp only at he hsucc
      by_cases hq : KEY = key
      · rw [decide_eq_true hq] at he
        rw [if_pos hq] at hsucc
        have Hs : Hid (∀ j (hj : j < (about (ts.take (k + 1)) key).length), ∃ v, (vs ++ [.iface ty iv])[j]? = some v ∧ isIf w v ((about (ts.take (k + 1)) key)[j])) := by
          have hvl : vs.length = (about (ts.take k) key).length * 1 := How.out.1
          have Hx' := Hx.out
          rw [hsucc]
          generalize about (ts.take k) key = A at *
          intro j hj
          rw [List.length_append, List.length_singleton] at hj
          by_cases e : j = A.length
          · subst e
            refine ⟨.iface ty iv, by rw [List.getElem?_append_right (by omega)]; simp [hvl], ?_⟩
            rw [List.getElem_append_right (by omega)]
            simpa using Hif.out
          · obtain ⟨v, g2, g3⟩ := Hx' j (by omega)
            refine ⟨v, by rw [List.getElem?_append_left (by omega)]; exact g2, ?_⟩
            rw [List.getElem_append_left (by omega)]
            exact g3
        have Hl : Hid ((about (ts.take (k + 1)) key).length = (about (ts.take k) key).length + 1) := by show _ = _; rw [hsucc, List.length_append]; rfl
        clear hq hsucc Hx
        generalize (about (ts.take k) key).length = m at *
        go_wp2_with fail
        refine Hta.out.mono ?_
        rintro e w2 ⟨rfl, hb2⟩
        have How2 := hide (owns_below_any How.out hb2)
        have hbw2 := hbw.trans (hb2.mono hbw.size)
        clear ab hb2
        go_wp2_with (at_builtin; refine wpList_append_own _ rfl _ _ 77 rfl w.heap.size 81 i0 _ 1 16 Try.underlying77 hi0 hz0 hz1 hz2 rfl (by decide) _ _ _ rfl (How2.out.alloc _) ⟨w2.heap.size, 0, none⟩ 1 1 [.iface ty iv] rfl rfl (cell_one_at1 _ _ rfl _ _) (fun x hx => by simp at hx; rcases hx with rfl; rfl) (by unfold maxLen; omega) (by omega) (by have := hbw2.size; simp; omega) ?_; intro v' w3 hown' hgrow3 hnil3)
        go_roundw
        case rel => exact ⟨k + 1, _, by omega, by go_num, (fun h => Hnn.out (hnil3.1 h).1), (by rw [Hl.out]; exact hown'), Hs, Below.grown (hbw2.alloc hbw2.size _) hgrow3 (by have := hbw2.size; simp; omega) (fun j hj => (How.out.lt _ hj).1)⟩
        case measure => simp [intOf]; omega
      · rw [decide_eq_false hq] at he
        rw [if_neg hq, List.append_nil] at hsucc
        have Hsu := hide hsucc
        clear hq hsucc
        go_wp2_with fail
        refine Hta.out.mono ?_
        rintro e w2 ⟨rfl, hb2⟩
        have How2 := hide (owns_below_any How.out hb2)
        have hbw2 := hbw.trans (hb2.mono hbw.size)
        clear ab hb2
        go_wp2
        go_roundw
        case rel => exact ⟨k + 1, vs, by omega, by go_num, Hnn, (by rw [Hsu.out]; exact How2), (by rw [Hsu.out]; exact Hx), hbw2⟩
        case measure => simp [intOf]; omega
    · have e : k = ts.length := by omega
      subst e
      have How1 := How.out
      have Hx1 := Hx.out
      rw [List.take_length] at How1 Hx1
      have Hf : Hid (∃ g cap, u5 = Value.slice (some ⟨g, 0, none⟩) (about ts key).length cap) := by
        rcases How1.2 with ⟨h, _⟩ | ⟨g, cap, cur, h, _⟩
        · exact absurd h Hnn.out
        · exact ⟨g, cap, h⟩
      obtain ⟨g, cp, hv⟩ := Hf.out
      subst hv
      have Hq : Hid (ifsOf wr (some ⟨g, 0, none⟩) (about ts key)) := ifsOf_owns How1 rfl hbw Hx1
      clear How1 Hx1 How Hx Hf Hnn Hr
      go_wp2
      go_ret
      exact aboutPost_mk rfl Hq.out hbw

theorem canB_hit {fs : List TD} {k m : Nat} (hk : k < fs.length) (hm : m < (askOf (fs[k]'hk)).length) (h : holdAll fs ((askOf (fs[k]'hk))[m]) true = true) : canB fs = true := by
  unfold canB
  have : (fs.any fun t => (askOf t).any fun v => holdAll fs v true) = true := by
    rw [List.any_eq_true]
    exact ⟨_, List.getElem_mem hk, List.any_eq_true.2 ⟨_, List.getElem_mem hm, h⟩⟩
  rw [this, Bool.or_true]
theorem canB_end {fs : List TD} (h1 : holdAll fs ⟨#[]⟩ false = false) (h2 : holdAll fs ⟨#[]⟩ true = false) (h : ∀ k (hk : k < fs.length), ∀ v ∈ askOf (fs[k]'hk), holdAll fs v true = false) : canB fs = false := by
  unfold canB
  rw [h1, h2, Bool.false_or, Bool.false_or, List.any_eq_false]
  intro t ht
  obtain ⟨i, hi, rfl⟩ := List.getElem_of_mem ht
  rw [Bool.not_eq_true, List.any_eq_false]
  intro v hv
  rw [h i hi v hv]; simp
theorem ask_len {t : TD} (h : termB t = true) : (askOf t).length ≤ 6 := by
  have := kindB_parts h
  unfold askOf
  split
  · simp
  · split
    · omega
    · simp

set_option maxRecDepth 100000 in
set_option maxHeartbeats 800000 in
theorem ican_any (a : Option Addr) (cap : Nat) (fs : List TD) (w : World) (hl : fs.length ≤ 8) (hf : ∀ t ∈ fs, termB t = true) (hrow : ifsOf w a fs) :
    Calls Try.prog 80 #[.slice a fs.length cap] w fun e w' => e = .returned (.bool (canB fs)) ∧ Below w.heap.size w w' := by
  have Hr := hide hrow
  have Hf := hide hf
  have Ha : Hid (∀ v has wx, Below w.heap.size w wx → Calls Try.prog 112 #[.slice a fs.length cap, .string v, .bool has] wx fun e w' => e = .returned (.bool (holdAll fs v has)) ∧ Below wx.heap.size wx w') :=
    fun v has wx hx => iall_any a cap fs v has wx (by unfold maxLen; omega) hf (fun t ht => by have := kindB_parts (hf t ht); unfold maxLen; omega) (hrow.below hx)
  clear hrow hf
  have hA := Ha.out ⟨#[]⟩ false w (Below.refl _ _)
  have hB := fun wx hx => Ha.out ⟨#[]⟩ true wx hx
  cases h1 : holdAll fs ⟨#[]⟩ false
  rotate_left
  · rw [h1] at hA
    have HA := hide hA
    have Hn : Hid (canB fs = true) := by show _ = _; unfold canB; rw [h1]; rfl
    clear hA hB h1
    go_enter Try.func80, Try.ntmps80
    go_wp2_with fail
    refine HA.out.mono ?_
    rintro e w1 ⟨rfl, hb1⟩
    go_wp2
    go_ret
    exact ⟨ret_bool Hn.out.symm, hb1⟩
  rw [h1] at hA
  have HA := hide hA
  cases h2 : holdAll fs ⟨#[]⟩ true
  rotate_left
  · rw [h2] at hB
    have HB := hide hB
    have Hn : Hid (canB fs = true) := by show _ = _; unfold canB; rw [h1, h2]; rfl
    clear hA hB h1 h2
    go_enter Try.func80, Try.ntmps80
    go_wp2_with fail
    refine HA.out.mono ?_
    rintro e w1 ⟨rfl, hb1⟩
    go_wp2_with fail
    refine (HB.out _ hb1).mono ?_
    rintro e w2 ⟨rfl, hb2⟩
    go_wp2
    go_ret
    exact ⟨ret_bool Hn.out.symm, hb1.trans (hb2.mono hb1.size)⟩
  rw [h2] at hB
  have HB := hide hB
  have He : Hid ((∀ k (hk : k < fs.length), ∀ v ∈ askOf (fs[k]'hk), holdAll fs v true = false) → canB fs = false) := canB_end h1 h2
  clear hA hB h1 h2
  go_enter Try.func80, Try.ntmps80
  go_wp2_with fail
  refine HA.out.mono ?_
  rintro e w1 ⟨rfl, hb1⟩
  go_wp2_with fail
  refine (HB.out _ hb1).mono ?_
  rintro e w2 ⟨rfl, hb2⟩
  have hbw2 := hb1.trans (hb2.mono hb1.size)
  clear hb2
  go_wp2
  go_loopw [15] (fun i wr => ∃ (k : Nat), k ≤ fs.length ∧ i = .int .i64 k ∧ Hid (∀ j (hj : j < fs.length), j < k → ∀ v ∈ askOf (fs[j]'hj), holdAll fs v true = false) ∧ Below w.heap.size w wr) (fun i _ => fs.length - (intOf i).toNat)
  case atStart => exact ⟨0, Nat.zero_le _, rfl, fun j hj h => by omega, hbw2⟩
  case round =>
    clear hbw2 hb1
    obtain ⟨k, hk, rfl, Hx, hbw⟩ := hrel
    by_cases hlt : k < fs.length
    · obtain ⟨b, off, rfl, hat⟩ := (Hr.out.below hbw) (by omega)
      obtain ⟨u, hc, av, capv, hu, hs⟩ := hat k hlt
      have Hhit : Hid (∀ m (hm : m < (askOf (fs[k]'hlt)).length), holdAll fs ((askOf (fs[k]'hlt))[m]) true = true → canB fs = true) := fun m hm h => canB_hit hlt hm h
      have Hs : Hid ((∀ v ∈ askOf (fs[k]'hlt), holdAll fs v true = false) → ∀ j (hj : j < fs.length), j < k + 1 → ∀ v ∈ askOf (fs[j]'hj), holdAll fs v true = false) := fun h j hj hjk => by
        by_cases e : j = k
        · subst e; exact h
        · exact Hx.out j hj (by omega)
      have hq := iask_any (fs[k]'hlt) u av capv wr hu hs.1
      have hal := ask_len (Hf.out _ (List.getElem_mem hlt))
      obtain ⟨ty, iv, rfl⟩ := isV_if hu
      clear hat Hx hs hu
      generalize askOf (fs[k]'hlt) = L at *
      have Hq := hide hq
      clear hq
      go_wp2_with fail
      refine Hq.out.mono ?_
      rintro e w3 ⟨a', cap', rfl, hs3, hb3⟩
      have hbw3 := hbw.trans (hb3.mono hbw.size)
      have Hs3 := hide hs3
      clear hb3 hs3
      go_wp2
      go_loopw [22] (fun i wr => ∃ (m : Nat), m ≤ L.length ∧ i = .int .i64 m ∧ Hid (∀ j (hj : j < L.length), j < m → holdAll fs (L[j]'hj) true = false) ∧ Below w.heap.size w wr ∧ Hid (Below w3.heap.size w3 wr)) (fun i _ => L.length - (intOf i).toNat)
      case atStart => exact ⟨0, Nat.zero_le _, rfl, fun j hj h => by omega, hbw3, Below.refl _ _⟩
      case round =>
        clear hbw3
        obtain ⟨m, hm, rfl, Hy, hbm, Hb3⟩ := hrel
        by_cases hmt : m < L.length
        · obtain ⟨b2, off2, rfl, hat2⟩ := (Hs3.out.below Hb3.out) (by omega)
          have hcm := hat2 m hmt
          have Hh : Hid (holdAll fs (L[m]'hmt) true = true → canB fs = true) := fun h => Hhit.out m hmt h
          have Hys : Hid (holdAll fs (L[m]'hmt) true = false → ∀ j (hj : j < L.length), j < m + 1 → holdAll fs (L[j]'hj) true = false) := fun h j hj hjm => by
            by_cases e : j = m
            · subst e; exact h
            · exact Hy.out j hj (by omega)
          clear hat2 Hy
          generalize L[m]'hmt = V at *
          have hcon := Ha.out V true _ hbm
          cases hv : holdAll fs V true
          · rw [hv] at hcon
            have Hcon := hide hcon
            have Hn := hide (Hys.out hv)
            clear hcon hv Hys Hh
            go_wp2_with fail
            refine Hcon.out.mono ?_
            rintro e w4 ⟨rfl, hb4⟩
            go_wp2
            go_roundw
            case rel => exact ⟨m + 1, by omega, by go_num, Hn, hbm.trans (hb4.mono hbm.size), Hb3.out.trans (hb4.mono Hb3.out.size)⟩
            case measure => simp [intOf]; omega
          · rw [hv] at hcon
            have Hcon := hide hcon
            have Hn := hide (Hh.out hv)
            clear hcon hv Hys Hh
            go_wp2_with fail
            refine Hcon.out.mono ?_
            rintro e w4 ⟨rfl, hb4⟩
            go_wp2
            go_ret
            exact ⟨ret_bool Hn.out.symm, hbm.trans (hb4.mono hbm.size)⟩
        · have e : m = L.length := by omega
          subst e
          have Hn := hide (Hs.out fun v hv => by obtain ⟨i, hi, rfl⟩ := List.getElem_of_mem hv; exact Hy.out i hi hi)
          clear Hy Hs
          go_wp2
          go_roundw
          case rel => exact ⟨k + 1, by omega, by go_num, Hn, hbm⟩
          case measure => simp [intOf]; omega
    · have e : k = fs.length := by omega
      subst e
      have Hn := hide (He.out fun i hi => Hx.out i hi hi)
      clear Hx Hr
      go_wp2
      go_ret
      exact ⟨ret_bool Hn.out.symm, hbw⟩

set_option maxRecDepth 100000 in
set_option maxHeartbeats 800000 in
theorem inever_any (a : Option Addr) (cap : Nat) (ts : List TD) (w : World) (hl : ts.length ≤ maxLen) (hz : ∀ t ∈ ts, t.2.2.length ≤ maxLen) (hrow : termsOf w a ts) :
    Calls Try.prog 34 #[.slice a ts.length cap] w fun e w' => e = .returned (.bool (neverB ts)) ∧ Below w.heap.size w w' := by
  have hA := itermsOf_any a cap ts w hl hz hrow
  have HA := hide hA
  clear hA hl hz hrow
  go_enter Try.func34, Try.ntmps34
  go_wp2_with fail
  refine HA.out.mono ?_
  rintro e w1 ⟨⟨hb, g, cp, rfl, hi⟩ | ⟨hb, rfl⟩, hb1⟩
  rotate_left
  · have Hn := hide (never_sel hb)
    clear hb HA
    go_wp2
    go_ret
    exact ⟨ret_bool Hn.out.symm, hb1⟩
  have hs8 : ts.length ≤ 8 ∧ ∀ t ∈ ts, termB t = true := by have := hb; unfold selB at this; rw [decide_eq_true_eq] at this; exact this
  obtain ⟨h8, hft⟩ := hs8
  have Hft := hide hft
  have Hsel := hide hb
  have Hi := hide hi
  have Hhit : Hid (∀ k (hk : k < ts.length), aloneB ts (ts[k]'hk).2.1 = true → neverB ts = true) := fun k hk h => never_hit hb hk h
  have Hac : Hid (∀ key, aloneB ts key = !canB (about ts key)) := fun key => alone_can hb key
  clear hb HA hi hft
  go_wp2
  go_loopw [16] (fun i wr => ∃ (k : Nat), k ≤ ts.length ∧ i = .int .i64 k ∧ Hid (∀ j (hj : j < ts.length), j < k → aloneB ts (ts[j]'hj).2.1 = false) ∧ Below w.heap.size w wr ∧ Hid (Below w1.heap.size w1 wr)) (fun i _ => ts.length - (intOf i).toNat)
  case atStart => exact ⟨0, Nat.zero_le _, rfl, fun j hj h => by omega, hb1, Below.refl _ _⟩
  case round =>
    clear hb1
    obtain ⟨k, hk, rfl, Hx, hbw, Hb1⟩ := hrel
    by_cases hlt : k < ts.length
    · obtain ⟨b, off, hbo, hat⟩ := (Hi.out.below Hb1.out) (by omega)
      simp only [Option.some.injEq, Addr.mk.injEq, and_true] at hbo
      obtain ⟨rfl, rfl⟩ := hbo
      obtain ⟨u, hc, av, capv, hu, hs⟩ := hat k hlt
      rw [Nat.zero_add] at hc
      have Hb : Hid (aloneB ts (ts[k]'hlt).2.1 = true → neverB ts = true) := fun h => Hhit.out k hlt h
      have Hs : Hid (aloneB ts (ts[k]'hlt).2.1 = false → ∀ j (hj : j < ts.length), j < k + 1 → aloneB ts (ts[j]'hj).2.1 = false) := fun h j hj hjk => by
        by_cases e : j = k
        · subst e; exact h
        · exact Hx.out j hj (by omega)
      obtain ⟨ty, iv, rv, rfl, ab, hta⟩ := about_of hu
      have Hta := hide (hta wr)
      have hac := Hac.out (ts[k]'hlt).2.1
      clear hat Hx hs hu hta
      generalize (ts[k]'hlt).2.1 = key at *
      have Hab : Hid (∀ wx, Below w1.heap.size w1 wx → Calls Try.prog 81 #[.slice (some ⟨g, 0, none⟩) ts.length cp, .string key] wx (aboutPost wx (about ts key))) := fun wx hx => iabout_any _ cp ts key wx h8 (Hi.out.below hx)
      have hal := about_len ts key
      have Hfa : Hid (∀ t ∈ about ts key, termB t = true) := fun t ht => Hft.out t (about_mem ht)
      generalize about ts key = fs at *
      have Hcan : Hid (∀ a cap wx, ifsOf wx a fs → Calls Try.prog 80 #[.slice a fs.length cap] wx fun e w' => e = .returned (.bool (canB fs)) ∧ Below wx.heap.size wx w') := fun a cap wx hx => ican_any a cap fs wx (by omega) Hfa.out hx
      go_wp2_with fail
      refine Hta.out.mono ?_
      rintro e w3 ⟨rfl, hb3⟩
      have hbw3 := hbw.trans (hb3.mono hbw.size)
      have Hb3 : Hid (Below w1.heap.size w1 w3) := Hb1.out.trans (hb3.mono Hb1.out.size)
      clear ab hb3
      go_wp2_with fail
      refine (Hab.out _ Hb3.out).mono ?_
      rintro e w4 ⟨g4, cp4, rfl, hi4, hb4⟩
      have hbw4 := hbw3.trans (hb4.mono hbw3.size)
      have Hb4 : Hid (Below w1.heap.size w1 w4) := Hb3.out.trans (hb4.mono Hb3.out.size)
      have hcon := Hcan.out (some ⟨g4, 0, none⟩) cp4 w4 hi4
      clear hb4 hi4 Hcan Hab
      cases hcb : canB fs
      · rw [hcb] at hcon hac
        have Hcon := hide hcon
        have Hn := hide (Hb.out hac)
        clear hcon hcb hac Hb Hs
        go_wp2_with fail
        refine Hcon.out.mono ?_
        rintro e w5 ⟨rfl, hb5⟩
        go_wp2
        go_ret
        exact ⟨ret_bool Hn.out.symm, hbw4.trans (hb5.mono hbw4.size)⟩
      · rw [hcb] at hcon hac
        have Hcon := hide hcon
        have Hn := hide (Hs.out hac)
        clear hcon hcb hac Hb Hs
        go_wp2_with fail
        refine Hcon.out.mono ?_
        rintro e w5 ⟨rfl, hb5⟩
        go_wp2
        go_roundw
        case rel => exact ⟨k + 1, by omega, by go_num, Hn, hbw4.trans (hb5.mono hbw4.size), Hb4.out.trans (hb5.mono Hb4.out.size)⟩
        case measure => simp [intOf]; omega
    · have e : k = ts.length := by omega
      subst e
      have Hn := hide (never_end fun i hi => Hx.out i hi hi)
      clear Hx Hi
      go_wp2
      go_ret
      exact ⟨ret_bool Hn.out.symm, hbw⟩
end Go.Proofs.Ytbadjopaocindaa
