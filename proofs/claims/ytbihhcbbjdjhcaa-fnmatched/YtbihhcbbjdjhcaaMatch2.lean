/- spec.Matches and impl.Matches. -/
import Derived.Test.YtbihhcbbjdjhcaaMatch1
import Derived.Test.YtbihhcbbjdjhcaaLabs6
namespace Go.Proofs.Ytbihhcbbjdjhcaa
open Go.RowKit Go.BigFrame
set_option linter.unusedVariables false

def hitB (ls : List (ByteArray × ByteArray)) (t : TD) : Bool := holdsB t (getV ls t.2.1) (getH ls t.2.1)
def matchB (ts : List TD) (ls : List (ByteArray × ByteArray)) : Bool := selB ts && labelsB ls && ts.all (hitB ls)
theorem matchB_sel {ts : List TD} {ls : List (ByteArray × ByteArray)} (h : selB ts = false) : matchB ts ls = false := by unfold matchB; rw [h]; rfl
theorem matchB_lab {ts : List TD} {ls : List (ByteArray × ByteArray)} (h : labelsB ls = false) : matchB ts ls = false := by unfold matchB; rw [h, Bool.and_false]; rfl
theorem matchB_hit {ts : List TD} {ls : List (ByteArray × ByteArray)} {k : Nat} (hk : k < ts.length) (h : hitB ls (ts[k]'hk) = false) : matchB ts ls = false := by
  unfold matchB
  have : ts.all (hitB ls) = false := by
    rw [List.all_eq_false]
    exact ⟨_, List.getElem_mem hk, by rw [h]; simp⟩
  rw [this, Bool.and_false]
theorem matchB_end {ts : List TD} {ls : List (ByteArray × ByteArray)} (h1 : selB ts = true) (h2 : labelsB ls = true) (h : ∀ i (hi : i < ts.length), hitB ls (ts[i]'hi) = true) : matchB ts ls = true := by
  unfold matchB
  rw [h1, h2, Bool.true_and, Bool.true_and, List.all_eq_true]
  intro t ht
  obtain ⟨i, hi, rfl⟩ := List.getElem_of_mem ht
  exact h i hi

set_option maxHeartbeats 400000 in
theorem smatches_any (a : Option Addr) (cap : Nat) (ts : List TD) (a' : Option Addr) (cap' : Nat) (ls : List (ByteArray × ByteArray)) (w : World) (hl : ts.length ≤ maxLen) (hz : okTerms ts) (hrow : termsOf w a ts) (hl' : ls.length ≤ maxLen) (hz' : okSizes ls) (hrow' : rowOf w a' ls) :
    Calls Try.prog 9 #[.slice a ts.length cap, .slice a' ls.length cap'] w fun e w' => e = .returned (.bool (matchB ts ls)) ∧ Below w.heap.size w w' := by
  have hl0 := hl
  unfold maxLen at hl
  have Hr := hide hrow
  have Hz := hide hz
  have Hr' := hide hrow'
  have Hz' := hide hz'
  have hA := fun wx hx => sselOk_any a cap ts wx hl0 hz hx
  have hB := fun wx hx => slabelsOk_any a' cap' ls wx hl' hz' hx
  clear hrow hz hrow' hz' hl0
  cases h1 : selB ts
  · rw [h1] at hA
    have HA := hide hA
    have Hn := hide (matchB_sel (ls := ls) h1)
    clear hA hB h1
    go_enter Try.func9, Try.ntmps9
    go_wp2_with fail
    refine (HA.out _ Hr.out).mono ?_
    rintro e w1 ⟨rfl, hb1⟩
    go_wp2
    go_ret
    exact ⟨ret_bool Hn.out.symm, hb1⟩
  rw [h1] at hA
  have HA := hide hA
  cases h2 : labelsB ls
  · rw [h2] at hB
    have HB := hide hB
    have Hn := hide (matchB_lab (ts := ts) h2)
    clear hA hB h1 h2
    go_enter Try.func9, Try.ntmps9
    go_wp2_with fail
    refine (HA.out _ Hr.out).mono ?_
    rintro e w1 ⟨rfl, hb1⟩
    have Hr1' := hide (Hr'.out.below hb1)
    go_wp2_with fail
    refine (HB.out _ Hr1'.out).mono ?_
    rintro e w2 ⟨rfl, hn2⟩
    have hb2 : Below w.heap.size w w2 := by obtain ⟨n, rfl⟩ := hn2; exact below_drewN hb1 n
    clear hn2
    go_wp2
    go_ret
    exact ⟨ret_bool Hn.out.symm, hb2⟩
  rw [h2] at hB
  have HB := hide hB
  have He : Hid ((∀ i (hi : i < ts.length), hitB ls (ts[i]'hi) = true) → matchB ts ls = true) := matchB_end h1 h2
  clear hA hB h1 h2
  go_enter Try.func9, Try.ntmps9
  go_wp2_with fail
  refine (HA.out _ Hr.out).mono ?_
  rintro e w1 ⟨rfl, hb1⟩
  have Hr1' := hide (Hr'.out.below hb1)
  go_wp2_with fail
  refine (HB.out _ Hr1'.out).mono ?_
  rintro e w2 ⟨rfl, hn2⟩
  have hb2 : Below w.heap.size w w2 := by obtain ⟨n, rfl⟩ := hn2; exact below_drewN hb1 n
  clear hn2
  go_wp2
  go_loopw [5] (fun i wr => ∃ (k : Nat), k ≤ ts.length ∧ i = .int .i64 k ∧ Hid (∀ j (hj : j < ts.length), j < k → hitB ls (ts[j]'hj) = true) ∧ Below w.heap.size w wr) (fun i _ => ts.length - (intOf i).toNat)
  case atStart => exact ⟨0, Nat.zero_le _, rfl, fun j hj h => by omega, hb2⟩
  case round =>
    obtain ⟨k, hk, rfl, Hx, hbw⟩ := hrel
    by_cases hlt : k < ts.length
    · obtain ⟨b, off, rfl, hat⟩ := Hr.out (by omega)
      obtain ⟨h0c, h1c, av, capv, h2c, h3c⟩ := (hat k hlt).below hbw
      have hz := (Hz.out _ (List.getElem_mem hlt))
      have Hb : Hid (hitB ls (ts[k]'hlt) = false → matchB ts ls = false) := fun h => matchB_hit hlt h
      have Hs : Hid (hitB ls (ts[k]'hlt) = true → ∀ j (hj : j < ts.length), j < k + 1 → hitB ls (ts[j]'hj) = true) := fun h j hj hjk => by
        by_cases e : j = k
        · subst e; exact h
        · exact Hx.out j hj (by omega)
      have Ht : Hid (termAt wr b (off + k * 3) (ts[k]'hlt)) := (hat k hlt).below hbw
      clear hat Hx h3c h2c h1c h0c
      generalize ts[k]'hlt = t at *
      obtain ⟨kd, key, ss⟩ := t
      have h1c := Ht.out.2.1
      simp only at h1c
      have hG := slabelGet_any a' cap' ls key wr hl' (Hr'.out.below hbw)
      have hH := fun v has av capv (wx : World) (hx : strOf wx av ss) => sholds_any (kd, key, ss) v has av capv wx hz.2.1 hx
      have HG := hide hG
      have HH := hide hH
      have Hq : Hid (hitB ls (kd, key, ss) = holdsB (kd, key, ss) (getV ls key) (getH ls key)) := rfl
      clear hG hH hz
      generalize getV ls key = v at *
      generalize getH ls key = has at *
      go_wp2_with fail
      refine HG.out.mono ?_
      rintro e w3 ⟨rfl, hb3⟩
      obtain ⟨g0, g1, av, capv, g2, g3⟩ := Ht.out.below hb3
      simp only at g0 g1 g2 g3
      have Hg3 := hide g3.1
      have hbw3 := hbw.trans (hb3.mono hbw.size)
      clear g3 hb3
      have hH2 := HH.out v has av capv w3 Hg3.out
      generalize hq : holdsB (kd, key, ss) v has = R at *
      have HH2 := hide hH2
      clear hq hH2 HH
      cases R
      · have Hn := hide (Hb.out Hq.out)
        clear Hb Hs
        go_wp2_with fail
        refine HH2.out.mono ?_
        rintro e w4 ⟨rfl, hb4⟩
        go_wp2
        go_ret
        exact ⟨ret_bool Hn.out.symm, hbw3.trans (hb4.mono hbw3.size)⟩
      · have Hn := hide (Hs.out Hq.out)
        clear Hb Hs
        go_wp2_with fail
        refine HH2.out.mono ?_
        rintro e w4 ⟨rfl, hb4⟩
        go_wp2
        go_roundw
        case rel => exact ⟨k + 1, by omega, by go_num, Hn, hbw3.trans (hb4.mono hbw3.size)⟩
        case measure => simp [intOf]; omega
    · have e : k = ts.length := by omega
      subst e
      have Hn : Hid (matchB ts ls = true) := He.out fun i hi => Hx.out i hi hi
      clear Hx Hr Hz
      go_wp2
      go_ret
      exact ⟨ret_bool Hn.out.symm, hbw⟩

theorem ab_isTerm (k v : ByteArray) (w : World) : (method 199 66 (.agg #[.string k, .string v]) "loop.example/g00119/impl.about").run Try.prog w = .ok (56, .agg #[.string k]) w := by kernel_rfl
theorem ab_notTerm (k v : ByteArray) (w : World) : (method 199 67 (.agg #[.string k, .string v]) "loop.example/g00119/impl.about").run Try.prog w = .ok (56, .agg #[.string k]) w := by kernel_rfl
theorem ab_inTerm (k : ByteArray) (a : Option Addr) (n c : Nat) (w : World) : (method 199 69 (.agg #[.string k, .slice a n c]) "loop.example/g00119/impl.about").run Try.prog w = .ok (56, .agg #[.string k]) w := by kernel_rfl
theorem ab_hasTerm (k : ByteArray) (w : World) : (method 199 72 (.agg #[.string k]) "loop.example/g00119/impl.about").run Try.prog w = .ok (56, .agg #[.string k]) w := by kernel_rfl
theorem ab_lacksTerm (k : ByteArray) (w : World) : (method 199 73 (.agg #[.string k]) "loop.example/g00119/impl.about").run Try.prog w = .ok (56, .agg #[.string k]) w := by kernel_rfl
theorem tkey_any (key : ByteArray) (w : World) : Calls Try.prog 56 #[.agg #[.string key]] w fun e w' => e = .returned (.string key) ∧ Below w.heap.size w w' := by
  go_enter Try.func56, Try.ntmps56
  go_wp2
  go_ret
  exact ⟨rfl, (Below.refl _ _).alloc (by simp) _⟩
theorem about_of {u : Value} {t : TD} {a : Option Addr} {cap : Nat} (hu : isV u t a cap) : ∃ ty iv rv, u = .iface ty iv ∧ (∀ w, (method 199 ty iv "loop.example/g00119/impl.about").run Try.prog w = .ok (56, rv) w) ∧
    ∀ w, Calls Try.prog 56 #[rv] w fun e w' => e = .returned (.string t.2.1) ∧ Below w.heap.size w w' := by
  rcases hu with ⟨_, rfl⟩ | ⟨_, rfl⟩ | ⟨_, rfl⟩ | ⟨_, rfl⟩ | ⟨_, rfl⟩
  · exact ⟨_, _, _, rfl, fun w => ab_isTerm _ _ w, fun w => tkey_any _ w⟩
  · exact ⟨_, _, _, rfl, fun w => ab_notTerm _ _ w, fun w => tkey_any _ w⟩
  · exact ⟨_, _, _, rfl, fun w => ab_inTerm _ _ _ _ w, fun w => tkey_any _ w⟩
  · exact ⟨_, _, _, rfl, fun w => ab_hasTerm _ w, fun w => tkey_any _ w⟩
  · exact ⟨_, _, _, rfl, fun w => ab_lacksTerm _ w, fun w => tkey_any _ w⟩
set_option maxRecDepth 100000 in
set_option maxHeartbeats 400000 in
theorem imatches_any (a : Option Addr) (cap : Nat) (ts : List TD) (a' : Option Addr) (cap' : Nat) (ls : List (ByteArray × ByteArray)) (w : World) (hl : ts.length ≤ maxLen) (hz : ∀ t ∈ ts, t.2.2.length ≤ maxLen) (hrow : termsOf w a ts) (hl' : ls.length ≤ maxLen) (hrow' : rowOf w a' ls) :
    Calls Try.prog 8 #[.slice a ts.length cap, .slice a' ls.length cap'] w fun e w' => e = .returned (.bool (matchB ts ls)) ∧ Below w.heap.size w w' := by
  have hA := itermsOf_any a cap ts w hl hz hrow
  have hB := fun wx hx => ilabelsOk_any a' cap' ls wx hl' hx
  have HA := hide hA
  have Hz := hide hz
  have Hr' := hide hrow'
  unfold maxLen at hl
  clear hA hrow hrow' hz
  go_enter Try.func8, Try.ntmps8
  go_wp2_with fail
  refine HA.out.mono ?_
  rintro e w1 ⟨⟨hb, g, cp, rfl, hi⟩ | ⟨hb, rfl⟩, hb1⟩
  rotate_left
  · have Hn := hide (matchB_sel (ls := ls) hb)
    clear hb hB HA
    go_wp2
    go_ret
    exact ⟨ret_bool Hn.out.symm, hb1⟩
  have Hr1' := hide (Hr'.out.below hb1)
  cases h2 : labelsB ls
  · rw [h2] at hB
    have HB := hide hB
    have Hn := hide (matchB_lab (ts := ts) h2)
    clear hb h2 hB HA
    go_wp2_with fail
    refine (HB.out _ Hr1'.out).mono ?_
    rintro e w2 ⟨rfl, hb2⟩
    go_wp2
    go_ret
    exact ⟨ret_bool Hn.out.symm, hb1.trans (hb2.mono hb1.size)⟩
  rw [h2] at hB
  have HB := hide hB
  have Hi := hide hi
  have He : Hid ((∀ i (hi : i < ts.length), hitB ls (ts[i]'hi) = true) → matchB ts ls = true) := matchB_end hb h2
  have Hsel := hide hb
  clear hb h2 hB HA hi
  go_wp2_with fail
  refine (HB.out _ Hr1'.out).mono ?_
  rintro e w2 ⟨rfl, hb2⟩
  have Hi2 := hide (Hi.out.below hb2)
  have hbw2 := hb1.trans (hb2.mono hb1.size)
  clear Hi hb2
  go_wp2
  go_loopw [25] (fun i wr => ∃ (k : Nat), k ≤ ts.length ∧ i = .int .i64 k ∧ Hid (∀ j (hj : j < ts.length), j < k → hitB ls (ts[j]'hj) = true) ∧ Below w.heap.size w wr ∧ Hid (Below w2.heap.size w2 wr)) (fun i _ => ts.length - (intOf i).toNat)
  case atStart => exact ⟨0, Nat.zero_le _, rfl, fun j hj h => by omega, hbw2, Below.refl _ _⟩
  case round =>
    obtain ⟨k, hk, rfl, Hx, hbw, Hb2⟩ := hrel
    by_cases hlt : k < ts.length
    · obtain ⟨b, off, hbo, hat⟩ := (Hi2.out.below Hb2.out) (by omega)
      simp only [Option.some.injEq, Addr.mk.injEq, and_true] at hbo
      obtain ⟨rfl, rfl⟩ := hbo
      obtain ⟨u, hc, av, capv, hu, hs⟩ := hat k hlt
      rw [Nat.zero_add] at hc
      have htb := selB_mem Hsel.out hlt
      have hz := Hz.out _ (List.getElem_mem hlt)
      have Hb : Hid (hitB ls (ts[k]'hlt) = false → matchB ts ls = false) := fun h => matchB_hit hlt h
      have Hs : Hid (hitB ls (ts[k]'hlt) = true → ∀ j (hj : j < ts.length), j < k + 1 → hitB ls (ts[j]'hj) = true) := fun h j hj hjk => by
        by_cases e : j = k
        · subst e; exact h
        · exact Hx.out j hj (by omega)
      clear hat Hx
      generalize ts[k]'hlt = t at *
      obtain ⟨kd, key, ss⟩ := t
      obtain ⟨ty, iv, rv, rfl, ab, hta⟩ := about_of hu
      have Hta := hide hta
      have Hg : Hid (∀ wx, Below w.heap.size w wx → Calls Try.prog 19 #[.slice a' ls.length cap', .string key] wx fun e w' => e = .returned (.tuple #[.string (getV ls key), .bool (getH ls key)]) ∧ Below wx.heap.size wx w') := fun wx hx => ilabelGet_any a' cap' ls key wx hl' (Hr'.out.below hx)
      have Hh : Hid (∀ v has wx, Below wr.heap.size wr wx → Calls Try.prog 20 #[.iface ty iv, .string v, .bool has] wx fun e w' => e = .returned (.bool (holdsB (kd, key, ss) v has)) ∧ Below wx.heap.size wx w') :=
        fun v has wx hx => iholds_any (kd, key, ss) _ v has av capv wx htb hz hu (hs.1.below hx)
      have Hq : Hid (hitB ls (kd, key, ss) = holdsB (kd, key, ss) (getV ls key) (getH ls key)) := rfl
      clear hta hu hs htb hz
      generalize getV ls key = v at *
      generalize getH ls key = has at *
      go_wp2_with fail
      refine (Hta.out _).mono ?_
      rintro e w3 ⟨rfl, hb3⟩
      have hbw3 := hbw.trans (hb3.mono hbw.size)
      clear ab
      go_wp2_with fail
      refine (Hg.out _ hbw3).mono ?_
      rintro e w4 ⟨rfl, hb4⟩
      have hbw4 := hbw3.trans (hb4.mono hbw3.size)
      have Hb4 : Hid (Below wr.heap.size wr w4) := hb3.trans (hb4.mono hb3.size)
      clear hb3 hb4
      have hh4 := Hh.out v has w4 Hb4.out
      generalize hq : holdsB (kd, key, ss) v has = R at *
      have Hh4 := hide hh4
      clear hq hh4 Hh
      cases R
      · have Hn := hide (Hb.out Hq.out)
        clear Hb Hs
        go_wp2_with fail
        refine Hh4.out.mono ?_
        rintro e w5 ⟨rfl, hb5⟩
        go_wp2
        go_ret
        exact ⟨ret_bool Hn.out.symm, hbw4.trans (hb5.mono hbw4.size)⟩
      · have Hn := hide (Hs.out Hq.out)
        clear Hb Hs
        go_wp2_with fail
        refine Hh4.out.mono ?_
        rintro e w5 ⟨rfl, hb5⟩
        go_wp2
        go_roundw
        case rel => exact ⟨k + 1, by omega, by go_num, Hn, hbw4.trans (hb5.mono hbw4.size), Hb2.out.trans ((Hb4.out.trans (hb5.mono Hb4.out.size)).mono Hb2.out.size)⟩
        case measure => simp [intOf]; omega
    · have e : k = ts.length := by omega
      subst e
      have Hn : Hid (matchB ts ls = true) := He.out fun i hi => Hx.out i hi hi
      clear Hx Hi2
      go_wp2
      go_ret
      exact ⟨ret_bool Hn.out.symm, hbw⟩
end Go.Proofs.Ytbihhcbbjdjhcaa
