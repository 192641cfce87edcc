/- Both SelectorText. -/
import Derived.Test.YtbecmnljflghkaaTermTx2
namespace Go.Proofs.Ytbecmnljflghkaa
open Go.RowKit Go.BigFrame
set_option linter.unusedVariables false

def selTx (ts : List TD) : ByteArray := if selB ts then jn 44 (ts.map termTx) else ⟨#[]⟩
theorem selB_len {ts : List TD} (h : selB ts = true) : ts.length ≤ 8 := by unfold selB at h; rw [decide_eq_true_eq] at h; exact h.1
theorem map_tx_size {ts : List TD} (h : selB ts = true) : ∀ p ∈ ts.map termTx, p.size ≤ 152 := by
  intro p hp
  obtain ⟨t, ht, rfl⟩ := List.mem_map.1 hp
  obtain ⟨i, hi, rfl⟩ := List.getElem_of_mem ht
  exact termTx_size (selB_mem h hi)

set_option maxHeartbeats 400000 in
theorem sselText_any (a : Option Addr) (cap : Nat) (ts : List TD) (w : World) (hl : ts.length ≤ maxLen) (hz : okTerms ts) (hrow : termsOf w a ts) :
    Calls Try.prog 21 #[.slice a ts.length cap] w fun e w' => e = .returned (.string (selTx ts)) ∧ Below w.heap.size w w' := by
  have Hr := hide hrow
  have hA := fun wx hx => sselOk_any a cap ts wx hl hz hx
  clear hrow hz hl
  cases h1 : selB ts
  · rw [h1] at hA
    have HA := hide hA
    have HT : Hid (selTx ts = ⟨#[]⟩) := by show _ = _; unfold selTx; rw [h1]; rfl
    clear hA h1
    go_enter Try.func21, Try.ntmps21
    go_wp2_with fail
    refine (HA.out _ Hr.out).mono ?_
    rintro e w1 ⟨rfl, hb1⟩
    go_wp2
    go_ret
    exact ⟨ret_str HT.out.symm, hb1⟩
  rw [h1] at hA
  have HA := hide hA
  have HT : Hid (selTx ts = jn 44 (ts.map termTx)) := by show _ = _; unfold selTx; rw [h1]; rfl
  have Hm : Hid (∀ k (hk : k < ts.length), termB (ts[k]'hk) = true) := fun k hk => selB_mem h1 hk
  have hle := selB_len h1
  clear hA h1
  go_enter Try.func21, Try.ntmps21
  go_wp2_with fail
  refine (HA.out _ Hr.out).mono ?_
  rintro e w1 ⟨rfl, hb1⟩
  go_wp2
  go_loopw [3, 4] (fun s i wr => ∃ (k : Nat) (x : ByteArray), k ≤ ts.length ∧ i = .int .i64 k ∧ s = .string x ∧ x.size ≤ 153 * k ∧ Hid (x = jn 44 ((ts.map termTx).take k)) ∧ Below w.heap.size w wr) (fun _ i _ => ts.length - (intOf i).toNat)
  case atStart => exact ⟨0, _, Nat.zero_le _, rfl, rfl, Nat.zero_le _, rfl, hb1⟩
  case round =>
    obtain ⟨k, x, hk, rfl, rfl, hx, Hx, hbw⟩ := hrel
    by_cases hlt : k < ts.length
    · obtain ⟨b, off, rfl, hat⟩ := Hr.out (by omega)
      obtain ⟨h0c, h1c, av, capv, h2c, h3c⟩ := (hat k hlt).below hbw
      have ht := Hm.out k hlt
      have hsz := termTx_size ht
      have hcon := stext_any (ts[k]'hlt) av capv wr ht h3c.1
      have hmk : (ts.map termTx)[k]'(by simpa using hlt) = termTx (ts[k]'hlt) := by simp
      have hml : (ts.map termTx).length = ts.length := by simp
      by_cases hp : 0 < k
      · have hp' : (0 : Int) < (k : Int) := by omega
        have Hn : Hid ((x ++ ⟨#[44]⟩) ++ termTx (ts[k]'hlt) = jn 44 ((ts.map termTx).take (k + 1))) := by
          show _ = _
          rw [jn_succ 44 _ k (by omega) hp, ← Hx.out, hmk]
        have hn0 : ((x ++ ⟨#[44]⟩) ++ termTx (ts[k]'hlt)).size ≤ 153 * (k + 1) := by rw [ByteArray.size_append, ByteArray.size_append, one_size]; omega
        clear hat hmk hml h3c ht Hx
        generalize ts[k]'hlt = t at *
        obtain ⟨kd, key, ss⟩ := t
        simp only at h0c h1c h2c hcon
        generalize termTx (kd, key, ss) = T at *
        have Hcon := hide hcon
        clear hcon
        go_wp2_with fail
        refine Hcon.out.mono ?_
        rintro e w2 ⟨rfl, hb2⟩
        go_wp2
        go_roundw
        case rel => exact ⟨k + 1, _, by omega, by go_num, rfl, hn0, Hn, hbw.trans (hb2.mono hbw.size)⟩
        case measure => simp [intOf]; omega
      · have h3' : decide ((0 : Int) < (k : Int)) = false := by rw [decide_eq_false_iff_not]; omega
        have h3a : (k : Int) ≤ 0 := by omega
        have Hn : Hid (x ++ termTx (ts[k]'hlt) = jn 44 ((ts.map termTx).take (k + 1))) := by
          show _ = _
          have hk0 : k = 0 := by omega
          subst hk0
          rw [jn_zero 44 _ (by omega), hmk, Hx.out, List.take_zero, jn_nil]
          exact bs_ext' (by rw [bs_app]; rfl)
        have hn0 : (x ++ termTx (ts[k]'hlt)).size ≤ 153 * (k + 1) := by rw [ByteArray.size_append]; omega
        clear hat hmk hml h3c ht Hx
        generalize ts[k]'hlt = t at *
        obtain ⟨kd, key, ss⟩ := t
        simp only at h0c h1c h2c hcon
        generalize termTx (kd, key, ss) = T at *
        have Hcon := hide hcon
        clear hcon
        go_wp2_with fail
        refine Hcon.out.mono ?_
        rintro e w2 ⟨rfl, hb2⟩
        go_wp2
        go_roundw
        case rel => exact ⟨k + 1, _, by omega, by go_num, rfl, hn0, Hn, hbw.trans (hb2.mono hbw.size)⟩
        case measure => simp [intOf]; omega
    · have e : k = ts.length := by omega
      subst e
      have Hn : Hid (x = selTx ts) := by show _ = _; rw [HT.out, Hx.out, List.take_of_length_le (by simp)]
      clear Hx Hr Hm
      go_wp2
      go_ret
      exact ⟨ret_str Hn.out, hbw⟩

set_option maxRecDepth 100000 in
set_option maxHeartbeats 800000 in
theorem iselText_any (a : Option Addr) (cap : Nat) (ts : List TD) (w : World) (hl : ts.length ≤ maxLen) (hz : ∀ t ∈ ts, t.2.2.length ≤ maxLen) (hrow : termsOf w a ts) :
    Calls Try.prog 22 #[.slice a ts.length cap] w fun e w' => e = .returned (.string (selTx ts)) ∧ Below w.heap.size w w' := by
  obtain ⟨i0, hi0, hz0, hz1, hz2⟩ := info_parts Try.infoStr
  have hA := itermsOf_any a cap ts w hl hz hrow
  have HA := hide hA
  clear hA hl hz hrow
  go_enter Try.func22, Try.ntmps22
  go_wp2_with fail
  refine HA.out.mono ?_
  rintro e w1 ⟨⟨h1, g, cp, rfl, hi⟩ | ⟨h1, rfl⟩, hb1⟩
  rotate_left
  · have HT : Hid (selTx ts = ⟨#[]⟩) := by show _ = _; unfold selTx; rw [h1]; rfl
    clear h1 HA
    go_wp2
    go_ret
    exact ⟨ret_str HT.out.symm, hb1⟩
  have HT : Hid (selTx ts = jn 44 (ts.map termTx)) := by show _ = _; unfold selTx; rw [h1]; rfl
  have Hm : Hid (∀ k (hk : k < ts.length), termB (ts[k]'hk) = true) := fun k hk => selB_mem h1 hk
  have hle := selB_len h1
  have Hi := hide hi
  have Hsz : Hid ((jn 44 (ts.map termTx)).size ≤ 1224) := by have := jn_size_all 44 152 _ (map_tx_size h1); rw [List.length_map] at this; show _ ≤ _; omega
  clear h1 HA hi
  go_wp2
  go_loopw [5, 18] (fun s i wr => ∃ (k : Nat), k ≤ ts.length ∧ i = .int .i64 k ∧ Hid (s ≠ .slice none 0 0) ∧ Hid (wr.ownsRow w1.heap.size 9 1 s k (strVs ((ts.map termTx).take k))) ∧ Below w1.heap.size w1 wr) (fun _ i _ => ts.length - (intOf i).toNat)
  case atStart => exact ⟨0, Nat.zero_le _, rfl, (fun h => by cases h), World.ownsRow_lit w1 #[] 0 (Nat.le_refl _) (by decide) rfl, (Below.refl _ _).alloc (Nat.le_refl _) _⟩
  case round =>
    obtain ⟨k, hk, rfl, Hnn, How, hbw⟩ := hrel
    by_cases hlt : k < ts.length
    · obtain ⟨b, off, hbo, hat⟩ := (Hi.out.below hbw) (by omega)
      simp only [Option.some.injEq, Addr.mk.injEq, and_true] at hbo
      obtain ⟨rfl, rfl⟩ := hbo
      obtain ⟨u, hc, av, capv, hu, hs⟩ := hat k hlt
      rw [Nat.zero_add] at hc
      have ht := Hm.out k hlt
      have hcon := itext_any (ts[k]'hlt) u av capv wr ht hs.2 hu hs.1
      have Hcon := hide hcon
      have Hn : Hid (strVs ((ts.map termTx).take (k + 1)) = strVs ((ts.map termTx).take k) ++ [.string (termTx (ts[k]'hlt))]) := by
        show _ = _
        rw [take_succ_get _ k (by simpa using hlt)]
        unfold strVs
        rw [List.map_append]
        simp
      obtain ⟨ty, iv, rfl⟩ := isV_if hu
      clear hat hcon ht hs hu
      generalize ts[k]'hlt = t at *
      generalize termTx t = T at *
      go_wp2_with fail
      refine Hcon.out.mono ?_
      rintro e w2 ⟨rfl, hb2⟩
      have How2 := hide (owns_below_any How.out hb2)
      have hbw2 := hbw.trans (hb2.mono hbw.size)
      clear hb2
      go_wp2_with (at_builtin; refine wpList_append_own _ rfl _ _ 31 rfl w1.heap.size 9 i0 _ 1 16 Try.underlying31 hi0 hz0 hz1 hz2 rfl (by decide) _ _ _ rfl (How2.out.alloc _) ⟨w2.heap.size, 0, none⟩ 1 1 [.string T] rfl rfl (cell_one_at1 _ _ rfl _ _) (fun x hx => by simp at hx; rcases hx with rfl; rfl) (by unfold maxLen; omega) (by omega) (by have := hbw2.size; simp; omega) ?_; intro v' w3 hown' hgrow3 hnil3)
      go_roundw
      case rel => exact ⟨k + 1, by omega, by go_num, (fun h => Hnn.out (hnil3.1 h).1), (by rw [Hn.out]; exact hown'), Below.grown (hbw2.alloc hbw2.size _) hgrow3 (by have := hbw2.size; simp; omega) (fun j hj => (How.out.lt _ hj).1)⟩
      case measure => simp [intOf]; omega
    · have e : k = ts.length := by omega
      subst e
      have Hf : Hid (∃ g cap, u5 = Value.slice (some ⟨g, 0, none⟩) ts.length cap ∧ ts.length ≤ cap) := by
        rcases How.out.2 with ⟨h, _⟩ | ⟨g, cap, cur, h, _, _, hc, _⟩
        · exact absurd h Hnn.out
        · exact ⟨g, cap, h, hc⟩
      obtain ⟨g, cp, hv, hcp⟩ := Hf.out
      subst hv
      have hml : (ts.map termTx).length = ts.length := by simp
      have hown := How.out
      rw [List.take_of_length_le (by simp)] at hown
      have hj := join_of (some ⟨g, 0, none⟩) cp (ts.map termTx) 44 wr (by omega) (by omega) (by have := Hsz.out; omega) (strOf_owns hown)
      rw [hml] at hj
      have Hj := hide hj
      clear How Hnn Hf Hm Hi hml hown hj
      go_wp2_with fail
      refine Hj.out.mono ?_
      rintro e w3 ⟨rfl, hb3⟩
      go_wp2
      go_ret
      exact ⟨ret_str HT.out.symm, hb1.trans ((hbw.trans (hb3.mono hbw.size)).mono hb1.size)⟩
end Go.Proofs.Ytbecmnljflghkaa
