/- Both SelectorText. -/
import Derived.Test.YtbadjopaocindaaTermTx2
namespace Go.Proofs.Ytbadjopaocindaa
open Go.RowKit Go.BigFrame
set_option linter.unusedVariables false

set_option maxRecDepth 100000 in
set_option maxHeartbeats 800000 in
theorem iselText_any (a : Option Addr) (cap : Nat) (ts : List TD) (w : World) (hl : ts.length ≤ maxLen) (hz : ∀ t ∈ ts, t.2.2.length ≤ maxLen) (hrow : termsOf w a ts) :
    Calls Try.prog 32 #[.slice a ts.length cap] w fun e w' => e = .returned (.string (selTx ts)) ∧ Below w.heap.size w w' := by
  obtain ⟨i0, hi0, hz0, hz1, hz2⟩ := info_parts Try.infoStr
  have hA := itermsOf_any a cap ts w hl hz hrow
  have HA := hide hA
  clear hA hl hz hrow
  go_enter Try.func32, Try.ntmps32
  go_wp2_with fail
  refine HA.out.mono ?_
  rintro e w1 ⟨⟨h1, g, cp, rfl, hi⟩ | ⟨h1, rfl⟩, hb1⟩
  rotate_left
  · have HT : Hid (selTx ts = ⟨#[]⟩) := by show _ = _; unfold selTx; rw [h1]; rfl
    clear h1 HA
    go_wp2
    go_ret
    exact ⟨ret_str HT.out.symm, hb1⟩
  have HT : Hid (selTx ts = jn 44 (ts.map termTx)) := by show _ = _; unfold selTx; rw [h1]; rfl
  have Hm : Hid (∀ k (hk : k < ts.length), termB (ts[k]'hk) = true) := fun k hk => selB_mem h1 hk
  have hle := selB_len h1
  have Hi := hide hi
  have Hsz : Hid ((jn 44 (ts.map termTx)).size ≤ 1224) := by have := jn_size_all 44 152 _ (map_tx_size h1); rw [List.length_map] at this; show _ ≤ _; omega
  clear h1 HA hi
  go_wp2
  go_loopw [5, 18] (fun s i wr => ∃ (k : Nat), k ≤ ts.length ∧ i = .int .i64 k ∧ Hid (s ≠ .slice none 0 0) ∧ Hid (wr.ownsRow w1.heap.size 9 1 s k (strVs ((ts.map termTx).take k))) ∧ Below w1.heap.size w1 wr) (fun _ i _ => ts.length - (intOf i).toNat)
  case atStart => exact ⟨0, Nat.zero_le _, rfl, (fun h => by cases h), World.ownsRow_lit w1 #[] 0 (Nat.le_refl _) (by decide) rfl, (Below.refl _ _).alloc (Nat.le_refl _) _⟩
  case round =>
    obtain ⟨k, hk, rfl, Hnn, How, hbw⟩ := hrel
    by_cases hlt : k < ts.length
    · obtain ⟨b, off, hbo, hat⟩ := (Hi.out.below hbw) (by omega)
      simp only [Option.some.injEq, Addr.mk.injEq, and_true] at hbo
      obtain ⟨rfl, rfl⟩ := hbo
      obtain ⟨u, hc, av, capv, hu, hs⟩ := hat k hlt
      rw [Nat.zero_add] at hc
      have ht := Hm.out k hlt
      have hcon := itext_any (ts[k]'hlt) u av capv wr ht hs.2 hu hs.1
      have Hcon := hide hcon
      have Hn : Hid (strVs ((ts.map termTx).take (k + 1)) = strVs ((ts.map termTx).take k) ++ [.string (termTx (ts[k]'hlt))]) := by
        show _ = _
        rw [take_succ_get _ k (by simpa using hlt)]
        unfold strVs
        rw [List.map_append]
        simp
      obtain ⟨ty, iv, rfl⟩ := isV_if hu
      clear hat hcon ht hs hu
      generalize ts[k]'hlt = t at *
      generalize termTx t = T at *
      go_wp2_with fail
      refine Hcon.out.mono ?_
      rintro e w2 ⟨rfl, hb2⟩
      have How2 := hide (owns_below_any How.out hb2)
      have hbw2 := hbw.trans (hb2.mono hbw.size)
      clear hb2
      go_wp2_with (at_builtin; refine wpList_append_own _ rfl _ _ 31 rfl w1.heap.size 9 i0 _ 1 16 Try.underlying31 hi0 hz0 hz1 hz2 rfl (by decide) _ _ _ rfl (How2.out.alloc _) ⟨w2.heap.size, 0, none⟩ 1 1 [.string T] rfl rfl (cell_one_at1 _ _ rfl _ _) (fun x hx => by simp at hx; rcases hx with rfl; rfl) (by unfold maxLen; omega) (by omega) (by have := hbw2.size; simp; omega) ?_; intro v' w3 hown' hgrow3 hnil3)
      go_roundw
      case rel => exact ⟨k + 1, by omega, by go_num, (fun h => Hnn.out (hnil3.1 h).1), (by rw [Hn.out]; exact hown'), Below.grown (hbw2.alloc hbw2.size _) hgrow3 (by have := hbw2.size; simp; omega) (fun j hj => (How.out.lt _ hj).1)⟩
      case measure => simp [intOf]; omega
    · have e : k = ts.length := by omega
      subst e
      have Hf : Hid (∃ g cap, u5 = Value.slice (some ⟨g, 0, none⟩) ts.length cap ∧ ts.length ≤ cap) := by
        rcases How.out.2 with ⟨h, _⟩ | ⟨g, cap, cur, h, _, _, hc, _⟩
        · exact absurd h Hnn.out
        · exact ⟨g, cap, h, hc⟩
      obtain ⟨g, cp, hv, hcp⟩ := Hf.out
      subst hv
      have hml : (ts.map termTx).length = ts.length := by simp
      have hown := How.out
      rw [List.take_of_length_le (by simp)] at hown
      have hj := join_of (some ⟨g, 0, none⟩) cp (ts.map termTx) 44 wr (by omega) (by omega) (by have := Hsz.out; omega) (strOf_owns hown)
      rw [hml] at hj
      have Hj := hide hj
      clear How Hnn Hf Hm Hi hml hown hj
      go_wp2_with fail
      refine Hj.out.mono ?_
      rintro e w3 ⟨rfl, hb3⟩
      go_wp2
      go_ret
      exact ⟨ret_str HT.out.symm, hb1.trans ((hbw.trans (hb3.mono hbw.size)).mono hb1.size)⟩
end Go.Proofs.Ytbadjopaocindaa
