/- spec.SelectorText. -/
import Derived.Test.YtbadjopaocindaaSelTx0
import Derived.Test.YtbadjopaocindaaSel2
import Derived.Test.YtbadjopaocindaaTerm2
namespace Go.Proofs.Ytbadjopaocindaa
open Go.RowKit Go.BigFrame
set_option linter.unusedVariables false

theorem termB_parts {t : TD} (h : termB t = true) : valsB t.2.2 = true ∧ nameB t.2.1 = true ∧ kindB t.1 t.2.2.length = true := by
  unfold termB at h; rw [Bool.and_eq_true, Bool.and_eq_true] at h; exact ⟨h.1.1, h.1.2, h.2⟩
theorem nameB_sz {s : ByteArray} (h : nameB s = true) : s.size ≤ 20 := by
  unfold nameB at h; rw [decide_eq_true_eq] at h; exact h.2.2.1
theorem valsB_sz {ss : List ByteArray} (h : valsB ss = true) : ∀ s ∈ ss, s.size ≤ 20 := by
  intro s hs
  obtain ⟨i, hi, rfl⟩ := List.getElem_of_mem hs
  unfold valsB at h; rw [decide_eq_true_eq] at h
  have := (h i hi).1
  rw [ssAt_get hi] at this
  exact nameB_sz this
theorem sz_of (l : List UInt8) (n : Nat) (h : l.length = n) : (⟨l.toArray⟩ : ByteArray).size = n := by rw [← h]; simp [ByteArray.size]

theorem stext_any (t : TD) (a : Option Addr) (cap : Nat) (w : World) (ht : termB t = true) (hrow : strOf w a t.2.2) :
    Calls Try.prog 76 #[.agg #[.int .i64 t.1, .string t.2.1, .slice a t.2.2.length cap]] w fun e w' => e = .returned (.string (termTx t)) ∧ Below w.heap.size w w' := by
  obtain ⟨kd, key, ss⟩ := t
  obtain ⟨hv, hn, hk⟩ := termB_parts ht
  simp only at hv hn hk hrow ⊢
  have hsk := nameB_sz hn
  have hsv := valsB_sz hv
  have h6 := kindB_le hk
  have Hr := hide hrow
  unfold kindB at hk
  rw [decide_eq_true_eq] at hk
  clear hrow ht hv hn
  rcases hk with ⟨h1 | h2, hn1⟩ | ⟨h3, h30, h36⟩ | ⟨h4 | h5, hn0⟩
  · subst h1
    obtain ⟨b, off, rfl, hat⟩ := Hr.out (by omega)
    have hbb := World.block_lt_of_cell? _ _ (hat 0 (by omega))
    have c0 : w.cell? ⟨b, off, none⟩ = some (.string (ssAt ss 0)) := strAt_cells hat 0 (by omega)
    have hsz : (ssAt ss 0).size ≤ 20 := by rw [ssAt_get (by omega)]; exact hsv _ (List.getElem_mem _)
    have h0n : (0 : Int) < (ss.length : Int) := by omega
    have HT : Hid (termTx (1, key, ss) = (key ++ ⟨#[61]⟩) ++ ssAt ss 0) := rfl
    clear hat hsv hn1 h6
    generalize ssAt ss 0 = V at *
    generalize termTx (1, key, ss) = R at *
    go_enter Try.func76, Try.ntmps76
    go_wp2
    go_region
    go_wp2
    go_ret
    exact ⟨ret_str HT.out.symm, ((Below.refl _ _).alloc (by simp) _).drew⟩
  · subst h2
    obtain ⟨b, off, rfl, hat⟩ := Hr.out (by omega)
    have hbb := World.block_lt_of_cell? _ _ (hat 0 (by omega))
    have c0 : w.cell? ⟨b, off, none⟩ = some (.string (ssAt ss 0)) := strAt_cells hat 0 (by omega)
    have hsz : (ssAt ss 0).size ≤ 20 := by rw [ssAt_get (by omega)]; exact hsv _ (List.getElem_mem _)
    have h0n : (0 : Int) < (ss.length : Int) := by omega
    have HT : Hid (termTx (2, key, ss) = (key ++ ⟨#[33, 61]⟩) ++ ssAt ss 0) := rfl
    clear hat hsv hn1 h6
    generalize ssAt ss 0 = V at *
    generalize termTx (2, key, ss) = R at *
    go_enter Try.func76, Try.ntmps76
    go_wp2
    go_region
    go_wp2
    go_ret
    exact ⟨ret_str HT.out.symm, ((Below.refl _ _).alloc (by simp) _).drew⟩
  · subst h3
    have HT : Hid (termTx (3, key, ss) = ((key ++ ⟨#[32, 105, 110, 32, 40]⟩) ++ jn 32 ss) ++ ⟨#[41]⟩) := rfl
    have hs0 : (key ++ ⟨#[32, 105, 110, 32, 40]⟩).size ≤ 25 := by rw [ByteArray.size_append]; have : (⟨#[32, 105, 110, 32, 40]⟩ : ByteArray).size = 5 := rfl; omega
    have Hsv := hide hsv
    generalize termTx (3, key, ss) = R at *
    clear hsv h30 h36
    go_enter Try.func76, Try.ntmps76
    go_wp2
    generalize hP : key ++ ⟨#[32, 105, 110, 32, 40]⟩ = P at *
    have HP := hide hP
    clear hP
    go_loopw [3, 4] (fun s i wr => ∃ (k : Nat) (x : ByteArray), k ≤ ss.length ∧ i = .int .i64 k ∧ s = .string x ∧ x.size ≤ 25 + 21 * k ∧ Hid (x = P ++ jn 32 (ss.take k)) ∧ wr.cell? ⟨w.heap.size, 2, none⟩ = some (.slice a ss.length cap) ∧ Below w.heap.size w wr) (fun _ i _ => ss.length - (intOf i).toNat)
    case atStart => exact ⟨0, _, Nat.zero_le _, rfl, rfl, by omega, by show _ = _; rw [List.take_zero, jn_nil, bs_none], by simp, (Below.refl _ _).alloc (by simp) _⟩
    case round =>
      obtain ⟨k, x, hk, rfl, rfl, hx, Hx, b2, hbw⟩ := hrel
      by_cases hlt : k < ss.length
      · obtain ⟨b, off, rfl, hat⟩ := Hr.out (by omega)
        have hbb : b < w.heap.size := World.block_lt_of_cell? _ _ (hat k hlt)
        have c0 := (hbw.cell (p := ⟨b, off + k, none⟩) hbb).trans (hat k hlt)
        have hsz := Hsv.out _ (List.getElem_mem hlt)
        by_cases hp : 0 < k
        · have hp' : (0 : Int) < (k : Int) := by omega
          have Hn : Hid ((x ++ ⟨#[32]⟩) ++ ss[k] = P ++ jn 32 (ss.take (k + 1))) := by
            show _ = _
            rw [jn_succ 32 ss k hlt hp, Hx.out]
            simp only [bs_assoc]
          have hn0 : ((x ++ ⟨#[32]⟩) ++ ss[k]).size ≤ 25 + 21 * (k + 1) := by rw [ByteArray.size_append, ByteArray.size_append, one_size]; omega
          clear Hx hat
          generalize ss[k]'hlt = V at *
          go_wp2
          go_roundw
          case rel => exact ⟨k + 1, _, by omega, by go_num, rfl, hn0, Hn, b2, hbw⟩
          case measure => simp [intOf]; omega
        · have hk0 : k = 0 := by omega
          have Hn : Hid (x ++ ss[k] = P ++ jn 32 (ss.take (k + 1))) := by
            show _ = _
            rw [Hx.out]
            subst hk0
            rw [jn_zero 32 ss hlt, List.take_zero, jn_nil, bs_none]
          have hn0 : (x ++ ss[k]).size ≤ 25 + 21 * (k + 1) := by rw [ByteArray.size_append]; omega
          have h3' : decide ((0 : Int) < (k : Int)) = false := by rw [decide_eq_false_iff_not]; omega
          have h3a : (k : Int) ≤ 0 := by omega
          clear Hx hat hk0
          generalize ss[k]'hlt = V at *
          go_wp2
          go_roundw
          case rel => exact ⟨k + 1, _, by omega, by go_num, rfl, hn0, Hn, b2, hbw⟩
          case measure => simp [intOf]; omega
      · have e : k = ss.length := by omega
        subst e
        have Hn : Hid (x ++ ⟨#[41]⟩ = R) := by show _ = _; rw [HT.out, Hx.out, List.take_length]
        clear Hx Hr Hsv
        go_wp2
        go_ret
        exact ⟨ret_str Hn.out, hbw⟩
  · subst h4
    have HT : Hid (termTx (4, key, ss) = key) := rfl
    clear hsv hn0 h6
    generalize termTx (4, key, ss) = R at *
    go_enter Try.func76, Try.ntmps76
    go_wp2
    go_ret
    exact ⟨ret_str HT.out.symm, ((Below.refl _ _).alloc (by simp) _)⟩
  · subst h5
    have HT : Hid (termTx (5, key, ss) = ⟨#[33]⟩ ++ key) := rfl
    clear hsv hn0 h6
    generalize termTx (5, key, ss) = R at *
    go_enter Try.func76, Try.ntmps76
    go_wp2
    go_ret
    exact ⟨ret_str HT.out.symm, ((Below.refl _ _).alloc (by simp) _)⟩
theorem termTx_size {t : TD} (h : termB t = true) : (termTx t).size ≤ 152 := by
  obtain ⟨hv, hn, hk⟩ := termB_parts h
  have hsk := nameB_sz hn
  have hsv := valsB_sz hv
  have h6 := kindB_le hk
  have hV : (ssAt t.2.2 0).size ≤ 20 := by
    by_cases h0 : 0 < t.2.2.length
    · rw [ssAt_get h0]; exact hsv _ (List.getElem_mem _)
    · unfold ssAt; rw [List.getElem?_eq_none (by omega)]; exact Nat.zero_le _
  have hj := jn_size_all 32 20 t.2.2 hsv
  have s1 : (⟨#[61]⟩ : ByteArray).size = 1 := rfl
  have s2 : (⟨#[33, 61]⟩ : ByteArray).size = 2 := rfl
  have s3 : (⟨#[33]⟩ : ByteArray).size = 1 := rfl
  have s4 : (⟨#[32, 105, 110, 32, 40]⟩ : ByteArray).size = 5 := rfl
  have s5 : (⟨#[41]⟩ : ByteArray).size = 1 := rfl
  unfold termTx
  split
  · rw [ByteArray.size_append, ByteArray.size_append]; omega
  split
  · rw [ByteArray.size_append, ByteArray.size_append]; omega
  split
  · omega
  split
  · rw [ByteArray.size_append]; omega
  · rw [ByteArray.size_append, ByteArray.size_append, ByteArray.size_append]; omega

def selTx (ts : List TD) : ByteArray := if selB ts then jn 44 (ts.map termTx) else ⟨#[]⟩
theorem selB_len {ts : List TD} (h : selB ts = true) : ts.length ≤ 8 := by unfold selB at h; rw [decide_eq_true_eq] at h; exact h.1
theorem map_tx_size {ts : List TD} (h : selB ts = true) : ∀ p ∈ ts.map termTx, p.size ≤ 152 := by
  intro p hp
  obtain ⟨t, ht, rfl⟩ := List.mem_map.1 hp
  obtain ⟨i, hi, rfl⟩ := List.getElem_of_mem ht
  exact termTx_size (selB_mem h hi)

set_option maxHeartbeats 400000 in
theorem sselText_any (a : Option Addr) (cap : Nat) (ts : List TD) (w : World) (hl : ts.length ≤ maxLen) (hz : okTerms ts) (hrow : termsOf w a ts) :
    Calls Try.prog 31 #[.slice a ts.length cap] w fun e w' => e = .returned (.string (selTx ts)) ∧ Below w.heap.size w w' := by
  have Hr := hide hrow
  have hA := fun wx hx => sselOk_any a cap ts wx hl hz hx
  clear hrow hz hl
  cases h1 : selB ts
  · rw [h1] at hA
    have HA := hide hA
    have HT : Hid (selTx ts = ⟨#[]⟩) := by show _ = _; unfold selTx; rw [h1]; rfl
    clear hA h1
    go_enter Try.func31, Try.ntmps31
    go_wp2_with fail
    refine (HA.out _ Hr.out).mono ?_
    rintro e w1 ⟨rfl, hb1⟩
    go_wp2
    go_ret
    exact ⟨ret_str HT.out.symm, hb1⟩
  rw [h1] at hA
  have HA := hide hA
  have HT : Hid (selTx ts = jn 44 (ts.map termTx)) := by show _ = _; unfold selTx; rw [h1]; rfl
  have Hm : Hid (∀ k (hk : k < ts.length), termB (ts[k]'hk) = true) := fun k hk => selB_mem h1 hk
  have hle := selB_len h1
  clear hA h1
  go_enter Try.func31, Try.ntmps31
  go_wp2_with fail
  refine (HA.out _ Hr.out).mono ?_
  rintro e w1 ⟨rfl, hb1⟩
  go_wp2
  go_loopw [3, 4] (fun s i wr => ∃ (k : Nat) (x : ByteArray), k ≤ ts.length ∧ i = .int .i64 k ∧ s = .string x ∧ x.size ≤ 153 * k ∧ Hid (x = jn 44 ((ts.map termTx).take k)) ∧ Below w.heap.size w wr) (fun _ i _ => ts.length - (intOf i).toNat)
  case atStart => exact ⟨0, _, Nat.zero_le _, rfl, rfl, Nat.zero_le _, rfl, hb1⟩
  case round =>
    obtain ⟨k, x, hk, rfl, rfl, hx, Hx, hbw⟩ := hrel
    by_cases hlt : k < ts.length
    · obtain ⟨b, off, rfl, hat⟩ := Hr.out (by omega)
      obtain ⟨h0c, h1c, av, capv, h2c, h3c⟩ := (hat k hlt).below hbw
      have ht := Hm.out k hlt
      have hsz := termTx_size ht
      have hcon := stext_any (ts[k]'hlt) av capv wr ht h3c.1
      have hmk : (ts.map termTx)[k]'(by simpa using hlt) = termTx (ts[k]'hlt) := by simp
      have hml : (ts.map termTx).length = ts.length := by simp
      by_cases hp : 0 < k
      · have hp' : (0 : Int) < (k : Int) := by omega
        have Hn : Hid ((x ++ ⟨#[44]⟩) ++ termTx (ts[k]'hlt) = jn 44 ((ts.map termTx).take (k + 1))) := by
          show _ = _
          rw [jn_succ 44 _ k (by omega) hp, ← Hx.out, hmk]
        have hn0 : ((x ++ ⟨#[44]⟩) ++ termTx (ts[k]'hlt)).size ≤ 153 * (k + 1) := by rw [ByteArray.size_append, ByteArray.size_append, one_size]; omega
        clear hat hmk hml h3c ht Hx
        generalize ts[k]'hlt = t at *
        obtain ⟨kd, key, ss⟩ := t
        simp only at h0c h1c h2c hcon
        generalize termTx (kd, key, ss) = T at *
        have Hcon := hide hcon
        clear hcon
        go_wp2_with fail
        refine Hcon.out.mono ?_
        rintro e w2 ⟨rfl, hb2⟩
        go_wp2
        go_roundw
        case rel => exact ⟨k + 1, _, by omega, by go_num, rfl, hn0, Hn, hbw.trans (hb2.mono hbw.size)⟩
        case measure => simp [intOf]; omega
      · have h3' : decide ((0 : Int) < (k : Int)) = false := by rw [decide_eq_false_iff_not]; omega
        have h3a : (k : Int) ≤ 0 := by omega
        have Hn : Hid (x ++ termTx (ts[k]'hlt) = jn 44 ((ts.map termTx).take (k + 1))) := by
          show _ = _
          have hk0 : k = 0 := by omega
          subst hk0
          rw [jn_zero 44 _ (by omega), hmk, Hx.out, List.take_zero, jn_nil]
          exact bs_ext' (by rw [bs_app]; rfl)
        have hn0 : (x ++ termTx (ts[k]'hlt)).size ≤ 153 * (k + 1) := by rw [ByteArray.size_append]; omega
        clear hat hmk hml h3c ht Hx
        generalize ts[k]'hlt = t at *
        obtain ⟨kd, key, ss⟩ := t
        simp only at h0c h1c h2c hcon
        generalize termTx (kd, key, ss) = T at *
        have Hcon := hide hcon
        clear hcon
        go_wp2_with fail
        refine Hcon.out.mono ?_
        rintro e w2 ⟨rfl, hb2⟩
        go_wp2
        go_roundw
        case rel => exact ⟨k + 1, _, by omega, by go_num, rfl, hn0, Hn, hbw.trans (hb2.mono hbw.size)⟩
        case measure => simp [intOf]; omega
    · have e : k = ts.length := by omega
      subst e
      have Hn : Hid (x = selTx ts) := by show _ = _; rw [HT.out, Hx.out, List.take_of_length_le (by simp)]
      clear Hx Hr Hm
      go_wp2
      go_ret
      exact ⟨ret_str Hn.out, hbw⟩

end Go.Proofs.Ytbadjopaocindaa
