/- Queues: the program's places of items: slices.IndexFunc at its two closures, itemPlace. -/
import Derived.Test.YtpmhmcekkppbhaaQfH
import Derived.Deep.QuietTactic
namespace Go.Proofs.Ytpmhmcekkppbhaa
open Go.RowKit Go.BigFrame
set_option linter.unusedVariables false

def plcP (L : List It) (p : It → Bool) : Int := if L.findIdx p < L.length then (L.findIdx p : Int) else -1
theorem plcP_hit {L : List It} {p : It → Bool} {k : Nat} (hk : k < L.length) (h : p (L[k]'hk) = true) (ho : ∀ j (g : j < L.length), j < k → p (L[j]'g) = false) : plcP L p = (k : Int) := by
  have : L.findIdx p = k := (List.findIdx_eq hk).2 ⟨h, fun j hj => by simp [ho j (by omega) hj]⟩
  unfold plcP
  rw [this, if_pos hk]
theorem plcP_miss {L : List It} {p : It → Bool} (ho : ∀ j (g : j < L.length), p (L[j]'g) = false) : plcP L p = -1 := by
  have : L.findIdx p = L.length := List.findIdx_eq_length.2 (fun x hx => by obtain ⟨j, hj, rfl⟩ := List.mem_iff_getElem.1 hx; exact ho j hj)
  unfold plcP
  rw [this, if_neg (Nat.lt_irrefl _)]
theorem plcP_I (L : List It) (s : ByteArray) : plcP L (fun x => decide (x.1 = s)) = plcI L s := rfl
set_option maxRecDepth 20000 in
set_option maxHeartbeats 1600000 in
theorem ixNm_any (L : List It) (p : It → Bool) (cap : Addr) (c : Value) (w : World) (hn : L.length ≤ 4000000) (hx : rdR w 3 c (L.map encI)) (hc : ∀ wx, Below w.heap.size w wx → ∀ x ∈ L, Calls Try.prog 155 #[.agg #[.string x.1, .int .i64 x.2.1, .int .i64 x.2.2], .pointer (some cap)] wx fun e w' => e = .returned (.bool (p x)) ∧ Below wx.heap.size wx w') :
    Calls Try.prog 136 #[c, .func (.func 155) #[] #[.pointer (some cap)]] w fun e w' => e = .returned (.int .i64 (plcP L p)) ∧ Below w.heap.size w w' := by
  obtain ⟨a, pc, rfl, -, -⟩ := hx.itS
  have HX := hide hx
  have HC := hide hc
  clear hx hc
  go_enter Try.func136, Try.ntmps136
  go_wp2
  go_loopw [8] (fun i wr => ∃ (q : Nat), q ≤ L.length ∧ i = .int .i64 q ∧ Hid (∀ j (h : j < L.length), j < q → p (L[j]'h) = false) ∧ Hid (Below w.heap.size w wr)) (fun i _ => L.length - (intOf i).toNat)
  case atStart => exact ⟨0, Nat.zero_le _, rfl, (fun j _ h => by omega), Below.refl _ _⟩
  case round =>
    obtain ⟨q, hq, rfl, Ho, Hb⟩ := hrel
    by_cases hlt : q < L.length
    · obtain ⟨b, off, rfl, hbk, c0, c1, c2⟩ := (HX.out.below Hb.out).itAt hlt
      have HCx : Hid (∀ wx, Below wr.heap.size wr wx → Calls Try.prog 155 #[.agg #[.string (L[q].1), .int .i64 (L[q].2.1), .int .i64 (L[q].2.2)], .pointer (some cap)] wx fun e w' => e = .returned (.bool (p L[q])) ∧ Below wx.heap.size wx w') := fun wx hb => HC.out wx (Hb.out.trans (hb.mono Hb.out.size)) _ (List.getElem_mem hlt)
      have Hy : Hid (p L[q] = true → plcP L p = (q : Int)) := fun h => plcP_hit hlt h Ho.out
      have Hn : Hid (p L[q] = false → ∀ j (h : j < L.length), j < q + 1 → p (L[j]'h) = false) := fun h j hj hjq => by
        by_cases e : j = q
        · subst e; exact h
        · exact Ho.out j hj (by omega)
      clear Ho
      generalize p L[q] = r at *
      generalize L[q].1 = s at *
      generalize L[q].2.1 = rd at *
      generalize L[q].2.2 = fl at *
      cases r with
      | true =>
        have HN := hide (Hy.out (by first | rfl | trivial))
        clear Hy Hn
        go_wp2_with fail
        refine (HCx.out _ (by repeat (first | with_reducible exact Below.refl _ _ | with_reducible refine Below.setCell ?_ (by simp) _ | with_reducible refine Below.alloc ?_ (by simp) _))).mono ?_
        rintro e w1 ⟨rfl, hb1⟩
        have HB1 : Hid (Below w.heap.size w w1) := Hb.out.trans (Below.mono (Below.trans ((by repeat (first | with_reducible exact Below.refl _ _ | with_reducible refine Below.setCell ?_ (by simp) _ | with_reducible refine Below.alloc ?_ (by simp) _)) : Below wr.heap.size wr _) (hb1.mono (Below.size (B := wr.heap.size) (by repeat (first | with_reducible exact Below.refl _ _ | with_reducible refine Below.setCell ?_ (by simp) _ | with_reducible refine Below.alloc ?_ (by simp) _))))) Hb.out.size)
        clear hb1 HCx
        go_wp2
        go_ret
        exact ⟨ret_int HN.out.symm, HB1.out⟩
      | false =>
        have HN := hide (Hn.out (by first | rfl | trivial))
        clear Hy Hn
        go_wp2_with fail
        refine (HCx.out _ (by repeat (first | with_reducible exact Below.refl _ _ | with_reducible refine Below.setCell ?_ (by simp) _ | with_reducible refine Below.alloc ?_ (by simp) _))).mono ?_
        rintro e w1 ⟨rfl, hb1⟩
        have HB1 : Hid (Below w.heap.size w w1) := Hb.out.trans (Below.mono (Below.trans ((by repeat (first | with_reducible exact Below.refl _ _ | with_reducible refine Below.setCell ?_ (by simp) _ | with_reducible refine Below.alloc ?_ (by simp) _)) : Below wr.heap.size wr _) (hb1.mono (Below.size (B := wr.heap.size) (by repeat (first | with_reducible exact Below.refl _ _ | with_reducible refine Below.setCell ?_ (by simp) _ | with_reducible refine Below.alloc ?_ (by simp) _))))) Hb.out.size)
        clear hb1 HCx
        go_wp2
        go_roundw
        case rel => exact ⟨q + 1, by omega, by go_num, HN, HB1⟩
        case measure => simp [intOf]; omega
    · have e : q = L.length := by omega
      subst e
      have HN := hide (plcP_miss (p := p) (fun j hj => Ho.out j hj hj))
      clear Ho HX HC
      go_wp2
      go_ret
      exact ⟨ret_int HN.out.symm, Hb.out⟩
set_option maxRecDepth 20000 in
set_option maxHeartbeats 1600000 in
theorem ixRd_any (L : List It) (p : It → Bool) (cap : Addr) (c : Value) (w : World) (hn : L.length ≤ 4000000) (hx : rdR w 3 c (L.map encI)) (hc : ∀ wx, Below w.heap.size w wx → ∀ x ∈ L, Calls Try.prog 137 #[.agg #[.string x.1, .int .i64 x.2.1, .int .i64 x.2.2], .pointer (some cap)] wx fun e w' => e = .returned (.bool (p x)) ∧ Below wx.heap.size wx w') :
    Calls Try.prog 136 #[c, .func (.func 137) #[] #[.pointer (some cap)]] w fun e w' => e = .returned (.int .i64 (plcP L p)) ∧ Below w.heap.size w w' := by
  obtain ⟨a, pc, rfl, -, -⟩ := hx.itS
  have HX := hide hx
  have HC := hide hc
  clear hx hc
  go_enter Try.func136, Try.ntmps136
  go_wp2
  go_loopw [8] (fun i wr => ∃ (q : Nat), q ≤ L.length ∧ i = .int .i64 q ∧ Hid (∀ j (h : j < L.length), j < q → p (L[j]'h) = false) ∧ Hid (Below w.heap.size w wr)) (fun i _ => L.length - (intOf i).toNat)
  case atStart => exact ⟨0, Nat.zero_le _, rfl, (fun j _ h => by omega), Below.refl _ _⟩
  case round =>
    obtain ⟨q, hq, rfl, Ho, Hb⟩ := hrel
    by_cases hlt : q < L.length
    · obtain ⟨b, off, rfl, hbk, c0, c1, c2⟩ := (HX.out.below Hb.out).itAt hlt
      have HCx : Hid (∀ wx, Below wr.heap.size wr wx → Calls Try.prog 137 #[.agg #[.string (L[q].1), .int .i64 (L[q].2.1), .int .i64 (L[q].2.2)], .pointer (some cap)] wx fun e w' => e = .returned (.bool (p L[q])) ∧ Below wx.heap.size wx w') := fun wx hb => HC.out wx (Hb.out.trans (hb.mono Hb.out.size)) _ (List.getElem_mem hlt)
      have Hy : Hid (p L[q] = true → plcP L p = (q : Int)) := fun h => plcP_hit hlt h Ho.out
      have Hn : Hid (p L[q] = false → ∀ j (h : j < L.length), j < q + 1 → p (L[j]'h) = false) := fun h j hj hjq => by
        by_cases e : j = q
        · subst e; exact h
        · exact Ho.out j hj (by omega)
      clear Ho
      generalize p L[q] = r at *
      generalize L[q].1 = s at *
      generalize L[q].2.1 = rd at *
      generalize L[q].2.2 = fl at *
      cases r with
      | true =>
        have HN := hide (Hy.out (by first | rfl | trivial))
        clear Hy Hn
        go_wp2_with fail
        refine (HCx.out _ (by repeat (first | with_reducible exact Below.refl _ _ | with_reducible refine Below.setCell ?_ (by simp) _ | with_reducible refine Below.alloc ?_ (by simp) _))).mono ?_
        rintro e w1 ⟨rfl, hb1⟩
        have HB1 : Hid (Below w.heap.size w w1) := Hb.out.trans (Below.mono (Below.trans ((by repeat (first | with_reducible exact Below.refl _ _ | with_reducible refine Below.setCell ?_ (by simp) _ | with_reducible refine Below.alloc ?_ (by simp) _)) : Below wr.heap.size wr _) (hb1.mono (Below.size (B := wr.heap.size) (by repeat (first | with_reducible exact Below.refl _ _ | with_reducible refine Below.setCell ?_ (by simp) _ | with_reducible refine Below.alloc ?_ (by simp) _))))) Hb.out.size)
        clear hb1 HCx
        go_wp2
        go_ret
        exact ⟨ret_int HN.out.symm, HB1.out⟩
      | false =>
        have HN := hide (Hn.out (by first | rfl | trivial))
        clear Hy Hn
        go_wp2_with fail
        refine (HCx.out _ (by repeat (first | with_reducible exact Below.refl _ _ | with_reducible refine Below.setCell ?_ (by simp) _ | with_reducible refine Below.alloc ?_ (by simp) _))).mono ?_
        rintro e w1 ⟨rfl, hb1⟩
        have HB1 : Hid (Below w.heap.size w w1) := Hb.out.trans (Below.mono (Below.trans ((by repeat (first | with_reducible exact Below.refl _ _ | with_reducible refine Below.setCell ?_ (by simp) _ | with_reducible refine Below.alloc ?_ (by simp) _)) : Below wr.heap.size wr _) (hb1.mono (Below.size (B := wr.heap.size) (by repeat (first | with_reducible exact Below.refl _ _ | with_reducible refine Below.setCell ?_ (by simp) _ | with_reducible refine Below.alloc ?_ (by simp) _))))) Hb.out.size)
        clear hb1 HCx
        go_wp2
        go_roundw
        case rel => exact ⟨q + 1, by omega, by go_num, HN, HB1⟩
        case measure => simp [intOf]; omega
    · have e : q = L.length := by omega
      subst e
      have HN := hide (plcP_miss (p := p) (fun j hj => Ho.out j hj hj))
      clear Ho HX HC
      go_wp2
      go_ret
      exact ⟨ret_int HN.out.symm, Hb.out⟩
theorem nmClo_any (x : It) (s : ByteArray) (b : Nat) (w : World) (hc : w.cell? ⟨b, 0, none⟩ = some (.string s)) :
    Calls Try.prog 155 #[.agg #[.string x.1, .int .i64 x.2.1, .int .i64 x.2.2], .pointer (some ⟨b, 0, none⟩)] w fun e w' => e = .returned (.bool (decide (x.1 = s))) ∧ Below w.heap.size w w' := by
  have he := beq_str x.1 s
  have hbl := World.block_lt_of_cell? _ _ hc
  generalize decide (x.1 = s) = r at *
  go_enter Try.func155, Try.ntmps155
  go_wp2
  go_ret
  exact ⟨rfl, below_alloc _ _⟩
set_option maxHeartbeats 800000 in
theorem itemPlace_any (L : List It) (s : ByteArray) (c : Value) (w : World) (hn : L.length ≤ 4000000) (hx : rdR w 3 c (L.map encI)) :
    Calls Try.prog 134 #[c, .string s] w fun e w' => e = .returned (.int .i64 (plcI L s)) ∧ Below w.heap.size w w' := by
  have HO : Hid (objU (w.alloc (.cells #[.string s] 9)) w.heap.size 9 [.string s]) := objU.new _ _ _
  have HC : Hid (Calls Try.prog 136 #[c, .func (.func 155) #[] #[.pointer (some ⟨w.heap.size, 0, none⟩)]] (w.alloc (.cells #[.string s] 9)) fun e w' => e = .returned (.int .i64 (plcP L (fun x => decide (x.1 = s)))) ∧ Below (w.alloc (.cells #[.string s] 9)).heap.size (w.alloc (.cells #[.string s] 9)) w') :=
    ixNm_any L (fun x => decide (x.1 = s)) ⟨w.heap.size, 0, none⟩ c _ hn (hx.below (below_alloc _ _)) (fun wx hb x _ => nmClo_any x s w.heap.size wx ((HO.out.below hb).cell 0 _ rfl))
  clear hx
  go_enter Try.func134, Try.ntmps134
  go_wp2_with fail
  refine HC.out.mono ?_
  rintro e w1 ⟨rfl, hb⟩
  rw [plcP_I]
  have HB : Hid (Below w.heap.size w w1) := (below_alloc _ _).trans (hb.mono (below_alloc _ _).size)
  clear hb
  go_wp2
  go_ret
  exact ⟨rfl, HB.out⟩
end Go.Proofs.Ytpmhmcekkppbhaa
