/- Both PatchOk, over the ops of a list. -/
import Derived.Test.YtkdiinjkpmkcpaaDoorPkO
import Derived.Test.YtkdiinjkpmkcpaaDoorUTOp
import Derived.Test.YtkdiinjkpmkcpaaDoorBrg
import Derived.Deep.Slices
namespace Go.Proofs.YtkdiinjkpmkcpaaDoor
open Go.RowKit Go.BigFrame
set_option linter.unusedVariables false

theorem UD.takeN_len (d : UD) (i : Nat) : (d.takeN i).len = min i d.len := by unfold UD.takeN UD.len; rw [UD.toL_ofL, List.length_take]
/-- a row of a slice in memory of one's own -/
theorem oH.row {w : World} {cs : UD} {zs : List Value} {S : List Nat} (h : oH w cs zs S) {k n q : Nat} (hl : cs.len = n * k) (hq : q < n) :
    ∃ xs Sq, oH w (rowU cs k q) xs Sq ∧ (∀ t ∈ Sq, t ∈ S) ∧ (S.Nodup → Sq.Nodup) ∧ ∀ j v, xs[j]? = some v → zs[q * k + j]? = some v := by
  have e : cs = (cs.takeN (q * k)).app ((rowU cs k q).app (cs.dropN ((q + 1) * k))) := by rw [← UD.drop_row, UD.app_take_drop]
  have hk : (q + 1) * k ≤ n * k := Nat.mul_le_mul_right k hq
  rw [Nat.succ_mul] at hk
  have ht : (cs.takeN (q * k)).len = q * k := by rw [UD.takeN_len, hl]; omega
  have h' : oH w ((cs.takeN (q * k)).app ((rowU cs k q).app (cs.dropN ((q + 1) * k)))) zs S := by rw [← e]; exact h
  obtain ⟨x1, y1, A, B, rfl, rfl, h1, h2⟩ := oH.split h'
  obtain ⟨x2, y2, A2, B2, rfl, rfl, h3, h4⟩ := oH.split h2
  refine ⟨x2, A2, h3, fun t ht => by simp [ht], fun hn => (List.nodup_append.1 (List.nodup_append.1 hn).2.1).1, fun j v hj => ?_⟩
  have hx : x1.length = q * k := by rw [h1.len, ht]
  rw [List.getElem?_append_right (by omega), hx, Nat.add_sub_cancel_left, List.getElem?_append_left (List.getElem?_eq_some_iff.1 hj).1]
  exact hj
/-- an op's cells in memory of one's own -/
theorem oH.op {w : World} {d : UD} {xs : List Value} {S : List Nat} (ht : tyL d (uE 7)) (h : oH w d xs S) : ∃ (z0 : Int) (n1 : Nat) (c1 dv : UD) (a1 : Option Addr) (p1 : Nat) (y0 : Int) (y1 : ByteArray) (y2 : Int) (m3 : Nat) (e3 : UD) (m4 : Nat) (e4 : UD) (a3 : Option Addr) (p3 : Nat) (a4 : Option Addr) (p4 : Nat) (S1 S2 : List Nat),
    d = .p (.int .i64 z0) (.l 1 n1 c1 dv) ∧ tyS 1 n1 c1 0 ∧ tyL dv (uE 6) ∧ dv = .p (.int .i64 y0) (.p (.string y1) (.p (.int .i64 y2) (.l 1 m3 e3 (.l 5 m4 e4 .nil)))) ∧ tyS 1 m3 e3 0 ∧ tyS 5 m4 e4 6 ∧
      xs = [.int .i64 z0, .slice a1 n1 p1, .int .i64 y0, .string y1, .int .i64 y2, .slice a3 m3 p3, .slice a4 m4 p4] ∧ S = S1 ++ S2 ∧ oS w 1 n1 c1 (.slice a1 n1 p1) S1 ∧ oH w dv [.int .i64 y0, .string y1, .int .i64 y2, .slice a3 m3 p3, .slice a4 m4 p4] S2 := by
  obtain ⟨z0, r1, rfl, g0, ht1⟩ := tyL.i ht
  obtain ⟨n1, c1, dv, rfl, g1, htv⟩ := tyL.l ht1
  obtain ⟨_, rfl, ⟨v1, ys, S1, S2, rfl, rfl, hk1, ⟨e1, zs1, o1, m1⟩, hov⟩⟩ := h
  obtain ⟨a1, p1, rfl⟩ := uowns_slice o1
  have htv' := htv
  obtain ⟨y0, y1, y2, m3, e3, m4, e4, rfl, k0, k1, k2, k3, k4⟩ := partsValue htv
  have hov' := hov
  obtain ⟨b3, q3, b4, q4, R3, R4, rfl, rfl, -, -⟩ := oH.value hov
  exact ⟨z0, n1, c1, _, a1, p1, y0, y1, y2, m3, e3, m4, e4, b3, q3, b4, q4, blkOf (.slice a1 n1 p1) ++ S1, R3 ++ R4, rfl, g1, htv', rfl, k3, k4, rfl, rfl, ⟨hk1, e1, zs1, S1, o1, m1, rfl⟩, hov'⟩
def ixQ (P : Nat → Prop) (n : Nat) (r : Int) : Prop := (r < 0 ↔ ∀ q, q < n → P q) ∧ -1 ≤ r ∧ r ≤ n
set_option maxRecDepth 20000 in
set_option maxHeartbeats 1600000 in
theorem ixOp_any (n : Nat) (cs : UD) (c : Value) (S : List Nat) (lo hi : Nat) (w : World) (f : Nat → Bool) (ht : tyS 7 n cs 7) (ho : oS w 7 n cs c S) (hS : own2 S lo hi) (hw : n + wt cs ≤ 1048576) (hf : ∀ q, q < n → ∀ z0 n1 c1 dv, rowU cs 7 q = .p z0 (.l 1 n1 c1 dv) → vokI dv (f q)) :
    Calls Tryd.prog 37 #[c, .func (.func 27) #[] #[]] w fun e w' => ∃ r : Int, e = .returned (.int .i64 r) ∧ ixQ (fun q => okU (rowU cs 7 q) (f q)) n r ∧ Below w.heap.size w w' := by
  obtain ⟨a, cap, rfl⟩ := ho.slice
  have Ht := uhide ht
  have Ho := uhide ho
  have HS := uhide hS
  have Hw := uhide hw
  have Hf := uhide hf
  have hn : n ≤ 1048576 := by omega
  clear ht ho hS hw hf
  go_enter Tryd.func37, Tryd.ntmps37
  go_wp2
  go_loopw [8] (fun i wr => ∃ (q : Nat), q ≤ n ∧ i = .int .i64 q ∧ Hid (∀ j, j < q → okU (rowU cs 7 j) (f j)) ∧ Hid (Below w.heap.size w wr)) (fun i _ => n - (intOf i).toNat)
  case atStart => exact ⟨0, Nat.zero_le _, rfl, (fun j h => by omega), Below.refl _ _⟩
  case round =>
    obtain ⟨q, hq, rfl, HE, HB⟩ := hrel
    by_cases hlt : q < n
    · obtain ⟨g, S', cap', eT, zs, hSe, hce, hown, hoh, -, -⟩ := (Ho.out.below HB.out).opened (by omega)
      cases hce
      obtain ⟨xs, Sq, hrow, hsub, hnd, hcl⟩ := hoh.row Ht.out.2.2.2.1 hlt
      have hSq : own2 Sq lo hi := ⟨hnd (by have := HS.out.1; rw [hSe] at this; exact (List.nodup_cons.1 this).2), fun s hs => HS.out.2 s (by rw [hSe]; exact List.mem_cons_of_mem _ (hsub s hs))⟩
      have htr := Ht.out.row hlt
      obtain ⟨rq, hrq⟩ := bool_iff (¬ okU (rowU cs 7 q) (f q))
      have hrq' : rq = false ↔ okU (rowU cs 7 q) (f q) := by
        cases rq
        · exact ⟨fun _ => Classical.byContradiction (fun h => Bool.noConfusion (hrq.2 h)), fun _ => rfl⟩
        · exact ⟨fun h => Bool.noConfusion h, fun h => ((hrq.1 rfl) h).elim⟩
      have HC : Hid (∀ wx, Below wr.heap.size wr wx → Calls Tryd.prog 27 #[.agg xs.toArray] wx fun e w' => e = .returned (.bool rq) ∧ Below wx.heap.size wx w') := fun wx hb => opWrong_any _ xs Sq lo hi wx rq (f q) htr (hrow.below hb) hSq (by have := wt_row cs 7 q; have := Hw.out; omega) (Hf.out q hlt) hrq'
      obtain ⟨z0, n1, c1, dv, a1, p1, y0, y1, y2, m3, e3, m4, e4, a3, p3, a4, p4, T1, T2, hR, -, -, -, -, -, rfl, -, -, -⟩ := hrow.op htr
      have cell : ∀ j v, [Value.int .i64 z0, .slice a1 n1 p1, .int .i64 y0, .string y1, .int .i64 y2, .slice a3 m3 p3, .slice a4 m4 p4][j]? = some v → wr.cell? ⟨g, q * 7 + j, none⟩ = some v := fun j v hj => by
        have hj7 : j < 7 := (List.getElem?_eq_some_iff.1 hj).1
        rw [hown.cellAt (q * 7 + j) (by omega)]; exact hcl j v hj
      have q0 : wr.cell? ⟨g, q * 7, none⟩ = some (.int .i64 z0) := cell 0 _ rfl
      have q1 := cell 1 _ rfl
      have q2 := cell 2 _ rfl
      have q3 := cell 3 _ rfl
      have q4 := cell 4 _ rfl
      have q5 := cell 5 _ rfl
      have q6 := cell 6 _ rfl
      have Hrq := uhide hrq'
      clear cell hown hoh hrow hsub hnd hcl hSq htr hrq hrq' hR hSe
      cases rq
      · have Hnx : Hid (∀ j, j < q + 1 → okU (rowU cs 7 j) (f j)) := fun j hj => by
          by_cases e : j = q
          · subst e; exact Hrq.out.1 rfl
          · exact HE.out j (by omega)
        clear HE Hrq
        go_wp2_with fail
        refine (HC.out _ (by repeat (first | with_reducible exact Below.refl _ _ | with_reducible refine Below.drew ?_ | with_reducible refine below_drewN ?_ _))).mono ?_
        rintro e w1 ⟨rfl, hb1⟩
        have HB1 : Hid (Below w.heap.size w w1) := HB.out.trans (hb1.mono HB.out.size)
        clear hb1 HC
        go_wp2
        go_roundw
        case rel => exact ⟨q + 1, by omega, by go_num, Hnx, HB1⟩
        case measure => simp [intOf]; omega
      · have Hno : Hid (¬ ∀ j, j < n → okU (rowU cs 7 j) (f j)) := fun h => by have := Hrq.out.2 (h q hlt); cases this
        clear HE Hrq
        go_wp2_with fail
        refine (HC.out _ (by repeat (first | with_reducible exact Below.refl _ _ | with_reducible refine Below.drew ?_ | with_reducible refine below_drewN ?_ _))).mono ?_
        rintro e w1 ⟨rfl, hb1⟩
        have HB1 : Hid (Below w.heap.size w w1) := HB.out.trans (hb1.mono HB.out.size)
        clear hb1 HC
        go_wp2
        refine bodyPost_ret (v := .int .i64 q) ?_ rfl ⟨q, rfl, ⟨⟨fun h => by omega, fun h => (Hno.out h).elim⟩, by omega, by omega⟩, HB1.out⟩
        simp [results, Tryd.results37, go_sem]
    · have e1 : q = n := by omega
      subst e1
      go_wp2
      refine bodyPost_ret (v := .int .i64 (-1)) ?_ rfl ⟨-1, rfl, ⟨⟨fun _ => HE.out, fun _ => by omega⟩, by omega, by omega⟩, HB.out⟩
      simp [results, Tryd.results37, go_sem]
theorem coOp_any (n : Nat) (cs : UD) (c : Value) (S : List Nat) (lo hi : Nat) (w : World) (f : Nat → Bool) (r : Bool) (ht : tyS 7 n cs 7) (ho : oS w 7 n cs c S) (hS : own2 S lo hi) (hw : n + wt cs ≤ 1048576) (hf : ∀ q, q < n → ∀ z0 n1 c1 dv, rowU cs 7 q = .p z0 (.l 1 n1 c1 dv) → vokI dv (f q)) (hr : r = false ↔ ∀ q, q < n → okU (rowU cs 7 q) (f q)) :
    Calls Tryd.prog 26 #[c, .func (.func 27) #[] #[]] w fun e w' => e = .returned (.bool r) ∧ Below w.heap.size w w' := by
  have HC := uhide (ixOp_any n cs c S lo hi w f ht ho hS hw hf)
  obtain ⟨a, cap, rfl⟩ := ho.slice
  have hn : n ≤ 1048576 := by omega
  have HR := uhide hr
  clear ht ho hS hw hf hr
  go_enter Tryd.func26, Tryd.ntmps26
  go_wp2_with fail
  refine HC.out.mono ?_
  rintro e w1 ⟨x, rfl, ⟨hx1, hx2, hx3⟩, hb⟩
  by_cases h0 : x < 0
  · have hrf : r = false := HR.out.2 (hx1.1 h0)
    subst hrf
    have h1 : ¬ (0 ≤ x) := by omega
    clear hx1
    go_wp2
    go_ret
    first | exact ⟨rfl, hb⟩ | exact ⟨ret_bool (decide_eq_false (by omega)), hb⟩
  · have hrt : r = true := by
      cases h : r with
      | true => rfl
      | false => exact (h0 (hx1.2 (HR.out.1 h))).elim
    subst hrt
    have h1 : 0 ≤ x := by omega
    clear hx1
    go_wp2
    go_ret
    first | exact ⟨rfl, hb⟩ | exact ⟨ret_bool (decide_eq_true (by omega)), hb⟩
theorem iPatchOk_any (n : Nat) (cs : UD) (c : Value) (S : List Nat) (lo hi : Nat) (w : World) (f : Nat → Bool) (r : Bool) (ht : tyS 7 n cs 7) (ho : oS w 7 n cs c S) (hS : own2 S lo hi) (hw : n + wt cs ≤ 1048576) (hf : ∀ q, q < n → ∀ z0 n1 c1 dv, rowU cs 7 q = .p z0 (.l 1 n1 c1 dv) → vokI dv (f q)) (hr : r = true ↔ n ≤ 20 ∧ ∀ q, q < n → okU (rowU cs 7 q) (f q)) :
    Calls Tryd.prog 13 #[c] w fun e w' => e = .returned (.bool r) ∧ Below w.heap.size w w' := by
  have HC : Hid (∀ b : Bool, (b = false ↔ ∀ q, q < n → okU (rowU cs 7 q) (f q)) → Calls Tryd.prog 26 #[c, .func (.func 27) #[] #[]] w fun e w' => e = .returned (.bool b) ∧ Below w.heap.size w w') := fun b hb => coOp_any n cs c S lo hi w f b ht ho hS hw hf hb
  obtain ⟨a, cap, rfl⟩ := ho.slice
  have hn : n ≤ 1048576 := by omega
  have HR := uhide hr
  clear ht ho hS hw hf hr
  by_cases h20 : n ≤ 20
  · have hi20 : (n : Int) ≤ 20 := by omega
    have HC2 := uhide (HC.out (!r) (by have := HR.out; cases r <;> simp_all))
    clear HC HR
    go_enter Tryd.func13, Tryd.ntmps13
    go_wp2_with fail
    refine HC2.out.mono ?_
    rintro e w1 ⟨rfl, hb⟩
    go_wp2
    go_ret
    exact ⟨ret_bool (by simp), hb⟩
  · have hrf : r = false := by
      cases h : r with
      | false => rfl
      | true => exact (h20 (HR.out.1 h).1).elim
    subst hrf
    have hi20 : ¬ (n : Int) ≤ 20 := by omega
    clear HC HR
    go_enter Tryd.func13, Tryd.ntmps13
    go_wp2
    go_ret
    exact ⟨rfl, Below.refl _ _⟩
end Go.Proofs.YtkdiinjkpmkcpaaDoor
