/- What impl.SameValue asks of two values but for their kids: slices.Equal over texts, sameButKids. -/
import Derived.Test.YtkdiinjkpmkcpaaDoorVSmS
namespace Go.Proofs.YtkdiinjkpmkcpaaDoor
open Go.RowKit Go.BigFrame
set_option linter.unusedVariables false
set_option maxRecDepth 20000 in
set_option maxHeartbeats 1600000 in
theorem slEq_any (n m : Nat) (c e : UD) (a b : Option Addr) (p o lo hi lo' hi' : Nat) (w : World) (r : Bool) (ht : tyS 1 n c 0) (ht' : tyS 1 m e 0) (hx : uS w lo hi 1 n c (.slice a n p)) (hy : uS w lo' hi' 1 m e (.slice b m o)) (hr : r = true ↔ n = m ∧ c = e) :
    Calls Tryd.prog 63 #[.slice a n p, .slice b m o] w fun e w' => e = .returned (.bool r) ∧ Below w.heap.size w w' := by
  have hn3 := ht.2.2.1
  have hm3 := ht'.2.2.1
  unfold maxLen at hn3 hm3
  have H3 := uhide hx
  have K3 := uhide hy
  have G3 := uhide ht
  have L3 := uhide ht'
  clear hx hy ht ht'
  have no : ∀ {p : Prop}, (r = true ↔ p) → ¬ p → r = false := fun h hp => by
    cases r
    · rfl
    · exact (hp (h.1 rfl)).elim
  by_cases h3 : n = m
  rotate_left
  · have hrf := no hr (fun h => h3 h.1)
    subst hrf
    have c3' : ((n : Int) != (m : Int)) = true := by rw [bne_iff_ne]; omega
    clear hr no h3
    go_enter Tryd.func63, Tryd.ntmps63
    go_wp2
    go_ret
    exact ⟨rfl, Below.refl _ _⟩
  subst h3
  have c3' : ((n : Int) != (n : Int)) = false := by simp
  have HR : Hid (r = true ↔ c = e) := hr.trans ⟨fun h => h.2, fun h => ⟨rfl, h⟩⟩
  have NO : Hid (∀ p : Prop, (r = true ↔ p) → ¬ p → r = false) := fun p h hp => no h hp
  clear hr no
  go_enter Tryd.func63, Tryd.ntmps63
  go_wp2
  clear c3'
  go_loopw [13] (fun i wr => ∃ (q : Nat), q ≤ n ∧ i = .int .i64 q ∧ Hid (∀ j (g : j < (strL c).length) (g' : j < (strL e).length), j < q → (strL c)[j]'g = (strL e)[j]'g') ∧ Hid (Below w.heap.size w wr)) (fun i _ => n - (intOf i).toNat)
  case atStart => exact ⟨0, Nat.zero_le _, rfl, (fun j _ _ h => by omega), Below.refl _ _⟩
  case round =>
    obtain ⟨q, hq, rfl, HE, HB⟩ := hrel
    by_cases hlt : q < n
    · obtain ⟨b1, off, rfl, hbk, -⟩ := (H3.out.below HB.out).cells (by omega)
      obtain ⟨b', off', rfl, hbk', -⟩ := (K3.out.below HB.out).cells (by omega)
      have hl := strL_len G3.out
      have hl' := strL_len L3.out
      have q0 := txt_at G3.out (H3.out.below HB.out) q (by omega)
      have q1 := txt_at L3.out (K3.out.below HB.out) q (by omega)
      have Hnx : Hid ((strL c)[q]'(by omega) = (strL e)[q]'(by omega) → ∀ j (g : j < (strL c).length) (g' : j < (strL e).length), j < q + 1 → (strL c)[j]'g = (strL e)[j]'g') := fun he j g g' hj => by
        by_cases e : j = q
        · subst e; exact he
        · exact HE.out j g g' (by omega)
      have Hno : Hid ((strL c)[q]'(by omega) ≠ (strL e)[q]'(by omega) → c ≠ e) := fun hne e => hne (by subst e; rfl)
      have he := beqS ((strL c)[q]'(by omega)) ((strL e)[q]'(by omega))
      generalize (strL c)[q]'(by omega) = X at *
      generalize (strL e)[q]'(by omega) = Y at *
      by_cases hXY : X = Y
      · rw [decide_eq_true hXY] at he
        have Hnx := uhide (Hnx.out hXY)
        clear Hno hXY hl hl'
        go_wp2
        go_quiet (fail)
        go_wp2
        go_roundw
        case rel => exact ⟨q + 1, by omega, by go_num, Hnx, below_drewN HB.out _⟩
        case measure => simp [intOf]; omega
      · rw [decide_eq_false hXY] at he
        have hrf := NO.out _ HR.out (Hno.out hXY)
        subst hrf
        clear Hno Hnx hXY hl hl'
        go_wp2
        go_quiet (fail)
        go_wp2
        go_ret
        exact ⟨rfl, below_drewN HB.out _⟩
    · have e1 : q = n := by omega
      subst e1
      have hc : c = e := strL_ext G3.out L3.out (fun j g g' => HE.out j g g' (by have := strL_len G3.out; omega))
      have hrt : r = true := HR.out.2 hc
      subst hrt
      clear hc
      go_wp2
      go_ret
      exact ⟨rfl, HB.out⟩
set_option maxRecDepth 20000 in
set_option maxHeartbeats 1600000 in
theorem sameButKids_any (z0 z2 y0 y2 : Int) (z1 y1 : ByteArray) (n3 n4 m3 m4 : Nat) (c3 e3 : UD) (a3 a4 b3 b4 : Option Addr) (p3 p4 o3 o4 lo hi lo' hi' : Nat) (w : World) (r : Bool) (g3 : tyS 1 n3 c3 0) (k3 : tyS 1 m3 e3 0) (hn4 : n4 ≤ maxLen) (hm4 : m4 ≤ maxLen)
    (hx : uS w lo hi 1 n3 c3 (.slice a3 n3 p3)) (hy : uS w lo' hi' 1 m3 e3 (.slice b3 m3 o3)) (hr : r = true ↔ z0 = y0 ∧ z1 = y1 ∧ z2 = y2 ∧ (n3 = m3 ∧ c3 = e3) ∧ n4 = m4) :
    Calls Tryd.prog 55 #[.agg #[.int .i64 z0, .string z1, .int .i64 z2, .slice a3 n3 p3, .slice a4 n4 p4], .agg #[.int .i64 y0, .string y1, .int .i64 y2, .slice b3 m3 o3, .slice b4 m4 o4]] w fun e w' => e = .returned (.bool r) ∧ Below w.heap.size w w' := by
  have HA : Hid (∀ o o', Below w.heap.size w ((w.alloc o).alloc o')) := fun o o' => ((Below.refl _ _).alloc (Nat.le_refl _) _).alloc (by simp) _
  have H3 := uhide hx
  have K3 := uhide hy
  have G3 := uhide g3
  have L3 := uhide k3
  unfold maxLen at hn4 hm4
  clear hx hy g3 k3
  have no : ∀ {p : Prop}, (r = true ↔ p) → ¬ p → r = false := fun h hp => by
    cases r
    · rfl
    · exact (hp (h.1 rfl)).elim
  by_cases h0 : z0 = y0
  rotate_left
  · have hrf := no hr (fun h => h0 h.1)
    subst hrf
    have c0 : (z0 == y0) = false := by simpa using h0
    clear hr no h0 H3 K3 G3 L3 hn4 hm4
    go_enter Tryd.func55, Tryd.ntmps55
    go_wp2
    go_ret
    exact ⟨rfl, HA.out _ _⟩
  subst h0
  have c0 : (z0 == z0) = true := by simp
  by_cases h1 : z1 = y1
  rotate_left
  · have hrf := no hr (fun h => h1 h.2.1)
    subst hrf
    have c1 : (z1.toList == y1.toList) = false := by rw [beqS]; exact decide_eq_false h1
    clear hr no h1 H3 K3 G3 L3 hn4 hm4
    go_enter Tryd.func55, Tryd.ntmps55
    go_wp2
    go_ret
    exact ⟨rfl, HA.out _ _⟩
  subst h1
  have c1 : (z1.toList == z1.toList) = true := by simp
  by_cases h2 : z2 = y2
  rotate_left
  · have hrf := no hr (fun h => h2 h.2.2.1)
    subst hrf
    have c2 : (z2 == y2) = false := by simpa using h2
    clear hr no h2 H3 K3 G3 L3 hn4 hm4
    go_enter Tryd.func55, Tryd.ntmps55
    go_wp2
    go_ret
    exact ⟨rfl, HA.out _ _⟩
  subst h2
  have c2 : (z2 == z2) = true := by simp
  obtain ⟨rq, hrq⟩ := bool_iff (n3 = m3 ∧ c3 = e3)
  have HC : Hid (∀ wx, Below w.heap.size w wx → Calls Tryd.prog 63 #[.slice a3 n3 p3, .slice b3 m3 o3] wx fun e w' => e = .returned (.bool rq) ∧ Below wx.heap.size wx w') := fun wx hb => slEq_any n3 m3 c3 e3 a3 b3 p3 o3 lo hi lo' hi' wx rq G3.out L3.out (H3.out.below hb) (K3.out.below hb) hrq
  cases rq
  · have hrf := no hr (fun h => by have := hrq.2 h.2.2.2.1; cases this)
    subst hrf
    clear hr no hrq
    go_enter Tryd.func55, Tryd.ntmps55
    go_wp2_with fail
    refine (HC.out _ (HA.out _ _)).mono ?_
    rintro e w1 ⟨rfl, hb1⟩
    have bx4 : w1.cell? ⟨w.heap.size, 4, none⟩ = some (.slice a4 n4 p4) := (hb1.cell (p := ⟨w.heap.size, 4, none⟩) (by simp <;> omega)).trans (by simp [go_sem])
    have dx4 : w1.cell? ⟨w.heap.size + 1, 4, none⟩ = some (.slice b4 m4 o4) := (hb1.cell (p := ⟨w.heap.size + 1, 4, none⟩) (by simp <;> omega)).trans (by simp [go_sem])
    have B1 : Hid (Below w.heap.size w w1) := (HA.out _ _).trans (hb1.mono (by simp; omega))
    clear hb1
    go_wp2
    go_ret
    exact ⟨rfl, B1.out⟩
  have hr4 : r = true ↔ n4 = m4 := hr.trans ⟨fun h => h.2.2.2.2, fun h => ⟨rfl, rfl, rfl, hrq.1 rfl, h⟩⟩
  clear hr hrq
  by_cases h4 : n4 = m4
  · have hrt := hr4.2 h4
    subst hrt h4
    have c4' : ((n4 : Int) == (n4 : Int)) = true := by simp
    clear hr4 no
    go_enter Tryd.func55, Tryd.ntmps55
    go_wp2_with fail
    refine (HC.out _ (HA.out _ _)).mono ?_
    rintro e w1 ⟨rfl, hb1⟩
    have bx4 : w1.cell? ⟨w.heap.size, 4, none⟩ = some (.slice a4 n4 p4) := (hb1.cell (p := ⟨w.heap.size, 4, none⟩) (by simp <;> omega)).trans (by simp [go_sem])
    have dx4 : w1.cell? ⟨w.heap.size + 1, 4, none⟩ = some (.slice b4 n4 o4) := (hb1.cell (p := ⟨w.heap.size + 1, 4, none⟩) (by simp <;> omega)).trans (by simp [go_sem])
    have B1 : Hid (Below w.heap.size w w1) := (HA.out _ _).trans (hb1.mono (by simp; omega))
    clear hb1
    go_wp2
    go_ret
    exact ⟨rfl, B1.out⟩
  · have hrf := no hr4 h4
    subst hrf
    have c4' : ((n4 : Int) == (m4 : Int)) = false := by rw [beq_eq_false_iff_ne]; omega
    clear hr4 no h4
    go_enter Tryd.func55, Tryd.ntmps55
    go_wp2_with fail
    refine (HC.out _ (HA.out _ _)).mono ?_
    rintro e w1 ⟨rfl, hb1⟩
    have bx4 : w1.cell? ⟨w.heap.size, 4, none⟩ = some (.slice a4 n4 p4) := (hb1.cell (p := ⟨w.heap.size, 4, none⟩) (by simp <;> omega)).trans (by simp [go_sem])
    have dx4 : w1.cell? ⟨w.heap.size + 1, 4, none⟩ = some (.slice b4 m4 o4) := (hb1.cell (p := ⟨w.heap.size + 1, 4, none⟩) (by simp <;> omega)).trans (by simp [go_sem])
    have B1 : Hid (Below w.heap.size w w1) := (HA.out _ _).trans (hb1.mono (by simp; omega))
    clear hb1
    go_wp2
    go_ret
    exact ⟨rfl, B1.out⟩
end Go.Proofs.YtkdiinjkpmkcpaaDoor
