/- laws.markStringS, markTermS, heldStringS, heldTermS. -/
import Derived.Test.YtbadjopaocindaaDoorMarkTx
import Derived.Test.YtbadjopaocindaaDoorOut
import Derived.Deep.QuietTactic
namespace Go.Proofs.YtbadjopaocindaaDoor
open Go.RowKit Go.BigFrame
set_option linter.unusedVariables false

def mks (k n : Nat) : List ByteArray := (List.range n).map fun i => mtx (k + i)
theorem mks_len (k n : Nat) : (mks k n).length = n := by simp [mks]
theorem mks_get (k n i : Nat) (h : i < (mks k n).length) : (mks k n)[i] = mtx (k + i) := by simp [mks]

set_option maxHeartbeats 400000 in
theorem markStringS_any (B cap n k0 : Nat) (v : Value) (xs : List Value) (w : World) (hn : n ≤ 1000000) (hk0 : 1 ≤ k0) (hk1 : k0 ≤ 10000000) (hown : w.ownsRow B 9 1 v n xs) :
    Calls Tryd.prog 50 #[v, .int .i64 k0] w fun e w' => e = .returned (.int .i64 (k0 + n : Nat)) ∧ w'.ownsRow B 9 1 v n (strVs (mks k0 n)) ∧ (∀ lo hi, (∀ g, v.ownBlock = some g → lo ≤ g ∧ g < hi) → Out lo hi w w') := by
  obtain ⟨a, c, hv⟩ : ∃ a c, v = .slice a n c := by
    rcases hown.2 with ⟨h, h0⟩ | ⟨g, cap, cur, h, _⟩
    · exact ⟨none, 0, by rw [h, h0]⟩
    · exact ⟨_, _, h⟩
  subst hv
  go_enter Tryd.func50, Tryd.ntmps50
  go_wp2
  go_loopw [1, 5] (fun q i wr => ∃ (k : Nat) (xs : List Value), k ≤ n ∧ i = .int .i64 k ∧ q = .int .i64 (k0 + k : Nat) ∧ Hid (wr.ownsRow B 9 1 (.slice a n c) n xs) ∧
      Hid (∀ j, j < k → xs[j]? = (strVs (mks k0 n))[j]?) ∧ Hid (∀ lo hi, (∀ g, (Value.slice a n c).ownBlock = some g → lo ≤ g ∧ g < hi) → Out lo hi w wr)) (fun _ i _ => n - (intOf i).toNat)
  case atStart => exact ⟨0, _, Nat.zero_le _, rfl, rfl, hown, fun j hj => by omega, fun lo hi _ => Out.refl _ _ _⟩
  case round =>
    obtain ⟨k, xs, hk, rfl, rfl, How, Hx, Hb⟩ := hrel
    clear hown
    by_cases hlt : k < n
    · obtain ⟨g, cur, rfl⟩ : ∃ g cap, a = some ⟨g, 0, none⟩ := by
        rcases How.out.2 with ⟨h, h0⟩ | ⟨g, cap, cur, h, _⟩
        · omega
        · cases h; exact ⟨g, cap, rfl⟩
      have Hf : Hid ((strVs (mks k0 n))[k]? = some (.string (mtx (k0 + k)))) := by
        show _ = _
        rw [strVs_get (by rw [mks_len]; exact hlt), mks_get]
      have hxl : xs.length = n * 1 := How.out.1
      obtain ⟨o0, g0⟩ : ∃ o, xs[k]? = some o := ⟨_, List.getElem?_eq_getElem (by omega)⟩
      have G0 := hide g0
      have Hxl := hide hxl
      have hm0 : ∀ (wx : World) (x : Int), x = ((k0 + k : Nat) : Int) → Calls Tryd.prog 49 #[.int .i64 x] wx fun e w' => e = .returned (.string (mtx (k0 + k))) ∧ Below wx.heap.size wx w' := fun wx x hx => by rw [hx]; exact markText_any (k0 + k) wx (by omega) (by omega)
      have Hm0 := hide hm0
      clear g0 hxl hm0
      generalize mtx (k0 + k) = M0 at *
      go_wp2_with fail
      refine (Hm0.out _ _ (by omega)).mono ?_
      rintro e w2 ⟨rfl, hb2⟩
      have how2 := owns_below How.out hb2
      have q0 : w2.cell? ⟨g, k, none⟩ = some o0 := (how2.cellAt _ (by omega)).trans G0.out
      have f0 := how2.frozenAt k
      have S1 := hide (how2.stored k (.string M0)).1
      have Hb2 := hide hb2
      clear how2 hb2
      go_wp2
      go_roundw
      case rel => exact ⟨k + 1, _, by omega, by go_num, by go_num, S1.out, (by
          intro j hj
          have hl := Hxl.out
          by_cases e0 : j = k
          · subst e0; rw [List.getElem?_set_self (by omega)]; exact Hf.out.symm
          · rw [List.getElem?_set_ne (by omega)]; exact Hx.out j (by omega)),
        (fun lo hi h => ((Hb.out lo hi h).trans (Out.of_below Hb2.out)).setCell (h g rfl).1 (h g rfl).2 _)⟩
      case measure => simp [intOf]; omega
    · have e : k = n := by omega
      subst e
      have hx : xs = strVs (mks k0 k) := by
        apply List.ext_getElem?
        intro j
        by_cases hj : j < k
        · exact Hx.out j hj
        · rw [List.getElem?_eq_none (by have := How.out.1; omega), List.getElem?_eq_none (by rw [strVs_length, mks_len]; omega)]
      subst hx
      go_wp2
      go_ret
      exact ⟨rfl, How.out, Hb.out⟩

def mts : List TD → Nat → List TD
  | [], _ => []
  | t :: r, k => ((k : Int), mtx (k + 1), mks (k + 2) t.2.2.length) :: mts r (k + 2 + t.2.2.length)
def kEnd : List TD → Nat → Nat
  | [], k => k
  | t :: r, k => kEnd r (k + 2 + t.2.2.length)
theorem mts_len : ∀ (ts : List TD) (k : Nat), (mts ts k).length = ts.length
  | [], _ => rfl
  | t :: r, k => by simp [mts, mts_len r]
theorem kEnd_succ : ∀ (ts : List TD) (k j : Nat) (h : j < ts.length), kEnd (ts.take (j + 1)) k = kEnd (ts.take j) k + 2 + (ts[j]'h).2.2.length
  | t :: r, k, 0, _ => rfl
  | t :: r, k, j + 1, h => kEnd_succ r _ j (by simpa using h)
theorem kEnd_ge : ∀ (ts : List TD) (k : Nat), k ≤ kEnd ts k
  | [], k => Nat.le_refl _
  | t :: r, k => by have := kEnd_ge r (k + 2 + t.2.2.length); unfold kEnd; omega
theorem kEnd_take : ∀ (ts : List TD) (k j : Nat), kEnd (ts.take j) k ≤ kEnd ts k
  | [], k, j => by simp
  | t :: r, k, 0 => kEnd_ge _ _
  | t :: r, k, j + 1 => kEnd_take r _ j
theorem mts_get : ∀ (ts : List TD) (k j : Nat) (h : j < ts.length), (mts ts k)[j]'(by rw [mts_len]; exact h) = (((kEnd (ts.take j) k : Nat) : Int), mtx (kEnd (ts.take j) k + 1), mks (kEnd (ts.take j) k + 2) (ts[j]'h).2.2.length)
  | t :: r, k, 0, _ => rfl
  | t :: r, k, j + 1, h => mts_get r _ j (by simpa using h)
theorem mark_sib {w w' : World} {v u : Value} {B n : Nat} {e : TypeId} {size : Nat} {xs : List Value} (hO : ∀ lo hi, (∀ g, v.ownBlock = some g → lo ≤ g ∧ g < hi) → Out lo hi w w') (h : w.ownsRow B e size u n xs) (hne : ∀ b, v.ownBlock = some b → u.ownBlock ≠ some b) : w'.ownsRow B e size u n xs := by
  cases hv : v.ownBlock with
  | none => exact owns_out h (hO 0 0 (fun g hg => by rw [hv] at hg; cases hg)) (fun _ _ => .inr (Nat.zero_le _))
  | some b => exact owns_out h (hO b (b + 1) (fun g hg => by rw [hv] at hg; cases hg; exact ⟨Nat.le_refl _, Nat.lt_succ_self _⟩)) (fun g hg => by
      have := hne b hv
      have hb : g ≠ b := by rintro rfl; exact this hg
      omega)

set_option maxHeartbeats 800000 in
theorem markTermS_any (lo g cap k0 : Nat) (ts : List TD) (w : World) (hn : ts.length ≤ 1000000) (hl : ∀ t ∈ ts, t.2.2.length ≤ 1000000) (hk0 : 1 ≤ k0) (hk1 : kEnd ts k0 ≤ 1000000) (hown : ownTs w lo g cap ts) :
    Calls Tryd.prog 18 #[.slice (some ⟨g, 0, none⟩) ts.length cap, .int .i64 k0] w fun e w' => e = .returned (.int .i64 (kEnd ts k0 : Nat)) ∧ ownTs w' lo g cap (mts ts k0) ∧ Out lo w.heap.size w w' := by
  obtain ⟨xs0, V, h1, h2, h3⟩ := hown
  have hg := owns_blk h1 rfl
  have Hap := hide h3
  have Hl := hide hl
  have Hg := hide hg
  have Hvb : Hid (∀ j (hj : j < ts.length), ∀ b, (V j).ownBlock = some b → lo ≤ b ∧ b < w.heap.size) := fun j hj b hb => owns_blk (h2 j hj).2.2.2.1 hb
  have Ha1 := hide h1
  have Ha2 := hide h2
  clear h3 hl h1 h2 hg
  go_enter Tryd.func18, Tryd.ntmps18
  go_wp2
  go_loopw [1, 5] (fun s i wr => ∃ (q : Nat) (xs : List Value), q ≤ ts.length ∧ i = .int .i64 q ∧ s = .int .i64 (kEnd (ts.take q) k0 : Nat) ∧ Hid (wr.ownsRow lo 54 3 (.slice (some ⟨g, 0, none⟩) ts.length cap) ts.length xs) ∧
      Hid (∀ j (hj : j < ts.length), j < q → termOwn wr lo xs V g j ((mts ts k0)[j]'(by rw [mts_len]; exact hj))) ∧ Hid (∀ j (hj : j < ts.length), q ≤ j → termOwn wr lo xs V g j ts[j]) ∧ Hid (Out lo w.heap.size w wr)) (fun _ i _ => ts.length - (intOf i).toNat)
  case atStart => exact ⟨0, xs0, Nat.zero_le _, rfl, rfl, Ha1.out, fun j hj h => by omega, fun j hj _ => Ha2.out j hj, Out.refl _ _ _⟩
  case round =>
    clear Ha1 Ha2
    obtain ⟨q, xs, hq, rfl, rfl, How, Hx, Hy, Ho⟩ := hrel
    by_cases hlt : q < ts.length
    · obtain ⟨a0, a1, a2, a3, a4⟩ := Hy.out q hlt (Nat.le_refl _)
      have hks := kEnd_succ ts k0 q hlt
      have hkt := kEnd_take ts k0 (q + 1)
      have hkg := kEnd_ge (ts.take q) k0
      have hvl := Hl.out _ (List.getElem_mem hlt)
      have hmg := mts_get ts k0 q hlt
      have Hks := hide hks
      have Hmg := hide hmg
      obtain ⟨av, cv, hV, -, -, -⟩ := strOf_own a3 rfl
      have hxl : xs.length = ts.length * 3 := How.out.1
      have Hxl := hide hxl
      have q0 : wr.cell? ⟨g, q * 3, none⟩ = some (.int .i64 (ts[q]'hlt).1) := (How.out.cellAt _ (by omega)).trans a0
      have f0 := How.out.frozenAt (q * 3)
      have hgr : g < wr.heap.size := Nat.lt_of_lt_of_le Hg.out.2 Ho.out.size
      generalize hK : kEnd (ts.take q) k0 = K at *
      have hKle : K + 2 + (ts[q]'hlt).2.2.length ≤ 1000000 := by omega
      have HK := hide hK
      have S0 := hide (How.out.stored (q * 3) (.int .i64 (K : Nat))).1
      have A1 := hide a1
      have A2 := hide a2
      have A3 := hide a3
      have A4 := hide a4
      have HV := hide hV
      have hm0 : ∀ (wx : World) (x : Int), x = ((K + 1 : Nat) : Int) → Calls Tryd.prog 49 #[.int .i64 x] wx fun e w' => e = .returned (.string (mtx (K + 1))) ∧ Below wx.heap.size wx w' := fun wx x hx => by rw [hx]; exact markText_any (K + 1) wx (by omega) (by omega)
      have Hm0 := hide hm0
      have hms : ∀ (wx : World) (x : Int), x = ((K + 2 : Nat) : Int) → wx.ownsRow lo 9 1 (V q) (ts[q]'hlt).2.2.length (strVs (ts[q]'hlt).2.2) → Calls Tryd.prog 50 #[V q, .int .i64 x] wx fun e w' => e = .returned (.int .i64 (K + 2 + (ts[q]'hlt).2.2.length : Nat)) ∧ Hid (w'.ownsRow lo 9 1 (V q) (ts[q]'hlt).2.2.length (strVs (mks (K + 2) (ts[q]'hlt).2.2.length))) ∧ Hid (∀ lo hi, (∀ g, (V q).ownBlock = some g → lo ≤ g ∧ g < hi) → Out lo hi wx w') :=
        fun wx x hx ho => by rw [hx]; exact markStringS_any lo 0 _ (K + 2) (V q) _ wx hvl (by omega) (by omega) ho
      have Hms := hide hms
      clear a0 a1 a2 a3 a4 hV hxl hK hks hmg hm0 hms
      generalize mtx (K + 1) = M1 at *
      go_wp2_with fail
      refine (Hm0.out _ _ (by omega)).mono ?_
      rintro e w2 ⟨rfl, hb2⟩
      have how2 := owns_below S0.out hb2
      have q1 : w2.cell? ⟨g, q * 3 + 1, none⟩ = some (.string (ts[q]'hlt).2.1) := (how2.cellAt _ (by have := Hxl.out; omega)).trans (by rw [List.getElem?_set_ne (by omega)]; exact A1.out)
      have f1 := how2.frozenAt (q * 3 + 1)
      have q2 : w2.cell? ⟨g, q * 3 + 2, none⟩ = some (V q) := (how2.cellAt _ (by have := Hxl.out; omega)).trans (by rw [List.getElem?_set_ne (by omega)]; exact A2.out)
      have S1 := hide (how2.stored (q * 3 + 1) (.string M1)).1
      have hqf : w2.frozen? ⟨g, q * 3 + 2, none⟩ = false := how2.frozenAt (q * 3 + 2)
      have A3' : Hid ((w2.setCell ⟨g, q * 3 + 1, none⟩ (.string M1)).ownsRow lo 9 1 (V q) (ts[q]'hlt).2.2.length (strVs (ts[q]'hlt).2.2)) :=
        ownsRow_setCell_other (owns_out (ownsRow_setCell_other A3.out (a := ⟨g, q * 3, none⟩) A4.out _) (Out.of_below (lo := 0) (hi := 0) hb2) (fun _ _ => .inr (Nat.zero_le _))) (a := ⟨g, q * 3 + 1, none⟩) A4.out _
      have Hb2 := hide hb2
      have hgr2 : g < w2.heap.size := by have := hb2.size; simp at this; omega
      clear how2 hb2
      obtain ⟨W3, hW3⟩ : ∃ W3, W3 = w2.setCell ⟨g, q * 3 + 1, none⟩ (.string M1) := ⟨_, rfl⟩
      have Hsib : Hid (∀ (u : Value) (B n : Nat) (e : TypeId) (z : Nat) (ys : List Value), wr.ownsRow B e z u n ys → u.ownBlock ≠ some g → W3.ownsRow B e z u n ys) := fun u B n e z ys h hne => by
        rw [hW3]
        exact ownsRow_setCell_other (owns_out (ownsRow_setCell_other h (a := ⟨g, q * 3, none⟩) hne _) (Out.of_below (lo := 0) (hi := 0) Hb2.out) (fun _ _ => .inr (Nat.zero_le _))) (a := ⟨g, q * 3 + 1, none⟩) hne _
      have Ho3 : Hid (Out lo w.heap.size w W3) := by
        show Out _ _ _ _
        rw [hW3]
        exact (((Ho.out.setCell (p := ⟨g, q * 3, none⟩) Hg.out.1 Hg.out.2 _).trans (Out.of_below Hb2.out)).setCell (p := ⟨g, q * 3 + 1, none⟩) Hg.out.1 Hg.out.2 _)
      rw [← hW3] at A3' S1
      have q2' : W3.cell? ⟨g, q * 3 + 2, none⟩ = some (V q) := by
        have h := (S1.out.cellAt (q * 3 + 2) (by omega))
        rw [h, List.getElem?_set_ne (by omega), List.getElem?_set_ne (by omega)]
        exact A2.out
      have HW3 := hide hW3
      have hV2 := HV.out
      generalize hVq : V q = vq at *
      have HVq := hide hVq
      clear hVq hW3
      subst hV2
      go_wp2_with fail
      rw [← HW3.out]
      refine (Hms.out W3 _ (by omega) A3'.out).mono ?_
      rintro e w4 ⟨rfl, ho4, hO4⟩
      have Hxl' : Hid (xs.length = ts.length * 3) := Hxl
      have Hvq' : Hid (∀ b, (V q).ownBlock = some b → lo ≤ b ∧ b < w.heap.size) := fun b hb => Hvb.out q hlt b hb
      have Hsb : Hid (∀ j, j < ts.length → j ≠ q → ∀ b, (Value.slice av (ts[q]'hlt).2.2.length cv).ownBlock = some b → (V j).ownBlock ≠ some b) := fun j hj hne b hb => by
        rw [← HVq.out] at hb
        exact Hap.out q j hlt hj (fun e => hne e.symm) b hb
      have Hrow4 : Hid (w4.ownsRow lo 54 3 (.slice (some ⟨g, 0, none⟩) ts.length cap) ts.length ((xs.set (q * 3) (.int .i64 (K : Nat))).set (q * 3 + 1) (.string M1))) :=
        mark_sib hO4.out S1.out (fun b hb he => by cases he; exact A4.out hb)
      have Hsib4 : Hid (∀ j, j < ts.length → j ≠ q → ∀ (B n : Nat) (e : TypeId) (z : Nat) (ys : List Value), wr.ownsRow B e z (V j) n ys → (V j).ownBlock ≠ some g → w4.ownsRow B e z (V j) n ys) := fun j hj hne B n e z ys h hg =>
        mark_sib hO4.out (Hsib.out _ _ _ _ _ _ h hg) (Hsb.out j hj hne)
      have Hxs : Hid (∀ j, j ≠ q → ((xs.set (q * 3) (.int .i64 (K : Nat))).set (q * 3 + 1) (.string M1))[j * 3]? = xs[j * 3]? ∧ ((xs.set (q * 3) (.int .i64 (K : Nat))).set (q * 3 + 1) (.string M1))[j * 3 + 1]? = xs[j * 3 + 1]? ∧ ((xs.set (q * 3) (.int .i64 (K : Nat))).set (q * 3 + 1) (.string M1))[j * 3 + 2]? = xs[j * 3 + 2]?) := fun j hne => by
        refine ⟨?_, ?_, ?_⟩
        · rw [List.getElem?_set_ne (by omega), List.getElem?_set_ne (by omega)]
        · rw [List.getElem?_set_ne (by omega), List.getElem?_set_ne (by omega)]
        · rw [List.getElem?_set_ne (by omega), List.getElem?_set_ne (by omega)]
      have Hnx : Hid (∀ j (hj : j < ts.length), j < q + 1 → termOwn w4 lo ((xs.set (q * 3) (.int .i64 (K : Nat))).set (q * 3 + 1) (.string M1)) V g j ((mts ts k0)[j]'(by rw [mts_len]; exact hj))) := by
        intro j hj hjq
        by_cases e : j = q
        · subst e
          rw [Hmg.out]
          have hl := Hxl'.out
          refine ⟨?_, ?_, ?_, ?_, ?_⟩
          · rw [List.getElem?_set_ne (by omega), List.getElem?_set_self (by omega)]
          · rw [List.getElem?_set_self (by simp; omega)]
          · rw [List.getElem?_set_ne (by omega), List.getElem?_set_ne (by omega), HVq.out]; exact A2.out
          · rw [HVq.out]; show World.ownsRow _ _ _ _ _ _ _; simp only [mks_len]; exact ho4.out
          · rw [HVq.out]; exact A4.out
        · obtain ⟨b0, b1, b2, b3, b4⟩ := Hx.out j hj (by omega)
          have hx := Hxs.out j e
          exact ⟨hx.1.trans b0, hx.2.1.trans b1, hx.2.2.trans b2, Hsib4.out j hj e _ _ _ _ _ b3 b4, b4⟩
      have Hny : Hid (∀ j (hj : j < ts.length), q + 1 ≤ j → termOwn w4 lo ((xs.set (q * 3) (.int .i64 (K : Nat))).set (q * 3 + 1) (.string M1)) V g j ts[j]) := by
        intro j hj hjq
        obtain ⟨b0, b1, b2, b3, b4⟩ := Hy.out j hj (by omega)
        have hx := Hxs.out j (by omega)
        exact ⟨hx.1.trans b0, hx.2.1.trans b1, hx.2.2.trans b2, Hsib4.out j hj (by omega) _ _ _ _ _ b3 b4, b4⟩
      have Hno : Hid (Out lo w.heap.size w w4) := Ho3.out.trans (hO4.out lo w.heap.size (fun b hb => Hvq'.out b (by rw [HVq.out]; exact hb)))
      clear Hx Hy Ho How Hxs Hsib4 Hsib Hsb ho4 hO4
      go_wp2
      go_roundw
      case rel => exact ⟨q + 1, _, by omega, by go_num, by rw [Hks.out]; go_num, Hrow4, Hnx, Hny, Hno⟩
      case measure => simp [intOf]; omega
    · have e : q = ts.length := by omega
      subst e
      have Hn : Hid (ownTs wr lo g cap (mts ts k0)) := by
        refine ⟨xs, V, by rw [mts_len]; exact How.out, fun j hj => Hx.out j (by rw [mts_len] at hj; exact hj) (by rw [mts_len] at hj; exact hj), by rw [mts_len]; exact Hap.out⟩
      rw [List.take_length]
      clear Hx Hy How
      go_wp2
      go_ret
      exact ⟨rfl, Hn.out, Ho.out⟩

set_option maxHeartbeats 800000 in
theorem heldStringS_any (a : Option Addr) (cap n k0 : Nat) (w : World) (hn : n ≤ 1000000) (hk0 : 1 ≤ k0) (hk1 : k0 ≤ 10000000) (hrow : strOf w a (mks k0 n)) :
    Calls Tryd.prog 51 #[.slice a n cap, .int .i64 k0] w fun e w' => e = .returned (.int .i64 (k0 + n : Nat)) ∧ Below w.heap.size w w' := by
  have Hr := hide hrow
  clear hrow
  go_enter Tryd.func51, Tryd.ntmps51
  go_wp2
  go_loopw [1, 5] (fun q i wr => ∃ (k : Nat), k ≤ n ∧ i = .int .i64 k ∧ q = .int .i64 (k0 + k : Nat) ∧ Below w.heap.size w wr) (fun _ i _ => n - (intOf i).toNat)
  case atStart => exact ⟨0, Nat.zero_le _, rfl, rfl, Below.refl _ _⟩
  case round =>
    obtain ⟨k, hk, rfl, rfl, hbw⟩ := hrel
    by_cases hlt : k < n
    · obtain ⟨b, off, rfl, hat⟩ := Hr.out (by rw [mks_len]; omega)
      have hat' := hat k (by rw [mks_len]; exact hlt)
      rw [mks_get] at hat'
      have hbb : b < w.heap.size := World.block_lt_of_cell? _ _ hat'
      have Hc : Hid (∀ wx, Below w.heap.size w wx → wx.cell? ⟨b, off + k, none⟩ = some (.string (mtx (k0 + k)))) := fun wx hx => (hx.cell (p := ⟨b, off + k, none⟩) hbb).trans hat'
      have hm0 : ∀ (wx : World) (x : Int), Below w.heap.size w wx → x = ((k0 + k : Nat) : Int) → Calls Tryd.prog 49 #[.int .i64 x] wx fun e w' => e = .returned (.string (mtx (k0 + k))) ∧ Hid (Below w.heap.size w w') := fun wx x hb hx => by rw [hx]; exact (markText_any (k0 + k) wx (by omega) (by omega)).mono fun e w' h => ⟨h.1, hb.trans (h.2.mono hb.size)⟩
      have Hm0 := hide hm0
      have q0 := Hc.out _ hbw
      clear hat hat' hm0
      generalize mtx (k0 + k) = M0 at *
      go_wp2
      go_region_with (go_at_call 49; refine (Hm0.out _ _ (by repeat (first | exact hbw | refine Below.drew ?_ | refine below_drewN ?_ _)) (by omega)).mono ?_; rintro e w2 ⟨rfl, hb2⟩; have q2 := Hc.out _ hb2.out)
      all_goals (
        go_wp2
        go_roundw
        case rel => exact ⟨k + 1, by omega, by go_num, by go_num, by repeat (first | exact hb2.out | refine Below.drew ?_ | refine below_drewN ?_ _)⟩
        case measure => simp [intOf]; omega)
    · have e : k = n := by omega
      subst e
      clear Hr
      go_wp2
      go_ret
      exact ⟨rfl, hbw⟩

set_option maxHeartbeats 1600000 in
theorem heldTermS_any (a : Option Addr) (cap k0 : Nat) (ts : List TD) (w : World) (hn : ts.length ≤ 1000000) (hl : ∀ t ∈ ts, t.2.2.length ≤ 1000000) (hk0 : 1 ≤ k0) (hk1 : kEnd ts k0 ≤ 1000000) (hrow : termsOf w a (mts ts k0)) :
    Calls Tryd.prog 19 #[.slice a ts.length cap, .int .i64 k0] w fun e w' => e = .returned (.int .i64 (kEnd ts k0 : Nat)) ∧ Below w.heap.size w w' := by
  have Hr := hide hrow
  have Hl := hide hl
  clear hrow hl
  go_enter Tryd.func19, Tryd.ntmps19
  go_wp2
  go_loopw [1, 5] (fun s i wr => ∃ (q : Nat), q ≤ ts.length ∧ i = .int .i64 q ∧ s = .int .i64 (kEnd (ts.take q) k0 : Nat) ∧ Below w.heap.size w wr) (fun _ i _ => ts.length - (intOf i).toNat)
  case atStart => exact ⟨0, Nat.zero_le _, rfl, rfl, Below.refl _ _⟩
  case round =>
    obtain ⟨q, hq, rfl, rfl, hbw⟩ := hrel
    by_cases hlt : q < ts.length
    · obtain ⟨b, off, rfl, hat⟩ := Hr.out (by rw [mts_len]; omega)
      have hat' := hat q (by rw [mts_len]; exact hlt)
      have hks := kEnd_succ ts k0 q hlt
      have hkt := kEnd_take ts k0 (q + 1)
      have hkg := kEnd_ge (ts.take q) k0
      have hvl := Hl.out _ (List.getElem_mem hlt)
      rw [mts_get ts k0 q hlt] at hat'
      generalize hK : kEnd (ts.take q) k0 = K at *
      generalize hL : (ts[q]'hlt).2.2.length = L at *
      have hKle : K + 2 + L ≤ 1000000 := by omega
      have Hks := hide hks
      have Hat := hide hat'
      obtain ⟨h0c, -, av, capv, h2c, h3c, -, -⟩ := hat'.below hbw
      simp only [mks_len] at h0c h2c
      have hbb := World.block_lt_of_cell? _ _ Hat.out.1
      have Hc1 : Hid (∀ wx, Below w.heap.size w wx → wx.cell? ⟨b, off + q * 3 + 1, none⟩ = some (.string (mtx (K + 1))) ∧ wx.cell? ⟨b, off + q * 3 + 2, none⟩ = some (.slice av L capv) ∧ strOf wx av (mks (K + 2) L)) := fun wx hx => by
        obtain ⟨-, g1, av', capv', g2, g3, -, -⟩ := Hat.out
        have e2 := (hbw.cell (p := ⟨b, off + q * 3 + 2, none⟩) hbb).trans g2
        simp only [mks_len] at e2
        rw [h2c] at e2
        simp only [Option.some.injEq, Value.slice.injEq, true_and] at e2
        obtain ⟨rfl, rfl⟩ := e2
        exact ⟨(hx.cell (p := ⟨b, off + q * 3 + 1, none⟩) hbb).trans g1, (by have := (hx.cell (p := ⟨b, off + q * 3 + 2, none⟩) hbb).trans g2; simpa only [mks_len] using this), g3.below hx⟩
      have hm0 : ∀ (wx : World) (x : Int), Below w.heap.size w wx → x = ((K + 1 : Nat) : Int) → Calls Tryd.prog 49 #[.int .i64 x] wx fun e w' => e = .returned (.string (mtx (K + 1))) ∧ Hid (Below w.heap.size w w') := fun wx x hb hx => by rw [hx]; exact (markText_any (K + 1) wx (by omega) (by omega)).mono fun e w' h => ⟨h.1, hb.trans (h.2.mono hb.size)⟩
      have Hm0 := hide hm0
      have hh : ∀ (wx : World) (x : Int), x = ((K + 2 : Nat) : Int) → strOf wx av (mks (K + 2) L) → Calls Tryd.prog 51 #[.slice av L capv, .int .i64 x] wx fun e w' => e = .returned (.int .i64 (K + 2 + L : Nat)) ∧ Below wx.heap.size wx w' := fun wx x hx hs => by rw [hx]; exact heldStringS_any av capv L (K + 2) wx hvl (by omega) (by omega) hs
      have Hh := hide hh
      have q1 := (Hc1.out _ hbw).1
      clear hat hat' hK hL hks h2c h3c hm0 hh Hat
      generalize mtx (K + 1) = M1 at *
      go_wp2
      go_region_with (go_at_call 49; refine (Hm0.out _ _ (by repeat (first | exact hbw | refine Below.drew ?_ | refine below_drewN ?_ _)) (by omega)).mono ?_; rintro e w2 ⟨rfl, hb2⟩; have q2 := (Hc1.out _ hb2.out).1)
      all_goals (
        have q3 := (Hc1.out _ hb2.out).2.1
        have Hq4 := hide (Hc1.out _ hb2.out).2.2
        go_wp2_with fail
        refine (Hh.out _ _ (by omega) (Hq4.out.below (by repeat (first | exact Below.refl _ _ | refine Below.drew ?_ | refine below_drewN ?_ _)))).mono ?_
        rintro e w3 ⟨rfl, hb3⟩
        have Hb3 : Hid (Below w.heap.size w w3) := hb2.out.trans ((show Below w2.heap.size w2 w3 by exact hb3).mono hb2.out.size)
        clear hb3
        go_wp2
        go_roundw
        case rel => exact ⟨q + 1, by omega, by go_num, by rw [Hks.out]; go_num, Hb3.out⟩
        case measure => simp [intOf]; omega)
    · have e : q = ts.length := by omega
      subst e
      rw [List.take_length]
      clear Hr
      go_wp2
      go_ret
      exact ⟨rfl, hbw⟩
end Go.Proofs.YtbadjopaocindaaDoor
