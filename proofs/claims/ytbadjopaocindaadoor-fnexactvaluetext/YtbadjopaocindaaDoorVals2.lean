/- Values copied: laws.toValueS, toValue. -/
import Derived.Test.YtbadjopaocindaaDoorVals
import Derived.Test.YtbadjopaocindaaDoorTerms
namespace Go.Proofs.YtbadjopaocindaaDoor
open Go.RowKit
set_option linter.unusedVariables false

theorem Tryd.infoValue : (Tryd.prog.info? 45).map (fun i => (i.zero, i.size, i.bytes)) = some (some (.agg #[.int .i64 0, .string ByteArray.empty, .int .i64 0, .slice none 0 0, .slice none 0 0]), 5, 80) := by kernel_rfl
/-- place j of a row of cells holds a value whose parts lie from B on -/
def valIs (w : World) (B : Nat) (xs : List Value) : (n : Nat) → Nat → VT n → Prop
  | 0, _, _ => False
  | n + 1, j, v => xs[j * 5]? = some (.int .i64 v.hd.kd) ∧ xs[j * 5 + 1]? = some (.string v.hd.tx) ∧ xs[j * 5 + 2]? = some (.int .i64 v.hd.nm) ∧
    (∃ a cap, xs[j * 5 + 3]? = some (.slice a v.hd.ks.length cap) ∧ strB w B a v.hd.ks ∧ fits a v.hd.ks.length cap) ∧
    ∃ a cap, xs[j * 5 + 4]? = some (.slice a v.kids.length cap) ∧ valsOf w B n a v.kids ∧ fits a v.kids.length cap
theorem valIs.keeps {w w' : World} {B : Nat} {xs : List Value} (hk : Keeps B w w') : ∀ {n j : Nat} {v : VT n}, valIs w B xs n j v → valIs w' B xs n j v
  | 0, _, _, h => h.elim
  | n + 1, j, v, ⟨h0, h1, h2, ⟨a, cap, h3, h4, h5⟩, a', cap', h6, h7, h8⟩ => ⟨h0, h1, h2, ⟨a, cap, h3, h4.keeps hk, h5⟩, a', cap', h6, h7.keeps hk, h8⟩
theorem valIs.mono {w : World} {B B' : Nat} {xs : List Value} (hB : B' ≤ B) : ∀ {n j : Nat} {v : VT n}, valIs w B xs n j v → valIs w B' xs n j v
  | 0, _, _, h => h.elim
  | n + 1, j, v, ⟨h0, h1, h2, ⟨a, cap, h3, h4, h5⟩, a', cap', h6, h7, h8⟩ => ⟨h0, h1, h2, ⟨a, cap, h3, h4.mono hB, h5⟩, a', cap', h6, h7.mono hB, h8⟩
theorem valIs.put {w : World} {B : Nat} {xs : List Value} {j k : Nat} {u0 u1 u2 u3 u4 : Value} (hjk : j ≠ k) : ∀ {n : Nat} {v : VT n}, valIs w B xs n j v → valIs w B (((((xs.set (k * 5) u0).set (k * 5 + 1) u1).set (k * 5 + 2) u2).set (k * 5 + 3) u3).set (k * 5 + 4) u4) n j v
  | 0, _, h => h.elim
  | n + 1, v, ⟨h0, h1, h2, ⟨a, cap, h3, h4, h5⟩, a', cap', h6, h7, h8⟩ => by
    refine ⟨?_, ?_, ?_, ⟨a, cap, ?_, h4, h5⟩, a', cap', ?_, h7, h8⟩
    all_goals rw [List.getElem?_set_ne (by omega), List.getElem?_set_ne (by omega), List.getElem?_set_ne (by omega), List.getElem?_set_ne (by omega), List.getElem?_set_ne (by omega)]
    all_goals assumption
theorem valsOf_owns {w : World} {B B' n g m cap : Nat} {e : TypeId} {xs : List Value} {ts : List (VT n)} (h : w.ownsRow B' e 5 (.slice (some ⟨g, 0, none⟩) m cap) m xs) (hn : m = ts.length) (hB : B ≤ g) (ht : ∀ j (hj : j < ts.length), valIs w B xs n j ts[j]) : valsOf w B n (some ⟨g, 0, none⟩) ts := by
  intro _
  refine ⟨g, 0, rfl, hB, fun i hi => ?_⟩
  have hx := ht i hi
  cases n with
  | zero => exact hx.elim
  | succ n =>
    obtain ⟨h0, h1, h2, ⟨a, cap, h3, h4, h5⟩, a', cap', h6, h7, h8⟩ := hx
    subst hn
    rw [Nat.zero_add]
    exact ⟨(h.cellAt _ (by omega)).trans h0, (h.cellAt _ (by omega)).trans h1, (h.cellAt _ (by omega)).trans h2, ⟨a, cap, (h.cellAt _ (by omega)).trans h3, h4, h5⟩, a', cap', (h.cellAt _ (by omega)).trans h6, h7, h8⟩
theorem strB_owns {w : World} {B B' g n cap : Nat} {e : TypeId} {ss : List ByteArray} (h : w.ownsRow B' e 1 (.slice (some ⟨g, 0, none⟩) n cap) n (strVs ss)) (hB : B ≤ g) : strB w B (some ⟨g, 0, none⟩) ss := fun hl => by
  obtain ⟨b, off, e, hr⟩ := strOf_owns h hl
  cases e
  exact ⟨_, _, rfl, hB, hr⟩

def toC (n : Nat) : Prop := ∀ (v : VT n) (x : Value) (w : World), smVT n v → valArg w 0 n x v →
  Calls Tryd.prog 22 #[x] w fun e w' => ∃ x', e = .returned x' ∧ valArg w' w.heap.size n x' v ∧ Below w.heap.size w w'
set_option maxHeartbeats 800000 in
theorem toValueS_of {n : Nat} (ih : toC n) (a : Option Addr) (cap : Nat) (ts : List (VT n)) (w : World) (hl : ts.length ≤ 1048576) (hz : smVTs n ts) (hrow : valsOf w 0 n a ts) :
    Calls Tryd.prog 57 #[.slice a ts.length cap] w fun e w' => ∃ g, e = .returned (.slice (some ⟨g, 0, none⟩) ts.length ts.length) ∧ w.heap.size ≤ g ∧ valsOf w' w.heap.size n (some ⟨g, 0, none⟩) ts ∧ Below w.heap.size w w' := by
  obtain ⟨i0, hi, hz0, hz1, hz2⟩ := info_parts Tryd.infoValue
  have Hr := hide hrow
  have Hz := hide hz
  have Hi := hide ih
  clear hrow hz ih
  go_enter Tryd.func57, Tryd.ntmps57
  go_wp2_with (at_make; refine wpList_make_full _ rfl _ _ 43 rfl w.heap.size 45 i0 _ 5 Tryd.underlying43 hi hz0 hz1 _ _ _ _ ts.length rfl rfl rfl rfl (by rw [hz2]; omega) (by unfold maxLen; omega) (Nat.le_refl _) ?_; intro w1 hown hgrow)
  go_loopw [4] (fun i wr => ∃ (k : Nat) (xs : List Value), k ≤ ts.length ∧ i = .int .i64 k ∧ wr.ownsRow w.heap.size 45 5 (.slice (some ⟨w.heap.size, 0, none⟩) ts.length ts.length) ts.length xs ∧
      Hid (∀ j (hj : j < ts.length), j < k → valIs wr (w.heap.size + 1) xs n j ts[j]) ∧ Below w.heap.size w wr) (fun i _ => ts.length - (intOf i).toNat)
  case atStart => exact ⟨0, _, Nat.zero_le _, rfl, hown, fun j _ hj => by omega, Below.grown (Below.refl _ _) hgrow (Nat.le_refl _) (fun k hk => by cases hk)⟩
  case round =>
    obtain ⟨k, xs, hk, rfl, how, Hx, hbw⟩ := hrel
    clear hown hgrow
    by_cases hlt : k < ts.length
    · obtain ⟨b, off, rfl, _, hat⟩ := Hr.out (by omega)
      have hv := (hat k hlt).below hbw
      have hz := (Hz.out _ (List.getElem_mem hlt))
      cases n with
      | zero => exact hv.elim
      | succ n =>
      obtain ⟨KD, TX, NM, KS, KIDS, hkv⟩ := VT.parts (ts[k]'hlt)
      rw [hkv] at hv hz
      have Hkv := hide hkv
      clear hkv hat
      have Hcon := hide (fun (X : Value) (wx : World) (hx : valArg wx 0 (n + 1) X (VT.mk ⟨KD, TX, NM, KS⟩ KIDS)) => Hi.out (VT.mk ⟨KD, TX, NM, KS⟩ KIDS) X wx hz hx)
      obtain ⟨h0c, h1c, h2c, ⟨av, capv, h3c, h3d⟩, al, capl, h4c, h4d⟩ := hv
      have Hd := hide (And.intro h3d h4d)
      simp only [VT.hd_mk, VT.kids_mk] at h0c h1c h2c h3c h4c
      clear h3d h4d hz
      have hxl : xs.length = ts.length * 5 := how.1
      have Hxl := hide hxl
      have hw0 : w.heap.size < wr.heap.size := owns_slot how
      obtain ⟨o0, g0⟩ : ∃ o, xs[k * 5]? = some o := ⟨_, List.getElem?_eq_getElem (by omega)⟩
      obtain ⟨o1, g1⟩ : ∃ o, xs[k * 5 + 1]? = some o := ⟨_, List.getElem?_eq_getElem (by omega)⟩
      obtain ⟨o2, g2⟩ : ∃ o, xs[k * 5 + 2]? = some o := ⟨_, List.getElem?_eq_getElem (by omega)⟩
      obtain ⟨o3, g3⟩ : ∃ o, xs[k * 5 + 3]? = some o := ⟨_, List.getElem?_eq_getElem (by omega)⟩
      obtain ⟨o4, g4⟩ : ∃ o, xs[k * 5 + 4]? = some o := ⟨_, List.getElem?_eq_getElem (by omega)⟩
      have How := hide how
      have G0 := hide g0
      have G1 := hide g1
      have G2 := hide g2
      have G3 := hide g3
      have G4 := hide g4
      clear how g0 g1 g2 g3 g4 hxl
      go_wp2_with fail
      refine (Hcon.out _ _ ⟨_, _, _, _, rfl, Hd.out.1, Hd.out.2⟩).mono ?_
      rintro e w2 ⟨X', rfl, ⟨a1, c1, a2, c2, rfl, hks, hkd⟩, hb2⟩
      simp only [VT.hd_mk, VT.kids_mk] at hks hkd ⊢
      have how2 := owns_below How.out hb2
      have q0 : w2.cell? ⟨w.heap.size, k * 5, none⟩ = some o0 := (how2.cellAt _ (by omega)).trans G0.out
      have q1 : w2.cell? ⟨w.heap.size, k * 5 + 1, none⟩ = some o1 := (how2.cellAt _ (by omega)).trans G1.out
      have q2 : w2.cell? ⟨w.heap.size, k * 5 + 2, none⟩ = some o2 := (how2.cellAt _ (by omega)).trans G2.out
      have q3 : w2.cell? ⟨w.heap.size, k * 5 + 3, none⟩ = some o3 := (how2.cellAt _ (by omega)).trans G3.out
      have q4 : w2.cell? ⟨w.heap.size, k * 5 + 4, none⟩ = some o4 := (how2.cellAt _ (by omega)).trans G4.out
      have f0 := how2.frozenAt (k * 5)
      have f1 := how2.frozenAt (k * 5 + 1)
      have f2 := how2.frozenAt (k * 5 + 2)
      have f3 := how2.frozenAt (k * 5 + 3)
      have f4 := how2.frozenAt (k * 5 + 4)
      have S0 := hide (((((how2.stored (k * 5) (.int .i64 KD)).1.stored (k * 5 + 1) (.string TX)).1.stored (k * 5 + 2) (.int .i64 NM)).1.stored (k * 5 + 3) (.slice a1 KS.length c1)).1.stored (k * 5 + 4) (.slice a2 KIDS.length c2)).1
      have Hn2 := hide (And.intro (And.intro (hks.1.mono (B' := w.heap.size + 1) (by omega)) hks.2) (And.intro (hkd.1.mono (B' := w.heap.size + 1) (by omega)) hkd.2))
      have Hb2 := hide hb2
      clear how2 hks hkd hb2
      go_wp2
      go_roundw
      case rel => exact ⟨k + 1, _, by omega, by go_num, S0.out, (by
          have KP : ∀ {wa : World}, Keeps (w.heap.size + 1) wa (((((wa.setCell ⟨w.heap.size, k * 5, none⟩ (.int .i64 KD)).setCell ⟨w.heap.size, k * 5 + 1, none⟩ (.string TX)).setCell ⟨w.heap.size, k * 5 + 2, none⟩ (.int .i64 NM)).setCell ⟨w.heap.size, k * 5 + 3, none⟩ (.slice a1 KS.length c1)).setCell ⟨w.heap.size, k * 5 + 4, none⟩ (.slice a2 KIDS.length c2)) := fun {wa} =>
            ((((Keeps.set _ (by simp)).trans (Keeps.set _ (by simp))).trans (Keeps.set _ (by simp))).trans (Keeps.set _ (by simp))).trans (Keeps.set _ (by simp))
          intro j hj hjk
          have hl := Hxl.out
          by_cases e0 : j = k
          · subst e0
            rw [Hkv.out]
            refine valIs.keeps KP ⟨?_, ?_, ?_, ⟨a1, c1, ?_, Hn2.out.1⟩, a2, c2, ?_, Hn2.out.2⟩
            · rw [List.getElem?_set_ne (by omega), List.getElem?_set_ne (by omega), List.getElem?_set_ne (by omega), List.getElem?_set_ne (by omega), List.getElem?_set_self (by omega)]; rfl
            · rw [List.getElem?_set_ne (by omega), List.getElem?_set_ne (by omega), List.getElem?_set_ne (by omega), List.getElem?_set_self (by simp; omega)]; rfl
            · rw [List.getElem?_set_ne (by omega), List.getElem?_set_ne (by omega), List.getElem?_set_self (by simp; omega)]; rfl
            · rw [List.getElem?_set_ne (by omega), List.getElem?_set_self (by simp; omega)]; rfl
            · rw [List.getElem?_set_self (by simp; omega)]; rfl
          · exact ((((Hx.out j hj (by omega)).keeps (Keeps.below Hb2.out)).keeps KP).put e0)),
        (((((hbw.trans (Hb2.out.mono hbw.size)).setCell (Nat.le_refl _) _).setCell (Nat.le_refl _) _).setCell (Nat.le_refl _) _).setCell (Nat.le_refl _) _).setCell (Nat.le_refl _) _⟩
      case measure => simp [intOf]; omega
    · have e : k = ts.length := by omega
      subst e
      go_wp2
      go_ret
      refine ⟨_, rfl, Nat.le_refl _, valsOf_owns how rfl (Nat.le_refl _) (fun j hj => (Hx.out j hj hj).mono (Nat.le_succ _)), hbw⟩
set_option maxHeartbeats 800000 in
theorem toValue_of {n : Nat} (ih : toC n) : toC (n + 1) := by
  intro v X w hok harg
  obtain ⟨kd, key, nm, ss, kids, rfl⟩ := VT.parts v
  obtain ⟨a, cap, a', cap', rfl, ⟨hrow, hf⟩, hkids, hf'⟩ := harg
  obtain ⟨hk, hl, hz, hkl, hkz⟩ := hok
  simp only [VT.hd_mk, VT.kids_mk] at *
  have Hcon : Hid (∀ wx, Below w.heap.size w wx → Calls Tryd.prog 56 #[.slice a ss.length cap] wx fun e w' => e = .returned (.slice (some ⟨wx.heap.size, 0, none⟩) ss.length ss.length) ∧
      Hid (w'.ownsRow wx.heap.size 9 1 (.slice (some ⟨wx.heap.size, 0, none⟩) ss.length ss.length) ss.length (strVs ss)) ∧ Below wx.heap.size wx w') :=
    fun wx hx => toStringS_any a cap ss wx hl (hrow.of.below hx)
  have Hcon2 : Hid (∀ wx, Below w.heap.size w wx → Calls Tryd.prog 57 #[.slice a' kids.length cap'] wx fun e w' => ∃ g, e = .returned (.slice (some ⟨g, 0, none⟩) kids.length kids.length) ∧ wx.heap.size ≤ g ∧ Hid (valsOf w' wx.heap.size n (some ⟨g, 0, none⟩) kids) ∧ Below wx.heap.size wx w') :=
    fun wx hx => toValueS_of ih a' cap' kids wx hkl hkz (hkids.below hx)
  clear hrow hf hkids hf' hk hl hz hkl hkz ih
  go_enter Tryd.func22, Tryd.ntmps22
  go_wp2_with fail
  refine (Hcon.out _ ((((Below.refl _ _).alloc (by simp) _).alloc (by simp) _).alloc (by simp; omega) _)).mono ?_
  rintro e w1 ⟨rfl, ho1, hb1⟩
  have p4 : w1.cell? ⟨w.heap.size, 4, none⟩ = some (.slice a' kids.length cap') := (hb1.cell (p := ⟨w.heap.size, 4, none⟩) (by simp; omega)).trans (by simp [go_sem])
  have c0 : w1.cell? ⟨w.heap.size + 1 + 1, 0, none⟩ = some (.int .i64 kd) := (hb1.cell (p := ⟨w.heap.size + 1 + 1, 0, none⟩) (by simp)).trans (by simp [go_sem])
  have c1 : w1.cell? ⟨w.heap.size + 1 + 1, 1, none⟩ = some (.string key) := (hb1.cell (p := ⟨w.heap.size + 1 + 1, 1, none⟩) (by simp)).trans (by simp [go_sem])
  have c2 : w1.cell? ⟨w.heap.size + 1 + 1, 2, none⟩ = some (.int .i64 nm) := (hb1.cell (p := ⟨w.heap.size + 1 + 1, 2, none⟩) (by simp)).trans (by simp [go_sem])
  have c3 : w1.cell? ⟨w.heap.size + 1 + 1, 3, none⟩ = some (.slice none 0 0) := (hb1.cell (p := ⟨w.heap.size + 1 + 1, 3, none⟩) (by simp)).trans (by simp [go_sem])
  have c4 : w1.cell? ⟨w.heap.size + 1 + 1, 4, none⟩ = some (.slice none 0 0) := (hb1.cell (p := ⟨w.heap.size + 1 + 1, 4, none⟩) (by simp)).trans (by simp [go_sem])
  have f3 : w1.frozen? ⟨w.heap.size + 1 + 1, 3, none⟩ = false := (hb1.frozen (p := ⟨w.heap.size + 1 + 1, 3, none⟩) (by simp)).trans (by simp [go_sem])
  have f4 : w1.frozen? ⟨w.heap.size + 1 + 1, 4, none⟩ = false := (hb1.frozen (p := ⟨w.heap.size + 1 + 1, 4, none⟩) (by simp)).trans (by simp [go_sem])
  have d0 : w1.cell? ⟨w.heap.size + 1, 0, none⟩ = some (.int .i64 0) := (hb1.cell (p := ⟨w.heap.size + 1, 0, none⟩) (by simp)).trans (by simp [go_sem])
  have d1 : w1.cell? ⟨w.heap.size + 1, 1, none⟩ = some (.string ⟨#[]⟩) := (hb1.cell (p := ⟨w.heap.size + 1, 1, none⟩) (by simp)).trans (by simp [go_sem])
  have d2 : w1.cell? ⟨w.heap.size + 1, 2, none⟩ = some (.int .i64 0) := (hb1.cell (p := ⟨w.heap.size + 1, 2, none⟩) (by simp)).trans (by simp [go_sem])
  have d3 : w1.cell? ⟨w.heap.size + 1, 3, none⟩ = some (.slice none 0 0) := (hb1.cell (p := ⟨w.heap.size + 1, 3, none⟩) (by simp)).trans (by simp [go_sem])
  have d4 : w1.cell? ⟨w.heap.size + 1, 4, none⟩ = some (.slice none 0 0) := (hb1.cell (p := ⟨w.heap.size + 1, 4, none⟩) (by simp)).trans (by simp [go_sem])
  have e0 : w1.frozen? ⟨w.heap.size + 1, 0, none⟩ = false := (hb1.frozen (p := ⟨w.heap.size + 1, 0, none⟩) (by simp)).trans (by simp [go_sem])
  have e1 : w1.frozen? ⟨w.heap.size + 1, 1, none⟩ = false := (hb1.frozen (p := ⟨w.heap.size + 1, 1, none⟩) (by simp)).trans (by simp [go_sem])
  have e2 : w1.frozen? ⟨w.heap.size + 1, 2, none⟩ = false := (hb1.frozen (p := ⟨w.heap.size + 1, 2, none⟩) (by simp)).trans (by simp [go_sem])
  have e3 : w1.frozen? ⟨w.heap.size + 1, 3, none⟩ = false := (hb1.frozen (p := ⟨w.heap.size + 1, 3, none⟩) (by simp)).trans (by simp [go_sem])
  have e4 : w1.frozen? ⟨w.heap.size + 1, 4, none⟩ = false := (hb1.frozen (p := ⟨w.heap.size + 1, 4, none⟩) (by simp)).trans (by simp [go_sem])
  have hs1 : w.heap.size + 1 + 1 + 1 ≤ w1.heap.size := by have := hb1.size; simpa using this
  have Ho1 := hide ho1.out
  have HB1 : Hid (Below w.heap.size w w1) := ((((Below.refl _ _).alloc (by simp) _).alloc (by simp) _).alloc (by simp; omega) _).trans (hb1.mono (by simp; omega))
  clear ho1 hb1
  simp only [World.size_alloc] at Ho1
  go_wp2_with fail
  refine (Hcon2.out _ (HB1.out.setCell (by simp; omega) _)).mono ?_
  rintro e w2 ⟨g2, rfl, hg2, hr2, hb2⟩
  have c0' : w2.cell? ⟨w.heap.size + 1 + 1, 0, none⟩ = some (.int .i64 kd) := (hb2.cell (p := ⟨w.heap.size + 1 + 1, 0, none⟩) (by simp; omega)).trans (by simp [go_sem, c0])
  have c1' : w2.cell? ⟨w.heap.size + 1 + 1, 1, none⟩ = some (.string key) := (hb2.cell (p := ⟨w.heap.size + 1 + 1, 1, none⟩) (by simp; omega)).trans (by simp [go_sem, c1])
  have c2' : w2.cell? ⟨w.heap.size + 1 + 1, 2, none⟩ = some (.int .i64 nm) := (hb2.cell (p := ⟨w.heap.size + 1 + 1, 2, none⟩) (by simp; omega)).trans (by simp [go_sem, c2])
  have c3' : w2.cell? ⟨w.heap.size + 1 + 1, 3, none⟩ = some (.slice (some ⟨w.heap.size + 1 + 1 + 1, 0, none⟩) ss.length ss.length) := (hb2.cell (p := ⟨w.heap.size + 1 + 1, 3, none⟩) (by simp; omega)).trans (by simp [go_sem, c3])
  have c4' : w2.cell? ⟨w.heap.size + 1 + 1, 4, none⟩ = some (.slice none 0 0) := (hb2.cell (p := ⟨w.heap.size + 1 + 1, 4, none⟩) (by simp; omega)).trans (by simp [go_sem, c4])
  have f4' : w2.frozen? ⟨w.heap.size + 1 + 1, 4, none⟩ = false := (hb2.frozen (p := ⟨w.heap.size + 1 + 1, 4, none⟩) (by simp; omega)).trans (by simp [go_sem, f4])
  have d0' : w2.cell? ⟨w.heap.size + 1, 0, none⟩ = some (.int .i64 0) := (hb2.cell (p := ⟨w.heap.size + 1, 0, none⟩) (by simp; omega)).trans (by simp [go_sem, d0])
  have d1' : w2.cell? ⟨w.heap.size + 1, 1, none⟩ = some (.string ⟨#[]⟩) := (hb2.cell (p := ⟨w.heap.size + 1, 1, none⟩) (by simp; omega)).trans (by simp [go_sem, d1])
  have d2' : w2.cell? ⟨w.heap.size + 1, 2, none⟩ = some (.int .i64 0) := (hb2.cell (p := ⟨w.heap.size + 1, 2, none⟩) (by simp; omega)).trans (by simp [go_sem, d2])
  have d3' : w2.cell? ⟨w.heap.size + 1, 3, none⟩ = some (.slice none 0 0) := (hb2.cell (p := ⟨w.heap.size + 1, 3, none⟩) (by simp; omega)).trans (by simp [go_sem, d3])
  have d4' : w2.cell? ⟨w.heap.size + 1, 4, none⟩ = some (.slice none 0 0) := (hb2.cell (p := ⟨w.heap.size + 1, 4, none⟩) (by simp; omega)).trans (by simp [go_sem, d4])
  have e0' : w2.frozen? ⟨w.heap.size + 1, 0, none⟩ = false := (hb2.frozen (p := ⟨w.heap.size + 1, 0, none⟩) (by simp; omega)).trans (by simp [go_sem, e0])
  have e1' : w2.frozen? ⟨w.heap.size + 1, 1, none⟩ = false := (hb2.frozen (p := ⟨w.heap.size + 1, 1, none⟩) (by simp; omega)).trans (by simp [go_sem, e1])
  have e2' : w2.frozen? ⟨w.heap.size + 1, 2, none⟩ = false := (hb2.frozen (p := ⟨w.heap.size + 1, 2, none⟩) (by simp; omega)).trans (by simp [go_sem, e2])
  have e3' : w2.frozen? ⟨w.heap.size + 1, 3, none⟩ = false := (hb2.frozen (p := ⟨w.heap.size + 1, 3, none⟩) (by simp; omega)).trans (by simp [go_sem, e3])
  have e4' : w2.frozen? ⟨w.heap.size + 1, 4, none⟩ = false := (hb2.frozen (p := ⟨w.heap.size + 1, 4, none⟩) (by simp; omega)).trans (by simp [go_sem, e4])
  have HB2 : Hid (Below w.heap.size w w2) := (HB1.out.setCell (by simp; omega) _).trans (hb2.mono (by simp; omega))
  have Hks : Hid (strB w2 (w.heap.size + 1 + 1 + 1) (some ⟨w.heap.size + 1 + 1 + 1, 0, none⟩) ss) :=
    ((strB_owns Ho1.out (Nat.le_refl _)).keeps (Keeps.set _ (by simp))).keeps (Keeps.below hb2)
  have Hkd := hide (hr2.out.mono (B' := w.heap.size + 1 + 1 + 1) (by simp; omega))
  have hs2 : w.heap.size + 1 + 1 + 1 ≤ w2.heap.size := by have := hb2.size; simp at this; omega
  clear hb2 hr2 c0 c1 c2 c3 c4 d0 d1 d2 d3 d4 e0 e1 e2 e3 e4 f3 f4 p4
  go_wp2
  refine bodyPost_ret (v := .agg #[.int .i64 kd, .string key, .int .i64 nm, .slice (some ⟨w.heap.size + 1 + 1 + 1, 0, none⟩) ss.length ss.length, .slice (some ⟨g2, 0, none⟩) kids.length kids.length]) ?_ rfl ⟨_, rfl, ⟨_, _, _, _, rfl, ⟨?_, Nat.le_refl _, fun h => by cases h⟩, ?_, Nat.le_refl _, fun h => by cases h⟩, ?_⟩
  · simp [results, Tryd.results22, go_sem, d0', d1', d2', d3', d4']
  · refine (Hks.out.keeps ?_).mono (by omega)
    repeat (first | with_reducible exact Keeps.refl _ _ | (with_reducible refine Keeps.setR ?_ ?_; rotate_left; · simp))
  · refine (Hkd.out.keeps ?_).mono (by omega)
    repeat (first | with_reducible exact Keeps.refl _ _ | (with_reducible refine Keeps.setR ?_ ?_; rotate_left; · simp))
  · repeat (first | with_reducible exact HB2.out | (with_reducible refine Below.setCell ?_ ?_ _; rotate_left; · (simp; try omega)))
theorem toValue_any : ∀ n, toC n
  | 0 => fun v => nomatch v
  | n + 1 => toValue_of (toValue_any n)
end Go.Proofs.YtbadjopaocindaaDoor
