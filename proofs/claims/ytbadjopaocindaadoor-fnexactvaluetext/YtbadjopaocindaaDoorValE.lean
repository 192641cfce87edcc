/- Values compared: laws.eqValueS, eqValue. -/
import Derived.Test.YtbadjopaocindaaDoorValT
import Derived.Deep.QuietTactic
namespace Go.Proofs.YtbadjopaocindaaDoor
open Go.RowKit
set_option linter.unusedVariables false

def eqC (n : Nat) : Prop := ∀ (u v : VT n) (x y : Value) (w : World), okVT n u → okVT n v → valArg w 0 n x u → valArg w 0 n y v →
  Calls Tryd.prog 24 #[x, y] w fun e w' => e = .returned (.bool (eqVT n u v)) ∧ Below w.heap.size w w'
theorem eqValueS_of {n : Nat} (ih : eqC n) (a a' : Option Addr) (cap cap' : Nat) (ls ms : List (VT n)) (w : World) (hl : ls.length ≤ maxLen) (hl' : ms.length ≤ maxLen) (hz : okVTs n ls) (hz' : okVTs n ms) (hrow : valsOf w 0 n a ls) (hrow' : valsOf w 0 n a' ms) :
    Calls Tryd.prog 61 #[.slice a ls.length cap, .slice a' ms.length cap'] w fun e w' => e = .returned (.bool (eqL (eqVT n) ls ms)) ∧ Below w.heap.size w w' := by
  unfold maxLen at hl hl'
  have Hr := hide hrow
  have Hr' := hide hrow'
  have Hz := hide hz
  have Hz' := hide hz'
  have Hi := hide ih
  clear hrow hrow' hz hz' ih
  by_cases hll : ls.length = ms.length
  · have hb0 : ((ls.length : Int) != (ms.length : Int)) = false := by rw [bne_eq_false_iff_eq]; omega
    have Hl := hide hll
    have hle : ls.length ≤ ms.length := by omega
    have hge : ms.length ≤ ls.length := by omega
    clear hll
    go_enter Tryd.func61, Tryd.ntmps61
    go_wp2
    go_loopw [5] (fun i wr => ∃ (k : Nat), k ≤ ls.length ∧ i = .int .i64 k ∧ Hid (eqL (eqVT n) (ls.drop k) (ms.drop k) = eqL (eqVT n) ls ms) ∧ Below w.heap.size w wr) (fun i _ => ls.length - (intOf i).toNat)
    case atStart => exact ⟨0, Nat.zero_le _, rfl, rfl, Below.refl _ _⟩
    case round =>
      obtain ⟨k, hk, rfl, Hx, hbw⟩ := hrel
      by_cases hlt : k < ls.length
      · have hlt' : k < ms.length := by omega
        obtain ⟨b, off, rfl, _, hat⟩ := Hr.out (by omega)
        obtain ⟨b', off', rfl, _, hat'⟩ := Hr'.out (by omega)
        have hv := (hat k hlt).below hbw
        have hv' := (hat' k hlt').below hbw
        have hzk := Hz.out _ (List.getElem_mem hlt)
        have hzk' := Hz'.out _ (List.getElem_mem hlt')
        have hd := eqL_drop (f := eqVT n) hlt hlt'
        cases n with
        | zero => exact hv.elim
        | succ n =>
        obtain ⟨KD, TX, NM, KS, KIDS, hkv⟩ := VT.parts (ls[k]'hlt)
        obtain ⟨KD', TX', NM', KS', KIDS', hkv'⟩ := VT.parts (ms[k]'hlt')
        rw [hkv] at hv hzk hd
        rw [hkv'] at hv' hzk' hd
        clear hkv hkv' hat hat'
        have hcon := fun (X Y : Value) (wx : World) (hx : valArg wx 0 (n + 1) X (VT.mk ⟨KD, TX, NM, KS⟩ KIDS)) (hy : valArg wx 0 (n + 1) Y (VT.mk ⟨KD', TX', NM', KS'⟩ KIDS')) => Hi.out (VT.mk ⟨KD, TX, NM, KS⟩ KIDS) (VT.mk ⟨KD', TX', NM', KS'⟩ KIDS') X Y wx hzk hzk' hx hy
        generalize eqVT (n + 1) (VT.mk ⟨KD, TX, NM, KS⟩ KIDS) (VT.mk ⟨KD', TX', NM', KS'⟩ KIDS') = q at *
        obtain ⟨h0c, h1c, h2c, ⟨av, capv, h3c, h3d⟩, al, capl, h4c, h4d⟩ := hv
        obtain ⟨h0c', h1c', h2c', ⟨av', capv', h3c', h3d'⟩, al', capl', h4c', h4d'⟩ := hv'
        have Hd := hide (And.intro (And.intro h3d h4d) (And.intro h3d' h4d'))
        simp only [VT.hd_mk, VT.kids_mk] at h0c h1c h2c h3c h4c h0c' h1c' h2c' h3c' h4c'
        have Hcon : Hid (∀ wx, Below wr.heap.size wr wx → Calls Tryd.prog 24 #[.agg #[.int .i64 KD, .string TX, .int .i64 NM, .slice av KS.length capv, .slice al KIDS.length capl], .agg #[.int .i64 KD', .string TX', .int .i64 NM', .slice av' KS'.length capv', .slice al' KIDS'.length capl']] wx fun e w' => e = .returned (.bool q) ∧ Below w.heap.size w w') :=
          fun wx hx => (hcon _ _ wx (valArg.below (n := n + 1) (v := VT.mk ⟨KD, TX, NM, KS⟩ KIDS) ⟨_, _, _, _, rfl, Hd.out.1⟩ hx) (valArg.below (n := n + 1) (v := VT.mk ⟨KD', TX', NM', KS'⟩ KIDS') ⟨_, _, _, _, rfl, Hd.out.2⟩ hx)).mono fun e w' h => ⟨h.1, (hbw.trans (hx.mono hbw.size)).trans (h.2.mono (by have := hbw.size; have := hx.size; omega))⟩
        clear hcon h3d h4d h3d' h4d' hzk hzk'
        cases q
        · have Hn : Hid (eqL (eqVT (n + 1)) ls ms = false) := by rw [← Hx.out, hd]; rfl
          clear hd Hx
          go_wp2
          go_region_with (go_at_call 24; refine (Hcon.out _ (by repeat (first | exact Below.refl _ _ | refine Below.drew ?_ | refine below_drewN ?_ _))).mono ?_; rintro e w2 ⟨rfl, hb2⟩)
          all_goals go_wp2
          all_goals go_ret
          all_goals exact ⟨ret_bool Hn.out.symm, by repeat (first | exact hb2 | refine Below.drew ?_ | refine below_drewN ?_ _)⟩
        · have Hn : Hid (eqL (eqVT (n + 1)) (ls.drop (k + 1)) (ms.drop (k + 1)) = eqL (eqVT (n + 1)) ls ms) := by rw [← Hx.out, hd]; rfl
          clear hd Hx
          go_wp2
          go_region_with (go_at_call 24; refine (Hcon.out _ (by repeat (first | exact Below.refl _ _ | refine Below.drew ?_ | refine below_drewN ?_ _))).mono ?_; rintro e w2 ⟨rfl, hb2⟩)
          all_goals go_wp2
          all_goals go_roundw
          all_goals first
            | (simp [intOf]; omega)
            | exact ⟨k + 1, by omega, by go_num, Hn, by repeat (first | exact hb2 | refine Below.drew ?_ | refine below_drewN ?_ _)⟩
      · have e : k = ls.length := by omega
        subst e
        have Hn : Hid (eqL (eqVT n) ls ms = true) := by
          show _ = _
          rw [← Hx.out, List.drop_length, List.drop_eq_nil_of_le (by omega)]; rfl
        clear Hx
        go_wp2
        go_ret
        exact ⟨ret_bool Hn.out.symm, hbw⟩
  · have hb0 : ((ls.length : Int) != (ms.length : Int)) = true := by rw [bne_iff_ne]; omega
    have Hn : Hid (eqL (eqVT n) ls ms = false) := eqL_len hll
    clear hll
    go_enter Tryd.func61, Tryd.ntmps61
    go_wp2
    go_ret
    exact ⟨ret_bool Hn.out.symm, Below.refl _ _⟩
theorem eqValue_of {n : Nat} (ih : eqC n) : eqC (n + 1) := by
  intro u v X Y w hok hok' harg harg'
  obtain ⟨kd, key, nm, ss, kids, rfl⟩ := VT.parts u
  obtain ⟨kd', key', nm', ss', kids', rfl⟩ := VT.parts v
  obtain ⟨a, cap, b, cab, rfl, ⟨hrow, hf⟩, hkids, hg⟩ := harg
  obtain ⟨a', cap', b', cab', rfl, ⟨hrow', hf'⟩, hkids', hg'⟩ := harg'
  obtain ⟨hk, hl, hz, hkl, hkz⟩ := hok
  obtain ⟨hk', hl', hz', hkl', hkz'⟩ := hok'
  simp only [VT.hd_mk, VT.kids_mk] at *
  have Hc1 : Hid (∀ wx, Below w.heap.size w wx → Calls Tryd.prog 60 #[.slice a ss.length cap, .slice a' ss'.length cap'] wx fun e w' => e = .returned (.bool (decide (ss = ss'))) ∧ Below wx.heap.size wx w') :=
    fun wx hx => eqStringS_any a a' cap cap' ss ss' wx hl hl' (hrow.of.below hx) (hrow'.of.below hx)
  have Hc2 : Hid (∀ wx, Below w.heap.size w wx → Calls Tryd.prog 61 #[.slice b kids.length cab, .slice b' kids'.length cab'] wx fun e w' => e = .returned (.bool (eqL (eqVT n) kids kids')) ∧ Below wx.heap.size wx w') :=
    fun wx hx => eqValueS_of ih b b' cab cab' kids kids' wx hkl hkl' hkz hkz' (hkids.below hx) (hkids'.below hx)
  have E : Hid (eqVT (n + 1) (VT.mk ⟨kd, key, nm, ss⟩ kids) (VT.mk ⟨kd', key', nm', ss'⟩ kids') = (decide (kd = kd') && decide (key = key') && decide (nm = nm') && decide (ss = ss') && eqL (eqVT n) kids kids')) := rfl
  clear hrow hrow' hkids hkids' hf hf' hg hg' hk hk' hl hl' hz hz' hkl hkl' hkz hkz' ih
  generalize eqVT (n + 1) (VT.mk ⟨kd, key, nm, ss⟩ kids) (VT.mk ⟨kd', key', nm', ss'⟩ kids') = R at *
  have ek : (key.toList == key'.toList) = decide (key = key') := beq_str key key'
  generalize decide (ss = ss') = q1 at *
  generalize eqL (eqVT n) kids kids' = q2 at *
  by_cases c1 : kd = kd'
  · by_cases c2 : key = key'
    · by_cases c3 : nm = nm'
      · rw [decide_eq_true c2] at ek
        have b3 : (nm != nm') = false := by rw [bne_eq_false_iff_eq]; exact c3
        have b1 : (kd != kd') = false := by rw [bne_eq_false_iff_eq]; exact c1
        have E1 : Hid (R = (q1 && q2)) := by show _ = _; rw [E.out, decide_eq_true c1, decide_eq_true c2, decide_eq_true c3]; rfl
        clear E c1 c2 c3
        cases q1
        · have En : Hid (R = false) := E1.out
          clear E1 Hc2
          go_enter Tryd.func24, Tryd.ntmps24
          go_wp2_with fail
          refine (Hc1.out _ (((Below.refl _ _).alloc (Nat.le_refl _) _).alloc (by simp) _)).mono ?_
          rintro e w1 ⟨rfl, hb1⟩
          go_wp2
          go_ret
          exact ⟨ret_bool En.out.symm, (((Below.refl _ _).alloc (Nat.le_refl _) _).alloc (by simp) _).trans (hb1.mono (by simp; omega))⟩
        · have E2 : Hid (R = q2) := E1.out
          clear E1
          go_enter Tryd.func24, Tryd.ntmps24
          go_wp2_with fail
          refine (Hc1.out _ (((Below.refl _ _).alloc (Nat.le_refl _) _).alloc (by simp) _)).mono ?_
          rintro e w1 ⟨rfl, hb1⟩
          have p4 : w1.cell? ⟨w.heap.size, 4, none⟩ = some (.slice b kids.length cab) := (hb1.cell (p := ⟨w.heap.size, 4, none⟩) (by simp; omega)).trans (by simp [go_sem])
          have p5 : w1.cell? ⟨w.heap.size + 1, 4, none⟩ = some (.slice b' kids'.length cab') := (hb1.cell (p := ⟨w.heap.size + 1, 4, none⟩) (by simp)).trans (by simp [go_sem])
          have HB : Hid (Below w.heap.size w w1) := (((Below.refl _ _).alloc (Nat.le_refl _) _).alloc (by simp) _).trans (hb1.mono (by simp; omega))
          clear hb1
          cases q2
          · go_wp2_with fail
            refine (Hc2.out _ HB.out).mono ?_
            rintro e w2 ⟨rfl, hb2⟩
            go_wp2
            go_ret
            exact ⟨ret_bool E2.out.symm, HB.out.trans (hb2.mono HB.out.size)⟩
          · go_wp2_with fail
            refine (Hc2.out _ HB.out).mono ?_
            rintro e w2 ⟨rfl, hb2⟩
            go_wp2
            go_ret
            exact ⟨ret_bool E2.out.symm, HB.out.trans (hb2.mono HB.out.size)⟩
      · have b3 : (nm != nm') = true := by rw [bne_iff_ne]; exact c3
        have b1 : (kd != kd') = false := by rw [bne_eq_false_iff_eq]; exact c1
        rw [decide_eq_true c2] at ek
        have En : Hid (R = false) := by show _ = _; rw [E.out, decide_eq_false c3]; simp
        clear E Hc1 Hc2
        go_enter Tryd.func24, Tryd.ntmps24
        go_wp2
        go_ret
        exact ⟨ret_bool En.out.symm, ((Below.refl _ _).alloc (Nat.le_refl _) _).alloc (by simp) _⟩
    · have b1 : (kd != kd') = false := by rw [bne_eq_false_iff_eq]; exact c1
      rw [decide_eq_false c2] at ek
      have En : Hid (R = false) := by show _ = _; rw [E.out, decide_eq_false c2]; simp
      clear E Hc1 Hc2
      go_enter Tryd.func24, Tryd.ntmps24
      go_wp2
      go_ret
      exact ⟨ret_bool En.out.symm, ((Below.refl _ _).alloc (Nat.le_refl _) _).alloc (by simp) _⟩
  · have b1 : (kd != kd') = true := by rw [bne_iff_ne]; exact c1
    have En : Hid (R = false) := by show _ = _; rw [E.out, decide_eq_false c1]; simp
    clear E Hc1 Hc2
    go_enter Tryd.func24, Tryd.ntmps24
    go_wp2
    go_ret
    exact ⟨ret_bool En.out.symm, ((Below.refl _ _).alloc (Nat.le_refl _) _).alloc (by simp) _⟩
theorem eqValue_any : ∀ n, eqC n
  | 0 => fun u => nomatch u
  | n + 1 => eqValue_of (eqValue_any n)
theorem eqVT_iff : ∀ (n : Nat) (u v : VT n), eqVT n u v = true → u = v
  | 0, u, _, _ => nomatch u
  | n + 1, u, v, h => by
    obtain ⟨kd, key, nm, ss, kids, rfl⟩ := VT.parts u
    obtain ⟨kd', key', nm', ss', kids', rfl⟩ := VT.parts v
    unfold eqVT at h
    simp only [VT.hd_mk, VT.kids_mk, Bool.and_eq_true] at h
    obtain ⟨⟨⟨⟨h1, h2⟩, h3⟩, h4⟩, h⟩ := h
    obtain rfl := of_decide_eq_true h1
    obtain rfl := of_decide_eq_true h2
    obtain rfl := of_decide_eq_true h3
    obtain rfl := of_decide_eq_true h4
    have hl : ∀ (l m : List (VT n)), eqL (eqVT n) l m = true → l = m := by
      intro l
      induction l with
      | nil => intro m hm; cases m with
        | nil => rfl
        | cons y s => cases hm
      | cons x r ih => intro m hm; cases m with
        | nil => cases hm
        | cons y s =>
          unfold eqL at hm
          rw [Bool.and_eq_true] at hm
          rw [eqVT_iff n x y hm.1, ih s hm.2]
    rw [hl _ _ h]
end Go.Proofs.YtbadjopaocindaaDoor
