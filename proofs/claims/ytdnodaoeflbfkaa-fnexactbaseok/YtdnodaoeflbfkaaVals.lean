/- Values: the helpers of the laws that measure, copy and compare them. -/
import Derived.Test.YtdnodaoeflbfkaaValT
namespace Go.Proofs.Ytdnodaoeflbfkaa
open Go.RowKit
set_option linter.unusedVariables false

def szC (n : Nat) : Prop := ∀ (v : VT n) (x : Value) (left : Int) (w : World), okVT n v → valArg w 0 n x v → 0 ≤ left → left ≤ 1048576 →
  Calls Try.prog 206 #[x, .int .i64 left] w fun e w' => e = .returned (.int .i64 (szV n v left)) ∧ Below w.heap.size w w'
theorem szValueS_of {n : Nat} (ih : szC n) (a : Option Addr) (cap : Nat) (ts : List (VT n)) (left : Int) (w : World) (hl : ts.length ≤ maxLen) (hz : okVTs n ts) (h0 : 0 ≤ left) (h1 : left ≤ 1048576) (hrow : valsOf w 0 n a ts) :
    Calls Try.prog 233 #[.slice a ts.length cap, .int .i64 left] w fun e w' => e = .returned (.int .i64 (szRow (szV n) ts left)) ∧ Below w.heap.size w w' := by
  unfold maxLen at hl
  by_cases c1 : left - (ts.length : Int) < 0
  · have E : Hid (szRow (szV n) ts left = -1) := by unfold Hid szRow; rw [if_pos c1]
    clear hrow hz ih
    go_enter Try.func233, Try.ntmps233
    go_wp2
    go_ret
    exact ⟨ret_int E.out.symm, Below.refl _ _⟩
  have E : Hid (szRow (szV n) ts left = szL (szV n) ts (left - ts.length)) := by unfold Hid szRow; rw [if_neg c1]
  have Hr := hide hrow
  have Hz := hide hz
  have Hi := hide ih
  clear hrow hz ih
  go_enter Try.func233, Try.ntmps233
  go_wp2
  go_loopw [1, 5] (fun l i wr => ∃ (k : Nat) (x : Int), k ≤ ts.length ∧ i = .int .i64 k ∧ l = .int .i64 x ∧ 0 ≤ x ∧ x ≤ 1048576 ∧ Hid (szL (szV n) (ts.drop k) x = szL (szV n) ts (left - ts.length)) ∧ Below w.heap.size w wr) (fun _ i _ => ts.length - (intOf i).toNat)
  case atStart => exact ⟨0, _, Nat.zero_le _, rfl, rfl, by omega, by omega, rfl, Below.refl _ _⟩
  case round =>
    obtain ⟨k, x, hk, rfl, rfl, hx0, hx1, hsz, hbw⟩ := hrel
    by_cases hlt : k < ts.length
    · obtain ⟨b, off, rfl, _, hat⟩ := Hr.out (by omega)
      have hv := (hat k hlt).below hbw
      have hz := (Hz.out _ (List.getElem_mem hlt))
      have hn := szL_drop (szV n) ts k hlt x
      have hs := szV_le n ts[k] x
      cases n with
      | zero => exact hv.elim
      | succ n =>
      obtain ⟨KD, TX, NM, KS, KIDS, hkv⟩ := VT.parts (ts[k]'hlt)
      rw [hkv] at hv hz hn hs
      clear hkv hat
      have hcon := fun (X : Value) (wx : World) (hx : valArg wx 0 (n + 1) X (VT.mk ⟨KD, TX, NM, KS⟩ KIDS)) => Hi.out (VT.mk ⟨KD, TX, NM, KS⟩ KIDS) X x wx hz hx hx0 hx1
      generalize szV (n + 1) (VT.mk ⟨KD, TX, NM, KS⟩ KIDS) x = y at *
      have Hcon := hide hcon
      obtain ⟨h0c, h1c, h2c, ⟨av, capv, h3c, h3d⟩, al, capl, h4c, h4d⟩ := hv
      have Hd := hide (And.intro h3d h4d)
      simp only [VT.hd_mk, VT.kids_mk] at h0c h1c h2c h3c h4c
      clear hcon h3d h4d hz
      by_cases hneg : y < 0
      · have hr : Hid (szL (szV (n + 1)) ts (left - ts.length) = -1) := by rw [← hsz.out, hn, if_pos hneg]; rfl
        clear hn hsz
        go_wp2_with fail
        refine (Hcon.out _ _ ⟨_, _, _, _, rfl, Hd.out.1, Hd.out.2⟩).mono ?_
        rintro e w1 ⟨rfl, hb⟩
        go_wp2
        go_ret
        exact ⟨ret_int (by rw [E.out, hr.out]), hbw.trans (hb.mono hbw.size)⟩
      · have hr : Hid (szL (szV (n + 1)) (ts.drop (k + 1)) y = szL (szV (n + 1)) ts (left - ts.length)) := by rw [← hsz.out, hn, if_neg hneg]; rfl
        clear hn hsz
        go_wp2_with fail
        refine (Hcon.out _ _ ⟨_, _, _, _, rfl, Hd.out.1, Hd.out.2⟩).mono ?_
        rintro e w1 ⟨rfl, hb⟩
        go_wp2
        go_roundw
        case rel => exact ⟨k + 1, _, by omega, by go_num, rfl, by omega, by omega, hr, hbw.trans (hb.mono hbw.size)⟩
        case measure => simp [intOf]; omega
    · have e : k = ts.length := by omega
      subst e
      have hr : Hid (szL (szV n) ts (left - ts.length) = x) := by rw [← hsz.out, List.drop_length]; rfl
      clear hsz
      go_wp2
      go_ret
      exact ⟨ret_int (by rw [E.out, hr.out]), hbw⟩
theorem szValue_of {n : Nat} (ih : szC n) : szC (n + 1) := by
  intro v X left w hok harg h0 h1
  obtain ⟨kd, key, nm, ss, kids, rfl⟩ := VT.parts v
  obtain ⟨a, cap, a', cap', rfl, ⟨hrow, hf⟩, hkids, hf'⟩ := harg
  obtain ⟨hk, hl, hz, hkl, hkz⟩ := hok
  simp only [VT.hd_mk, VT.kids_mk] at *
  unfold maxLen at hk
  have Hr := hide hrow.of
  have Hz := hide hz
  have Hl := hide hl
  have Hk := hide hkids
  have Hkz := hide hkz
  have Hkl := hide hkl
  have Hi := hide ih
  clear hrow hz hl hkids hkz hkl ih hf hf'
  have hcon : ∀ wx, Below w.heap.size w wx → 0 ≤ left - key.size → Calls Try.prog 62 #[.slice a ss.length cap, .int .i64 (left - key.size)] wx fun e w' => e = .returned (.int .i64 (szSS ss (left - key.size))) ∧ Below wx.heap.size wx w' :=
    fun wx hx hc => szStringS_any a cap ss _ wx Hl.out Hz.out hc (by omega) (Hr.out.below hx)
  have Hcon := hide hcon
  have hs1 := vszSS_le ss (left - key.size)
  have hcon2 : ∀ (y : Int) wx, Below w.heap.size w wx → 0 ≤ y → y ≤ 1048576 → Calls Try.prog 233 #[.slice a' kids.length cap', .int .i64 y] wx fun e w' => e = .returned (.int .i64 (szRow (szV n) kids y)) ∧ Below wx.heap.size wx w' :=
    fun y wx hx hc hc' => szValueS_of Hi.out a' cap' kids _ wx Hkl.out Hkz.out hc hc' (Hk.out.below hx)
  have Hcon2 := hide hcon2
  have E : Hid (szV (n + 1) (VT.mk ⟨kd, key, nm, ss⟩ kids) left = if left - key.size < 0 then -1 else if szSS ss (left - key.size) < 0 then -1 else if szRow (szV n) kids (szSS ss (left - key.size)) < 0 then -1 else szRow (szV n) kids (szSS ss (left - key.size))) := rfl
  clear hcon hcon2 Hi Hk Hkz Hkl Hr Hz Hl
  generalize szV (n + 1) (VT.mk ⟨kd, key, nm, ss⟩ kids) left = R at *
  by_cases c1 : left - (key.size : Int) < 0
  · have E' : Hid (R = -1) := by show _ = _; rw [E.out, if_pos c1]
    go_enter Try.func206, Try.ntmps206
    go_wp2
    go_ret
    exact ⟨ret_int E'.out.symm, (Below.refl _ _).alloc (Nat.le_refl _) _⟩
  have E1 := hide (E.out.trans (if_neg c1))
  have HC := hide (fun wx hx => Hcon.out wx hx (by omega))
  clear E Hcon
  generalize szSS ss (left - key.size) = x at *
  by_cases c2 : x < 0
  · have E' : Hid (R = -1) := by show _ = _; rw [E1.out, if_pos c2]
    clear E1
    go_enter Try.func206, Try.ntmps206
    go_wp2_with fail
    refine (HC.out _ ((Below.refl _ _).alloc (Nat.le_refl _) _)).mono ?_
    rintro e w1 ⟨rfl, hb1⟩
    go_wp2
    go_ret
    exact ⟨ret_int E'.out.symm, ((Below.refl _ _).alloc (Nat.le_refl _) _).trans (hb1.mono (by simp))⟩
  have E2 := hide (E1.out.trans (if_neg c2))
  have HC2 := hide (fun wx hx => Hcon2.out x wx hx (by omega) (by omega))
  clear E1 Hcon2
  generalize szRow (szV n) kids x = y at *
  by_cases c3 : y < 0
  · have E' : Hid (R = -1) := by show _ = _; rw [E2.out, if_pos c3]
    clear E2
    go_enter Try.func206, Try.ntmps206
    go_wp2_with fail
    refine (HC.out _ ((Below.refl _ _).alloc (Nat.le_refl _) _)).mono ?_
    rintro e w1 ⟨rfl, hb1⟩
    have d0 : w1.cell? ⟨w.heap.size, 4, none⟩ = some (.slice a' kids.length cap') := (hb1.cell (p := ⟨w.heap.size, 4, none⟩) (by simp)).trans (by simp [go_sem])
    have hB : Below w.heap.size w w1 := ((Below.refl _ _).alloc (Nat.le_refl _) _).trans (hb1.mono (by simp))
    go_wp2_with fail
    refine (HC2.out _ hB).mono ?_
    rintro e w2 ⟨rfl, hb2⟩
    go_wp2
    go_ret
    exact ⟨ret_int E'.out.symm, hB.trans (hb2.mono hB.size)⟩
  · have E' : Hid (R = y) := by show _ = _; rw [E2.out, if_neg c3]
    clear E2
    go_enter Try.func206, Try.ntmps206
    go_wp2_with fail
    refine (HC.out _ ((Below.refl _ _).alloc (Nat.le_refl _) _)).mono ?_
    rintro e w1 ⟨rfl, hb1⟩
    have d0 : w1.cell? ⟨w.heap.size, 4, none⟩ = some (.slice a' kids.length cap') := (hb1.cell (p := ⟨w.heap.size, 4, none⟩) (by simp)).trans (by simp [go_sem])
    have hB : Below w.heap.size w w1 := ((Below.refl _ _).alloc (Nat.le_refl _) _).trans (hb1.mono (by simp))
    go_wp2_with fail
    refine (HC2.out _ hB).mono ?_
    rintro e w2 ⟨rfl, hb2⟩
    go_wp2
    go_ret
    exact ⟨ret_int E'.out.symm, hB.trans (hb2.mono hB.size)⟩
theorem szValue_any : ∀ n, szC n
  | 0 => fun v => nomatch v
  | n + 1 => szValue_of (szValue_any n)
end Go.Proofs.Ytdnodaoeflbfkaa
