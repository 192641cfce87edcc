/- The texts of values: both ValueText. -/
import Derived.Test.YtbadjopaocindaaDoorVTxP
import Derived.Test.YtbadjopaocindaaDoorValO
namespace Go.Proofs.YtbadjopaocindaaDoor
open Go.RowKit Go.BigFrame
set_option linter.unusedVariables false

def vtB (n : Nat) (v : VT n) : ByteArray := if vokB n v then vtx n v else ⟨#[]⟩
theorem vok_rgt {n : Nat} {v : VT n} (hn : nmVT n v) (h : vokB n v = true) : rgt n v := by
  unfold vokB sizB at h
  rw [decide_eq_true_eq] at h
  have h1 : tsz n 6 v ≤ 300 ∧ tsz n 6 v ≠ 0 := by
    unfold upTo at h
    split at h
    · rename_i hle; exact ⟨hle, by omega⟩
    · omega
  exact (rgt_of n 6 v hn h1.2 h1.1).1
theorem sValueText_any {n : Nat} (v : VT n) (x : Value) (w : World) (hok : okVT n v) (hnm : nmVT n v) (hx : valArg w 0 n x v) : Calls Tryd.prog 21 #[x] w fun e w' => e = .returned (.string (vtB n v)) ∧ Below w.heap.size w w' := by
  cases n with
  | zero => exact hx.elim
  | succ n =>
  have HR : Hid (vokB (n + 1) v = true → rgt (n + 1) v) := fun h => vok_rgt hnm h
  have HV : Hid (vtB (n + 1) v = if vokB (n + 1) v then vtx (n + 1) v else ⟨#[]⟩) := rfl
  obtain ⟨kd, tx, nm, ks, kids, rfl⟩ := VT.parts v
  obtain ⟨a, cap, a', cap', rfl, hx1, hx2⟩ := hx
  simp only [VT.hd_mk, VT.kids_mk]
  have Hx : Hid (∀ wx, Below w.heap.size w wx → valArg wx 0 (n + 1) (.agg #[.int .i64 kd, .string tx, .int .i64 nm, .slice a ks.length cap, .slice a' kids.length cap']) (VT.mk ⟨kd, tx, nm, ks⟩ kids)) := fun wx hb => valArg.below (n := n + 1) (v := VT.mk ⟨kd, tx, nm, ks⟩ kids) ⟨_, _, _, _, rfl, hx1, hx2⟩ hb
  have HC : Hid (∀ wx, Below w.heap.size w wx → Calls Tryd.prog 54 #[.agg #[.int .i64 kd, .string tx, .int .i64 nm, .slice a ks.length cap, .slice a' kids.length cap']] wx fun e w' => e = .returned (.bool (vokB (n + 1) (VT.mk ⟨kd, tx, nm, ks⟩ kids))) ∧ Below wx.heap.size wx w') := fun wx hb => sValueOk_any _ _ wx hok (Hx.out wx hb)
  have HP : Hid (rgt (n + 1) (VT.mk ⟨kd, tx, nm, ks⟩ kids) → ∀ wx, Below w.heap.size w wx → Calls Tryd.prog 55 #[.agg #[.int .i64 kd, .string tx, .int .i64 nm, .slice a ks.length cap, .slice a' kids.length cap']] wx fun e w' => e = .returned (.string (vtx (n + 1) (VT.mk ⟨kd, tx, nm, ks⟩ kids))) ∧ Below wx.heap.size wx w') := fun hr wx hb => print_any (n + 1) _ _ wx hr (Hx.out wx hb)
  have HA : Hid (∀ o, Below w.heap.size w (w.alloc o)) := fun o => (Below.refl _ _).alloc (Nat.le_refl _) _
  clear hok hnm hx1 hx2 Hx
  generalize vtB (n + 1) (VT.mk ⟨kd, tx, nm, ks⟩ kids) = R at *
  cases hb : vokB (n + 1) (VT.mk ⟨kd, tx, nm, ks⟩ kids)
  · rw [hb] at HC HV
    have E := hide (HV.out.trans (if_neg (by decide)))
    clear HV HP HR hb
    go_enter Tryd.func21, Tryd.ntmps21
    go_wp2_with fail
    refine (HC.out _ (HA.out _)).mono ?_
    rintro e w1 ⟨rfl, hb1⟩
    go_wp2
    go_ret
    exact ⟨ret_str E.out.symm, (HA.out _).trans (hb1.mono (by simp))⟩
  · rw [hb] at HC HV
    have E := hide (HV.out.trans (if_pos rfl))
    have HQ := hide (HP.out (HR.out hb))
    clear HV HP HR hb
    generalize vtx (n + 1) (VT.mk ⟨kd, tx, nm, ks⟩ kids) = T at *
    go_enter Tryd.func21, Tryd.ntmps21
    go_wp2_with fail
    refine (HC.out _ (HA.out _)).mono ?_
    rintro e w1 ⟨rfl, hb1⟩
    have hp : ∀ o, o < 5 → w1.cell? ⟨w.heap.size, o, none⟩ = (#[.int .i64 kd, .string tx, .int .i64 nm, .slice a ks.length cap, .slice a' kids.length cap'] : Array Value)[o]? := fun o ho => (hb1.cell (p := ⟨w.heap.size, o, none⟩) (by simp)).trans (by simp [go_sem])
    have p0 := hp 0 (by decide)
    have p1 := hp 1 (by decide)
    have p2 := hp 2 (by decide)
    have p3 := hp 3 (by decide)
    have p4 := hp 4 (by decide)
    simp at p0 p1 p2 p3 p4
    have T1 := hide ((HA.out _).trans (hb1.mono (by simp)))
    clear hp hb1
    go_wp2_with fail
    refine (HQ.out _ T1.out).mono ?_
    rintro e w2 ⟨rfl, hb2⟩
    go_wp2
    go_ret
    exact ⟨ret_str E.out.symm, T1.out.trans (hb2.mono T1.out.size)⟩
theorem iValueText_any {n : Nat} (m : Int) (v : VT n) (x : Value) (w : World) (hok : okVT n v) (hnm : nmVT n v) (hx : valArg w 0 n x v) (ht : Tbs m w) : Calls Tryd.prog 23 #[x] w fun e w' => e = .returned (.string (vtB n v)) ∧ Below w.heap.size w w' := by
  cases n with
  | zero => exact hx.elim
  | succ n =>
  have HR : Hid (vokB (n + 1) v = true → rgt (n + 1) v) := fun h => vok_rgt hnm h
  have HV : Hid (vtB (n + 1) v = if vokB (n + 1) v then vtx (n + 1) v else ⟨#[]⟩) := rfl
  obtain ⟨kd, tx, nm, ks, kids, rfl⟩ := VT.parts v
  obtain ⟨a, cap, a', cap', rfl, hx1, hx2⟩ := hx
  simp only [VT.hd_mk, VT.kids_mk]
  have Hx : Hid (∀ wx, Below w.heap.size w wx → valArg wx 0 (n + 1) (.agg #[.int .i64 kd, .string tx, .int .i64 nm, .slice a ks.length cap, .slice a' kids.length cap']) (VT.mk ⟨kd, tx, nm, ks⟩ kids)) := fun wx hb => valArg.below (n := n + 1) (v := VT.mk ⟨kd, tx, nm, ks⟩ kids) ⟨_, _, _, _, rfl, hx1, hx2⟩ hb
  have HC : Hid (∀ wx, Below w.heap.size w wx → Calls Tryd.prog 58 #[.agg #[.int .i64 kd, .string tx, .int .i64 nm, .slice a ks.length cap, .slice a' kids.length cap']] wx fun e w' => e = .returned (.bool (vokB (n + 1) (VT.mk ⟨kd, tx, nm, ks⟩ kids))) ∧ Below wx.heap.size wx w') := fun wx hb => iValueOk_any _ _ wx hok (Hx.out wx hb)
  have HP : Hid (rgt (n + 1) (VT.mk ⟨kd, tx, nm, ks⟩ kids) → ∀ wx, Below w.heap.size w wx → Calls Tryd.prog 59 #[.agg #[.int .i64 kd, .string tx, .int .i64 nm, .slice a ks.length cap, .slice a' kids.length cap']] wx fun e w' => e = .returned (.string (vtx (n + 1) (VT.mk ⟨kd, tx, nm, ks⟩ kids))) ∧ Below wx.heap.size wx w') := fun hr wx hb => textOfRight_any m (n + 1) _ _ wx hr (Hx.out wx hb) (ht.below hb)
  have HA : Hid (∀ o, Below w.heap.size w (w.alloc o)) := fun o => (Below.refl _ _).alloc (Nat.le_refl _) _
  clear hok hnm hx1 hx2 Hx ht
  generalize vtB (n + 1) (VT.mk ⟨kd, tx, nm, ks⟩ kids) = R at *
  cases hb : vokB (n + 1) (VT.mk ⟨kd, tx, nm, ks⟩ kids)
  · rw [hb] at HC HV
    have E := hide (HV.out.trans (if_neg (by decide)))
    clear HV HP HR hb
    go_enter Tryd.func23, Tryd.ntmps23
    go_wp2_with fail
    refine (HC.out _ (HA.out _)).mono ?_
    rintro e w1 ⟨rfl, hb1⟩
    go_wp2
    go_ret
    exact ⟨ret_str E.out.symm, (HA.out _).trans (hb1.mono (by simp))⟩
  · rw [hb] at HC HV
    have E := hide (HV.out.trans (if_pos rfl))
    have HQ := hide (HP.out (HR.out hb))
    clear HV HP HR hb
    generalize vtx (n + 1) (VT.mk ⟨kd, tx, nm, ks⟩ kids) = T at *
    go_enter Tryd.func23, Tryd.ntmps23
    go_wp2_with fail
    refine (HC.out _ (HA.out _)).mono ?_
    rintro e w1 ⟨rfl, hb1⟩
    have hp : ∀ o, o < 5 → w1.cell? ⟨w.heap.size, o, none⟩ = (#[.int .i64 kd, .string tx, .int .i64 nm, .slice a ks.length cap, .slice a' kids.length cap'] : Array Value)[o]? := fun o ho => (hb1.cell (p := ⟨w.heap.size, o, none⟩) (by simp)).trans (by simp [go_sem])
    have p0 := hp 0 (by decide)
    have p1 := hp 1 (by decide)
    have p2 := hp 2 (by decide)
    have p3 := hp 3 (by decide)
    have p4 := hp 4 (by decide)
    simp at p0 p1 p2 p3 p4
    have T1 := hide ((HA.out _).trans (hb1.mono (by simp)))
    clear hp hb1
    go_wp2_with fail
    refine (HQ.out _ T1.out).mono ?_
    rintro e w2 ⟨rfl, hb2⟩
    go_wp2
    go_ret
    exact ⟨ret_str E.out.symm, T1.out.trans (hb2.mono T1.out.size)⟩
end Go.Proofs.YtbadjopaocindaaDoor
