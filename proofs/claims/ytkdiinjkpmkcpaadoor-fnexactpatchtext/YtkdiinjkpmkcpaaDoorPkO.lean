/- What is asked of one op: impl.opWrong; spec.l5Zero. -/
import Derived.Test.YtkdiinjkpmkcpaaDoorPkA
import Derived.Test.YtkdiinjkpmkcpaaDoorVSmI
namespace Go.Proofs.YtkdiinjkpmkcpaaDoor
open Go.RowKit Go.BigFrame
set_option linter.unusedVariables false

/-- the zero value's cells -/
def zV : UD := .p (.int .i64 0) (.p (.string ⟨#[]⟩) (.p (.int .i64 0) (.l 1 0 .nil (.l 5 0 .nil .nil))))
theorem zV_iff {z0 z2 : Int} {z1 : ByteArray} {n3 n4 : Nat} {c3 c4 : UD} (h3 : tyS 1 n3 c3 0) (h4 : tyS 5 n4 c4 6) : UD.p (.int .i64 z0) (.p (.string z1) (.p (.int .i64 z2) (.l 1 n3 c3 (.l 5 n4 c4 .nil)))) = zV ↔ z0 = 0 ∧ z1 = ⟨#[]⟩ ∧ z2 = 0 ∧ n3 = 0 ∧ n4 = 0 := by
  unfold zV
  rw [val_eq]
  constructor
  · rintro ⟨h0, h1, h2, ⟨h3, -⟩, h4, -⟩; exact ⟨h0, h1, h2, h3, h4⟩
  · rintro ⟨h0, h1, h2, e3, e4⟩
    exact ⟨h0, h1, h2, ⟨e3, UD.len_nil (by rw [h3.2.2.2.1, e3, Nat.zero_mul])⟩, e4, UD.len_nil (by rw [h4.2.2.2.1, e4, Nat.zero_mul])⟩
theorem zV_own (w : World) : oH w zV [.int .i64 0, .string ⟨#[]⟩, .int .i64 0, .slice none 0 0, .slice none 0 0] [] :=
  oH.consP _ (oH.consP _ (oH.consP _ (oH.consS (S1 := []) ⟨by decide, 9, [], [], World.ownsRow_nil _ _ _ _, ⟨rfl, rfl⟩, rfl⟩ (oH.consS (S1 := []) ⟨by decide, 9, [], [], World.ownsRow_nil _ _ _ _, ⟨rfl, rfl⟩, rfl⟩ (oH.nil _)))))
theorem zV_ty : tyL zV (uE 6) := by
  refine ⟨_, _, rfl, ⟨0, rfl, (by show (-9223372036854775808 : Int) ≤ 0 ∧ (0 : Int) ≤ 9223372036854775807; omega)⟩, _, _, rfl, ⟨⟨#[]⟩, rfl, by decide⟩, _, _, rfl, ⟨0, rfl, (by show (-9223372036854775808 : Int) ≤ 0 ∧ (0 : Int) ≤ 9223372036854775807; omega)⟩, _, _, rfl, ⟨by decide, by decide, Nat.zero_le _, rfl, trivial⟩, _, _, rfl, ⟨by decide, by decide, Nat.zero_le _, rfl, trivial⟩, rfl⟩
/-- an op that is right: b says whether its value is ValueOk -/
def okOp (z0 : Int) (n1 : Nat) (c1 dv : UD) (b : Bool) : Prop := ((1 ≤ n1 ∧ n1 ≤ 5) ∧ allNm c1) ∧ ((z0 = 1 ∨ z0 = 3) ∧ b = true ∨ z0 = 2 ∧ dv = zV)
def okU (d : UD) (b : Bool) : Prop := match d with
  | .p (.int _ z0) (.l _ n1 c1 dv) => okOp z0 n1 c1 dv b
  | _ => False
/-- both ValueOk of a value answer b -/
def vokS (d : UD) (b : Bool) : Prop := ∀ (w : World) (lo hi : Nat) (xs : List Value), uH w lo hi d xs → Calls Tryd.prog 21 #[.agg xs.toArray] w fun e w' => e = .returned (.bool b) ∧ Below w.heap.size w w'
def vokI (d : UD) (b : Bool) : Prop := ∀ (w : World) (lo hi : Nat) (xs : List Value), uH w lo hi d xs → Calls Tryd.prog 40 #[.agg xs.toArray] w fun e w' => e = .returned (.bool b) ∧ Below w.heap.size w w'
set_option maxHeartbeats 800000 in
theorem l5Zero_any (z0 z2 : Int) (z1 : ByteArray) (n3 n4 : Nat) (a3 a4 : Option Addr) (p3 p4 : Nat) (w : World) (r : Bool) (h3 : n3 ≤ maxLen) (h4 : n4 ≤ maxLen) (hr : r = true ↔ z0 = 0 ∧ z1 = ⟨#[]⟩ ∧ z2 = 0 ∧ n3 = 0 ∧ n4 = 0) :
    Calls Tryd.prog 20 #[.agg #[.int .i64 z0, .string z1, .int .i64 z2, .slice a3 n3 p3, .slice a4 n4 p4]] w fun e w' => e = .returned (.bool r) ∧ Below w.heap.size w w' := by
  unfold maxLen at h3 h4
  have HA : Hid (∀ o, Below w.heap.size w (w.alloc o)) := fun o => (Below.refl _ _).alloc (Nat.le_refl _) _
  have c0 : (z0 == 0) = decide (z0 = 0) := by rw [Bool.eq_iff_iff]; simp
  have c1 : (z1.toList == (⟨#[]⟩ : ByteArray).toList) = decide (z1 = ⟨#[]⟩) := beqS _ _
  have c1' : (z1.toList == []) = decide (z1 = ⟨#[]⟩) := by
    have e : (⟨#[]⟩ : ByteArray).toList = [] := by rw [ByteArray.toList_eq]
    rw [e] at c1
    exact c1
  have c2 : (z2 == 0) = decide (z2 = 0) := by rw [Bool.eq_iff_iff]; simp
  have c3 : ((n3 : Int) == 0) = decide (n3 = 0) := by rw [Bool.eq_iff_iff]; simp
  have c4 : ((n4 : Int) == 0) = decide (n4 = 0) := by rw [Bool.eq_iff_iff]; simp
  have hre : (decide (z0 = 0) && decide (z1 = ⟨#[]⟩) && decide (z2 = 0) && decide (n3 = 0) && decide (n4 = 0)) = r := by
    rw [Bool.eq_iff_iff, hr]; simp only [Bool.and_eq_true, decide_eq_true_eq]
    exact ⟨fun h => ⟨h.1.1.1.1, h.1.1.1.2, h.1.1.2, h.1.2, h.2⟩, fun h => ⟨⟨⟨⟨h.1, h.2.1⟩, h.2.2.1⟩, h.2.2.2.1⟩, h.2.2.2.2⟩⟩
  generalize decide (z0 = 0) = d0 at *
  generalize decide (z1 = ⟨#[]⟩) = d1 at *
  generalize decide (z2 = 0) = d2 at *
  generalize decide (n3 = 0) = d3 at *
  generalize decide (n4 = 0) = d4 at *
  clear hr
  cases d0
  · have hrf : r = false := by rw [← hre]; rfl
    subst hrf
    clear hre c1 c1' c2 c3 c4
    go_enter Tryd.func20, Tryd.ntmps20
    go_wp2
    go_ret
    exact ⟨rfl, HA.out _⟩
  cases d1
  · have hrf : r = false := by rw [← hre]; rfl
    subst hrf
    clear hre c2 c3 c4
    go_enter Tryd.func20, Tryd.ntmps20
    go_wp2
    go_ret
    exact ⟨rfl, HA.out _⟩
  cases d2
  · have hrf : r = false := by rw [← hre]; rfl
    subst hrf
    clear hre c3 c4
    go_enter Tryd.func20, Tryd.ntmps20
    go_wp2
    go_ret
    exact ⟨rfl, HA.out _⟩
  cases d3
  · have hrf : r = false := by rw [← hre]; rfl
    subst hrf
    clear hre c4
    go_enter Tryd.func20, Tryd.ntmps20
    go_wp2
    go_ret
    exact ⟨rfl, HA.out _⟩
  have hrd : d4 = r := by rw [← hre]; rfl
  clear hre
  cases d4
  · subst hrd
    go_enter Tryd.func20, Tryd.ntmps20
    go_wp2
    go_ret
    exact ⟨rfl, HA.out _⟩
  · subst hrd
    go_enter Tryd.func20, Tryd.ntmps20
    go_wp2
    go_ret
    exact ⟨rfl, HA.out _⟩
set_option maxRecDepth 20000 in
set_option maxHeartbeats 1600000 in
theorem opWrong_any (d : UD) (xs : List Value) (S : List Nat) (lo hi : Nat) (w : World) (r b : Bool) (ht : tyL d (uE 7)) (ho : oH w d xs S) (hS : own2 S lo hi) (hw : wt d ≤ 1048576) (hb : ∀ z0 n1 c1 dv, d = .p z0 (.l 1 n1 c1 dv) → vokI dv b) (hr : r = false ↔ okU d b) :
    Calls Tryd.prog 27 #[.agg xs.toArray] w fun e w' => e = .returned (.bool r) ∧ Below w.heap.size w w' := by
  obtain ⟨z0, r1, rfl, g0, ht1⟩ := tyL.i ht
  obtain ⟨n1, c1, dv, rfl, g1, htv⟩ := tyL.l ht1
  obtain ⟨_, rfl, ⟨v1, ys, S1, S2, rfl, rfl, hk1, ⟨e1, zs1, o1, m1⟩, hov⟩⟩ := ho
  obtain ⟨a1, p1, rfl⟩ := uowns_slice o1
  have hu1 : oS w 1 n1 c1 (.slice a1 n1 p1) (blkOf (.slice a1 n1 p1) ++ S1) := ⟨hk1, e1, zs1, S1, o1, m1, rfl⟩
  have hU : uS w 0 w.heap.size 1 n1 c1 (.slice a1 n1 p1) := hu1.u (fun g hg => ⟨Nat.zero_le _, hu1.lt g hg⟩)
  have HVB := uhide (hb _ _ _ _ rfl)
  have hS2 : own2 S2 lo hi := ⟨(List.nodup_append.1 hS.1).2.1, fun s hs => hS.2 s (List.mem_append_right _ hs)⟩
  have hwv : wt dv ≤ 1048576 := by simp only [wt] at hw; omega
  obtain ⟨rz, hrz⟩ := bool_iff (dv = zV)
  obtain ⟨rp, hrp⟩ := bool_iff (allNm c1)
  have HSV : Hid (∀ wx, Below w.heap.size w wx → Calls Tryd.prog 41 #[.agg ys.toArray, .agg #[.int .i64 0, .string ⟨#[]⟩, .int .i64 0, .slice none 0 0, .slice none 0 0]] wx fun e w' => e = .returned (.bool rz) ∧ Below wx.heap.size wx w') := fun wx hbx => iSame_any dv zV ys _ S2 [] lo hi 0 0 wx rz htv zV_ty (hov.below hbx) hS2 (zV_own wx) hwv hrz
  have HVO : Hid (∀ wx, Below w.heap.size w wx → Calls Tryd.prog 40 #[.agg ys.toArray] wx fun e w' => e = .returned (.bool b) ∧ Below wx.heap.size wx w') := fun wx hbx => HVB.out wx 0 w.heap.size ys ((hov.hand (fun g hg => ⟨Nat.zero_le _, hov.lt _ _ _ g hg⟩)).below hbx)
  have HCF : Hid (∀ wx, Below w.heap.size w wx → Calls Tryd.prog 38 #[.slice a1 n1 p1, .func (.func 39) #[] #[]] wx fun e w' => e = .returned (.bool (!rp)) ∧ Below wx.heap.size wx w') := fun wx hbx => coStep_any n1 c1 a1 p1 0 w.heap.size wx (!rp) g1 (hU.below hbx) (by rw [← hrp]; cases rp <;> simp)
  have hn1 := g1.2.2.1
  unfold maxLen at hn1
  have HR : Hid (r = false ↔ ((1 ≤ n1 ∧ n1 ≤ 5) ∧ rp = true) ∧ ((z0 = 1 ∨ z0 = 3) ∧ b = true ∨ z0 = 2 ∧ rz = true)) := by
    show _ ↔ _
    rw [hr, hrp, hrz]; rfl
  have HB0 : Hid (∀ o, Below w.heap.size w (w.alloc o)) := fun o => (Below.refl _ _).alloc (Nat.le_refl _) _
  obtain ⟨y0, y1, y2, m3, e3, m4, e4, rfl, -, -, -, -, -⟩ := partsValue htv
  obtain ⟨b3, q3, b4, q4, R3, R4, rfl, rfl, -, -⟩ := oH.value hov
  clear ht ht1 htv g0 g1 o1 m1 hov hu1 hU hb hr hS hS2 hw hwv hrz hrp HVB
  have tru : ∀ {p : Prop}, (r = false ↔ p) → ¬ p → r = true := fun h hp => by
    cases hh : r with
    | true => rfl
    | false => exact (hp (h.1 hh)).elim
  by_cases h0 : n1 = 0
  · have := tru HR.out (fun h => by omega)
    subst this h0
    clear HSV HVO HCF HR tru
    go_enter Tryd.func27, Tryd.ntmps27
    go_wp2
    go_ret
    exact ⟨rfl, HB0.out _⟩
  have hn0 : ((n1 : Int) == 0) = false := by rw [beq_eq_false_iff_ne]; omega
  by_cases h5 : 5 < n1
  · have := tru HR.out (fun h => by omega)
    subst this
    clear HSV HVO HCF HR tru
    go_enter Tryd.func27, Tryd.ntmps27
    go_wp2
    go_ret
    exact ⟨rfl, HB0.out _⟩
  have hn5 : ¬ (5 : Int) < (n1 : Int) := by omega
  have HR1 : Hid (r = false ↔ rp = true ∧ ((z0 = 1 ∨ z0 = 3) ∧ b = true ∨ z0 = 2 ∧ rz = true)) := HR.out.trans ⟨fun h => ⟨h.1.2, h.2⟩, fun h => ⟨⟨by omega, h.1⟩, h.2⟩⟩
  clear HR
  have OB : Hid (∀ wx, Below (w.alloc (.cells #[.int .i64 z0, .slice a1 n1 p1, .int .i64 y0, .string y1, .int .i64 y2, .slice b3 m3 q3, .slice b4 m4 q4] 41)).heap.size (w.alloc (.cells #[.int .i64 z0, .slice a1 n1 p1, .int .i64 y0, .string y1, .int .i64 y2, .slice b3 m3 q3, .slice b4 m4 q4] 41)) wx → objU wx w.heap.size 41 [.int .i64 z0, .slice a1 n1 p1, .int .i64 y0, .string y1, .int .i64 y2, .slice b3 m3 q3, .slice b4 m4 q4]) := fun wx hbx => (objU.new _ _ _).below hbx
  cases rp
  · have := tru HR1.out (fun h => by cases h.1)
    subst this
    clear HSV HVO HR1 tru
    go_enter Tryd.func27, Tryd.ntmps27
    go_wp2_with fail
    refine (HCF.out _ (HB0.out _)).mono ?_
    rintro e w1 ⟨rfl, hb1⟩
    have HB1 : Hid (Below w.heap.size w w1) := (HB0.out _).trans (hb1.mono (by simp))
    clear hb1
    go_wp2
    go_ret
    exact ⟨rfl, HB1.out⟩
  have HR2 : Hid (r = false ↔ (z0 = 1 ∨ z0 = 3) ∧ b = true ∨ z0 = 2 ∧ rz = true) := HR1.out.trans ⟨fun h => h.2, fun h => ⟨rfl, h⟩⟩
  clear HR1
  go_enter Tryd.func27, Tryd.ntmps27
  go_wp2_with fail
  refine (HCF.out _ (HB0.out _)).mono ?_
  rintro e w1 ⟨rfl, hb1⟩
  have OB1 := OB.out _ hb1
  have q0 := OB1.cell 0 _ rfl
  have x2 := OB1.cell 2 _ rfl
  have x3 := OB1.cell 3 _ rfl
  have x4 := OB1.cell 4 _ rfl
  have x5 := OB1.cell 5 _ rfl
  have x6 := OB1.cell 6 _ rfl
  have HB1 : Hid (Below w.heap.size w w1) := (HB0.out _).trans (hb1.mono (by simp))
  have e1 : (z0 == 1) = decide (z0 = 1) := by rw [Bool.eq_iff_iff]; simp
  have e3 : (z0 == 3) = decide (z0 = 3) := by rw [Bool.eq_iff_iff]; simp
  have e2 : (z0 == 2) = decide (z0 = 2) := by rw [Bool.eq_iff_iff]; simp
  clear hb1 OB1 OB HCF HB0
  by_cases h13 : z0 = 1 ∨ z0 = 3
  · have hrb : (!b) = r := by
      have h2 : ¬ z0 = 2 := by omega
      have : r = false ↔ b = true := HR2.out.trans ⟨fun h => h.elim (fun h => h.2) (fun h => (h2 h.1).elim), fun h => .inl ⟨h13, h⟩⟩
      cases b <;> cases r <;> simp_all
    subst hrb
    clear HSV HR2 tru
    rcases h13 with rfl | rfl
    all_goals
      go_wp2_with fail
      refine (HVO.out _ HB1.out).mono ?_
      rintro e w2 ⟨rfl, hb2⟩
      have HB2 : Hid (Below w.heap.size w w2) := HB1.out.trans (hb2.mono HB1.out.size)
      clear hb2
      go_wp2
      go_ret
      exact ⟨rfl, HB2.out⟩
  by_cases h2 : z0 = 2
  · have hrb : (!rz) = r := by
      have : r = false ↔ rz = true := HR2.out.trans ⟨fun h => h.elim (fun h => (h13 h.1).elim) (fun h => h.2), fun h => .inr ⟨h2, h⟩⟩
      cases rz <;> cases r <;> simp_all
    subst hrb h2
    clear HVO HR2 tru h13
    go_wp2_with fail
    refine (HSV.out _ HB1.out).mono ?_
    rintro e w2 ⟨rfl, hb2⟩
    have HB2 : Hid (Below w.heap.size w w2) := HB1.out.trans (hb2.mono HB1.out.size)
    clear hb2
    go_wp2
    go_ret
    exact ⟨rfl, HB2.out⟩
  · have := tru HR2.out (fun h => h.elim (fun h => h13 h.1) (fun h => h2 h.1))
    subst this
    have f1 : (z0 == 1) = false := by rw [beq_eq_false_iff_ne]; omega
    have f3 : (z0 == 3) = false := by rw [beq_eq_false_iff_ne]; omega
    have f2 : (z0 == 2) = false := by rw [beq_eq_false_iff_ne]; omega
    clear HVO HSV HR2 tru h13 h2 e1 e2 e3
    go_wp2
    go_ret
    exact ⟨rfl, HB1.out⟩
end Go.Proofs.YtkdiinjkpmkcpaaDoor
