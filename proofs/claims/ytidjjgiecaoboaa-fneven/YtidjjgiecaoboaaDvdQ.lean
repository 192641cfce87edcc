/- impl.quotas. -/
import Derived.Test.YtidjjgiecaoboaaDvdO
import Derived.Test.YtidjjgiecaoboaaDvdG
import Derived.Test.YtidjjgiecaoboaaU4
import Derived.Deep.RegionLaw
import Derived.Deep.AppendLies
import Derived.Deep.CutRange
namespace Go.Proofs.Ytidjjgiecaoboaa
open Go.RowKit Go.BigFrame
set_option linter.unusedVariables false
/-- rows of three numbers, cell by cell -/
def rowsQ (F : Nat → Int × Int × Int) : List Nat → List Value
  | [] => []
  | p :: r => enc3 F p ++ rowsQ F r
theorem rowsQ_snoc (F : Nat → Int × Int × Int) (p : Nat) : ∀ l, rowsQ F (l ++ [p]) = rowsQ F l ++ enc3 F p
  | [] => by show enc3 F p ++ [] = _; rw [List.append_nil]; rfl
  | q :: l => by show enc3 F q ++ rowsQ F (l ++ [p]) = enc3 F q ++ rowsQ F l ++ _; rw [rowsQ_snoc F p l, List.append_assoc]
theorem rowsQ_get (F : Nat → Int × Int × Int) : ∀ (l : List Nat) (j : Nat), j < l.length * 3 → (rowsQ F l)[j]? = some ((enc3 F (l.getD (j / 3) 0))[j % 3]!)
  | [], j, h => by simp at h
  | p :: l, j, h => by
    show (enc3 F p ++ rowsQ F l)[j]? = _
    by_cases hj : j < 3
    · rw [List.getElem?_append_left (by exact hj), show j / 3 = 0 by omega, show j % 3 = j by omega]
      have : j = 0 ∨ j = 1 ∨ j = 2 := by omega
      rcases this with rfl | rfl | rfl <;> rfl
    · rw [List.getElem?_append_right (by show 3 ≤ j; omega)]
      have h1 := rowsQ_get F l (j - 3) (by rw [List.length_cons] at h; omega)
      show (rowsQ F l)[j - 3]? = _
      rw [h1, show j / 3 = (j - 3) / 3 + 1 by omega, show j % 3 = (j - 3) % 3 by omega]
      rfl
def QR (w : World) (base : Nat) (v : Value) (F : Nat → Int × Int × Int) (l : List Nat) (n : Nat) : Prop := w.ownsRow base 56 3 v n (rowsQ F l) ∧ n = l.length ∧ ∃ g, v.ownBlock = some g ∧ base ≤ g ∧ g < w.heap.size
theorem QR.below {w w' : World} {base : Nat} {v : Value} {F : Nat → Int × Int × Int} {l : List Nat} {n : Nat} (h : QR w base v F l n) (hb : Below w.heap.size w w') : QR w' base v F l n := by
  obtain ⟨h1, hn, g, h2, h3, h4⟩ := h
  refine ⟨uowns_frame h1 (fun x hx => ?_), hn, g, h2, h3, by have := hb.size; omega⟩
  unfold blkOf at hx
  rw [h2] at hx
  have : x = g := by simpa using hx
  subst this
  exact hb.block x h4
theorem QR.holds {w : World} {base g cap n : Nat} {F : Nat → Int × Int × Int} {l : List Nat} (h : QR w base (.slice (some ⟨g, 0, none⟩) n cap) F l n) : Go.Sort.HoldsK (enc3 F) 3 w g 0 l.toArray := by
  obtain ⟨h1, rfl, -⟩ := h
  intro j hj
  rw [Go.Sort.size_flatK] at hj
  have hj' : j < l.length * 3 := by simpa using hj
  have hc := h1.cellAt j hj'
  rw [rowsQ_get F l j hj'] at hc
  rw [Nat.zero_add, Go.Sort.get_flatK _ _ _ _ hj]
  refine ⟨?_, h1.frozenAt j⟩
  rw [hc]
  congr 4
  have hq : j / 3 < l.length := by omega
  rw [getElem!_pos l.toArray (j / 3) (by simpa using hq), List.getD_eq_getElem?_getD, List.getElem?_eq_getElem hq]
  simp
/-- rows of three numbers in memory, by their place -/
def R3 (w : World) (g n : Nat) (F : Nat → Int × Int × Int) : Prop := ∀ j, j < n → (w.cell? ⟨g, j * 3, none⟩ = some (.int .i64 (F j).1) ∧ w.cell? ⟨g, j * 3 + 1, none⟩ = some (.int .i64 (F j).2.1) ∧ w.cell? ⟨g, j * 3 + 2, none⟩ = some (.int .i64 (F j).2.2)) ∧ w.frozen? ⟨g, j * 3 + 1, none⟩ = false
theorem R3.of {F : Nat → Int × Int × Int} {w : World} {g : Nat} {d : Array Nat} (h : Go.Sort.HoldsK (enc3 F) 3 w g 0 d) : R3 w g d.size (fun j => F d[j]!) := fun j hj => by
  obtain ⟨h1, h2⟩ := holds3 h j hj
  rw [Nat.zero_add] at h1 h2
  exact ⟨h1, h2.2.1⟩
theorem R3.congr {F G : Nat → Int × Int × Int} {w : World} {g n : Nat} (h : R3 w g n F) (he : ∀ j, j < n → G j = F j) : R3 w g n G := fun j hj => by rw [he j hj]; exact h j hj
theorem R3.below {F : Nat → Int × Int × Int} {w w' : World} {g n B : Nat} (h : R3 w g n F) (hb : Below B w w') (hg : g < B) : R3 w' g n F := fun j hj => by
  obtain ⟨⟨a, b, c⟩, d⟩ := h j hj
  exact ⟨⟨(hb.cell (p := ⟨g, j * 3, none⟩) hg).trans a, (hb.cell (p := ⟨g, j * 3 + 1, none⟩) hg).trans b, (hb.cell (p := ⟨g, j * 3 + 2, none⟩) hg).trans c⟩, (World.frozen?_of_block (w := w) (a := ⟨g, j * 3 + 1, none⟩) (hb.block g hg)).trans d⟩
theorem addr_ne {g a b : Nat} (h : a ≠ b) : (⟨g, a, none⟩ : Addr) ≠ ⟨g, b, none⟩ := fun e => h (by injection e)
/-- one row's second number is another one -/
def upd3 (F : Nat → Int × Int × Int) (x : Nat) (z : Int) (j : Nat) : Int × Int × Int := if j = x then ((F x).1, z, (F x).2.2) else F j
theorem upd3_self (F : Nat → Int × Int × Int) (x : Nat) (z : Int) : upd3 F x z x = ((F x).1, z, (F x).2.2) := if_pos rfl
theorem upd3_ne (F : Nat → Int × Int × Int) (x : Nat) (z : Int) {j : Nat} (h : j ≠ x) : upd3 F x z j = F j := if_neg h
theorem R3.put {F : Nat → Int × Int × Int} {w : World} {g n x : Nat} (h : R3 w g n F) (hx : x < n) (z : Int) : R3 (w.setCell ⟨g, x * 3 + 1, none⟩ (.int .i64 z)) g n (upd3 F x z) := fun j hj => by
  obtain ⟨⟨a, b, c⟩, d⟩ := h j hj
  refine ⟨⟨?_, ?_, ?_⟩, by rw [World.frozen?_setCell]; exact d⟩
  · rw [World.cell?_setCell_other _ _ _ _ (addr_ne (by omega)), a]
    by_cases e : j = x
    · subst e; rw [upd3_self]
    · rw [upd3_ne _ _ _ e]
  · by_cases e : j = x
    · subst e; rw [upd3_self, World.cell?_setCell_same' _ _ _ (by rw [b]; rfl)]
    · rw [upd3_ne _ _ _ e, World.cell?_setCell_other _ _ _ _ (addr_ne (by omega)), b]
  · rw [World.cell?_setCell_other _ _ _ _ (addr_ne (by omega)), c]
    by_cases e : j = x
    · subst e; rw [upd3_self]
    · rw [upd3_ne _ _ _ e]
theorem Try.infoDQuota : (Try.prog.info? 56).map (fun i => (i.zero, i.size, i.bytes)) = some (some (.agg #[.int .i64 0, .int .i64 0, .int .i64 0]), 3, 24) := by kernel_rfl
theorem QR.lit (w : World) (base : Nat) (F : Nat → Int × Int × Int) (hb : base ≤ w.heap.size) : QR (w.alloc (.cells #[] 56)) base (.slice (some ⟨w.heap.size, 0, none⟩) 0 0) F [] 0 :=
  ⟨World.ownsRow_lit w #[] 0 hb (by decide) rfl, rfl, w.heap.size, rfl, hb, by simp⟩
set_option maxRecDepth 20000 in
set_option maxHeartbeats 6400000 in
theorem quotas_any (m : Int) (k : Nat) (c1 : UD) (v1 vO : Value) (lo hi base : Nat) (O : Nat → Bool) (w : World) (ht1 : tyS 1 k c1 1) (hx1 : uS w lo hi 1 k c1 v1) (hO : IR w base vO (natI (opensL k O))) (h64 : k ≤ 64) (hm : 0 < m ∧ m ≤ 10000) (hw : ∀ i, i < k → 0 ≤ gI (intL c1) i ∧ gI (intL c1) i ≤ 1000) (hs : 0 < sumTo (onO O (gI (intL c1))) k) :
    Calls Try.prog 28 #[.int .i64 m, v1, vO] w fun e w' => ∃ (g cap : Nat) (d : Array Nat), e = .returned (.slice (some ⟨g, 0, none⟩) d.size cap) ∧ (w.heap.size ≤ g ∧ g < w'.heap.size) ∧ d.toList.Perm (opensL k O) ∧ R3 w' g d.size (fun j => ((d[j]! : Int), wantsF k m (sumTo (onO O (gI (intL c1))) k) (gI (intL c1)) O d[j]!, rem m (sumTo (onO O (gI (intL c1))) k) (gI (intL c1)) d[j]!)) ∧ Below w.heap.size w w' := by
  obtain ⟨gO, capO, rfl, -, -⟩ := hO.shape
  obtain ⟨a1, p1, rfl, hy1⟩ := hx1
  have H1 : Hid (uS w lo hi 1 k c1 (.slice a1 k p1)) := ⟨_, _, rfl, hy1⟩
  have T1 := uhide ht1
  obtain ⟨i0, hi0, hz0, hz1, hz2⟩ := infoD Try.infoDQuota
  have hln : (natI (opensL k O)).length = (opensL k O).length := natI_len _
  have hle := opensL_le k O
  obtain ⟨ps, hps⟩ : ∃ ps, opensL k O = ps := ⟨_, rfl⟩
  have HPM : Hid (∀ j (h : j < ps.length), ps[j] < k ∧ O ps[j] = true) := fun j h => by
    have : ps[j] ∈ opensL k O := by rw [hps]; exact List.getElem_mem h
    exact mem_opensL.1 this
  have HCO : Hid (∀ wx, Below w.heap.size w wx → ∀ j (h : j < ps.length), wx.cell? ⟨gO, j, none⟩ = some (.int .i64 (ps[j] : Nat))) := fun wx hb j h => by
    rw [hps] at hO
    have := ((hO.below hb).1).cellAt j (by rw [natI_len, Nat.mul_one]; exact h)
    rw [this]
    unfold natI
    simp [h]
  rw [hln, hps]
  rw [hps] at hle
  generalize hS : sumTo (onO O (gI (intL c1))) k = S at *
  have HSUM : Hid (sumL ps (gI (intL c1)) = S) := by show _ = _; rw [← hps, sumL_opens, hS]
  have HWB := uhide hw
  have HSB : Hid (∀ q, 0 ≤ sumL (ps.take q) (gI (intL c1)) ∧ sumL (ps.take q) (gI (intL c1)) ≤ 64000) := fun q => by
    have h1 := sumL_bd (f := gI (intL c1)) (a := 1000) (ps.take q) (fun p hp => HWB.out p (by
      obtain ⟨j, hj, e⟩ := List.mem_iff_getElem.1 (List.mem_of_mem_take hp)
      rw [← e]; exact (HPM.out j hj).1))
    have h2 : (ps.take q).length ≤ 64 := by rw [List.length_take]; omega
    omega
  have hSB : S ≤ 64000 := by
    have := (HSB.out ps.length).2
    rw [List.take_length, HSUM.out] at this
    exact this
  have HSTK : Hid (∀ (f : Nat → Int) q (h : q < ps.length), sumL (ps.take (q + 1)) f = sumL (ps.take q) f + f ps[q]) := fun f q h => sumL_take f ps q h
  obtain ⟨F, hF⟩ : ∃ F : Nat → Int × Int × Int, ∀ p, F p = ((p : Int), quo m S (gI (intL c1)) p, rem m S (gI (intL c1)) p) := ⟨_, fun p => rfl⟩
  have HF := uhide hF
  have HQB : Hid (∀ p, p < k → _) := fun p hp => quo_bd (m := m) (s := S) (w := gI (intL c1)) (i := p) (by omega) hs (hw p hp).1
  have HPS := uhide hps
  have HSE := uhide hS
  clear hy1 ht1 hO hw hln hF hps hS
  go_enter Try.func28, Try.ntmps28
  go_wp2
  go_loopw [7, 18] (fun s i wr => ∃ (q : Nat), q ≤ ps.length ∧ i = .int .i64 q ∧ s = .int .i64 (sumL (ps.take q) (gI (intL c1))) ∧ wr = w) (fun _ i _ => ps.length - (intOf i).toNat)
  case atStart => exact ⟨0, Nat.zero_le _, rfl, rfl, rfl⟩
  case round =>
    obtain ⟨q, hq, rfl, rfl, rfl⟩ := hrel
    have hsb := HSB.out q
    by_cases hlt : q < ps.length
    · have x0 := HCO.out wr (Below.refl _ _) q hlt
      have hp := (HPM.out q hlt).1
      have HN := uhide (HSTK.out (gI (intL c1)) q hlt)
      obtain ⟨b1, off1, rfl, hb1, -⟩ := H1.out.cells (by omega)
      generalize ps[q] = p at *
      have q1 := cell_int T1.out H1.out p hp
      have hwp := HWB.out p hp
      generalize sumL (ps.take q) (gI (intL c1)) = SQ at *
      generalize gI (intL c1) p = X at *
      clear H1 T1 HPM HCO HSUM HWB HSB HSTK HF HQB HPS HSE
      go_wp2
      go_roundw
      case rel => exact ⟨q + 1, by omega, by go_num, by rw [HN.out], trivial⟩
      case measure => simp [intOf]; omega
    · have e : q = ps.length := by omega
      subst e
      rw [List.take_length, HSUM.out]
      have Q0 : Hid (QR (wr.alloc (.cells #[] 56)) wr.heap.size (.slice (some ⟨wr.heap.size, 0, none⟩) 0 0) F (ps.take 0) 0) := QR.lit wr wr.heap.size F (Nat.le_refl _)
      have B0 : Hid (Below wr.heap.size wr (wr.alloc (.cells #[] 56))) := (Below.refl _ _).alloc (Nat.le_refl _) _
      clear HSB hsb HSUM
      obtain ⟨w, rfl⟩ : ∃ w, w = wr := ⟨_, rfl⟩
      go_wp2
      go_loopw [10, 11, 33] (fun v sp i wr => ∃ (q g cap : Nat), q ≤ ps.length ∧ i = .int .i64 q ∧ v = .slice (some ⟨g, 0, none⟩) q cap ∧ sp = .int .i64 (m - sumL (ps.take q) (quo m S (gI (intL c1)))) ∧ Hid (QR wr w.heap.size (.slice (some ⟨g, 0, none⟩) q cap) F (ps.take q) q) ∧ Hid (Below w.heap.size w wr)) (fun _ _ i _ => ps.length - (intOf i).toNat)
      case atStart => exact ⟨0, w.heap.size, 0, Nat.zero_le _, rfl, rfl, by show _ = Value.int .i64 (m - 0); rw [Int.sub_zero], Q0, B0⟩
      case round =>
        clear Q0 B0
        obtain ⟨q, g, cap, hq, rfl, rfl, rfl, V, HB⟩ := hrel
        have HQS : Hid (∀ q, 0 ≤ sumL (ps.take q) (quo m S (gI (intL c1))) ∧ sumL (ps.take q) (quo m S (gI (intL c1))) ≤ 640000000) := fun q => by
          have h1 := sumL_bd (f := quo m S (gI (intL c1))) (a := 10000000) (ps.take q) (fun p hp => by
            have hpk : p < k := by
              obtain ⟨j, hj, e⟩ := List.mem_iff_getElem.1 (List.mem_of_mem_take hp)
              rw [← e]; exact (HPM.out j hj).1
            obtain ⟨z1, z2, -⟩ := HQB.out p hpk
            have z3 := prod_bd (a := m) (b := gI (intL c1) p) (m := 10000) (n := 1000) (by omega) (by omega) (HWB.out p hpk).1 (HWB.out p hpk).2
            omega)
          have h2 : (ps.take q).length ≤ 64 := by rw [List.length_take]; omega
          omega
        by_cases hlt : q < ps.length
        · have x0 := HCO.out wr HB.out q hlt
          have hp := (HPM.out q hlt).1
          have HN := uhide (HSTK.out (quo m S (gI (intL c1))) q hlt)
          have HTK : Hid (ps.take (q + 1) = ps.take q ++ [ps[q]]) := by
            show _ = _
            rw [List.take_add_one, List.getElem?_eq_getElem hlt]; rfl
          obtain ⟨b1, off1, rfl, hb1, -⟩ := (H1.out.below HB.out).cells (by omega)
          have hqs := HQS.out q
          have hqs2 := HQS.out (q + 1)
          rw [HN.out] at hqs2
          generalize ps[q] = p at *
          have q1 := cell_int T1.out (H1.out.below HB.out) p hp
          have hwp := HWB.out p hp
          obtain ⟨z1, z2, z3, z4, z5, z6⟩ := HQB.out p hp
          have zz := prod_bd (a := m) (b := gI (intL c1) p) (m := 10000) (n := 1000) (by omega) (by omega) hwp.1 hwp.2
          have HFp := uhide (HF.out p)
          generalize sumL (ps.take q) (quo m S (gI (intL c1))) = SQ at *
          generalize quo m S (gI (intL c1)) p = QQ at *
          generalize rem m S (gI (intL c1)) p = RR at *
          generalize gI (intL c1) p = X at *
          clear H1 T1 HPM HCO HWB HSTK HF HQB HPS HSE HQS
          have hws : w.heap.size ≤ wr.heap.size := HB.out.size
          have VO : Hid (wr.ownsRow w.heap.size 56 3 (.slice (some ⟨g, 0, none⟩) q cap) q (rowsQ F (ps.take q))) := V.out.1
          have hs0 : ¬ S = 0 := by omega
          have hwq : IntKind.i64.wrap QQ = QQ := by rw [IntKind.wrap_i64]; omega
          have zb : (S == 0) = false := by rw [beq_eq_false_iff_ne]; exact hs0
          go_wp2
          go_region_law (refine step_append_lies _ rfl (.tmp 43) (.tmp 52) 42 rfl w.heap.size 56 i0 _ 3 24 Try.underlying42 hi0 hz0 hz1 hz2 rfl (by decide) (.slice (some ⟨g, 0, none⟩) q cap) q (rowsQ F (ps.take q)) (by simp [Act.eval]) (VO.out.alloc _).drew ⟨wr.heap.size, 0, none⟩ 1 1 [.int .i64 p, .int .i64 QQ, .int .i64 RR] (by simp [Act.eval]) rfl (fun j u hj => cells_new wr [.int .i64 p, .int .i64 QQ, .int .i64 RR] _ j u hj) (fun x hx => by simp at hx; rcases hx with rfl | rfl | rfl <;> rfl) (by decide) (by unfold maxLen; omega) (by omega) (by simp; omega) _ rfl ?_; intro g' cap' w3 hown' hgrow3 hat3 hlt3)
          all_goals (
            have V3 : Hid (QR w3 w.heap.size (.slice (some ⟨g', 0, none⟩) (q + 1) cap') F (ps.take (q + 1)) (q + 1)) := by
              refine ⟨?_, by rw [List.length_take]; omega, g', rfl, ?_, hlt3⟩
              · rw [HTK.out, rowsQ_snoc]
                unfold enc3
                rw [HFp.out]
                exact hown'
              · exact (uowns_blk hown' rfl).1
            have HB3 : Hid (Below w.heap.size w w3) := Below.grown ((HB.out.alloc hws _).drew) hgrow3 (by simp; omega) (fun j hj => by
              obtain ⟨-, -, g9, e9, h9, -⟩ := V.out
              rw [e9] at hj; cases hj; exact h9)
            clear hown' hgrow3 hat3 hlt3 V HB VO HTK HFp
            go_wp2
            go_roundw
            case rel => exact ⟨q + 1, g', cap', by omega, by go_num, rfl, by rw [HN.out]; go_num, V3, HB3⟩
            case measure => simp [intOf]; omega)
        · have e : q = ps.length := by omega
          subst e
          rw [List.take_length]
          have hbd := left_bd (m := m) (s := S) (w := gI (intL c1)) (O := O) (L := k) hs HSE.out.symm
          obtain ⟨t, ht⟩ : ∃ t, leftT m S (gI (intL c1)) O k = t := ⟨_, rfl⟩
          have HT : Hid (leftT m S (gI (intL c1)) O k = t) := ht
          have hsq : sumL ps (quo m S (gI (intL c1))) = sumTo (onO O (quo m S (gI (intL c1)))) k := by rw [← HPS.out, sumL_opens]
          have htz : m - sumL ps (quo m S (gI (intL c1))) = (t : Int) := by
            rw [hsq, ← ht]; unfold leftT; omega
          have htl : t ≤ ps.length := by
            have h1 := opensL_len O k
            rw [HPS.out] at h1
            rw [← hsq, htz] at hbd
            omega
          rw [htz]
          have hqb : ∀ j, j < ps.length → 0 ≤ quo m S (gI (intL c1)) (ps.getD j 0) := fun j hj => by
            rw [List.getD_eq_getElem?_getD, List.getElem?_eq_getElem hj]
            exact (HQB.out _ (HPM.out j hj).1).1
          have hv2 := V.out
          rw [List.take_length] at hv2
          obtain ⟨-, -, g9, e9, h9, h8⟩ := V.out
          have hgg : g9 = g := by cases e9; rfl
          subst hgg
          have HX := greatestFirst_any F g9 cap ps.toArray wr hv2.holds h8 (by simp; omega) (asc_arr (by rw [← HPS.out]; exact opensL_asc O k))
          rw [show ps.toArray.size = ps.length by simp] at HX
          replace HX := uhide HX
          have HSV : Hid (∀ d1 : Array Nat, Go.Sort.PermIn 0 ps.length ps.toArray d1 → Go.Sort.SortedIn (stT (ltOf (cfR F)) id) 0 ps.length d1 → d1.size = ps.length ∧ d1.toList.Perm ps ∧ ∀ j, j < ps.length → (d1[j]! < k ∧ wantsF k m S (gI (intL c1)) O d1[j]! = quo m S (gI (intL c1)) d1[j]! + (if j < t then 1 else 0))) := fun d1 h1 h2 => by
            have hsz : d1.size = ps.length := h1.1
            have hpm : d1.toList.Perm (opensL k O) := by rw [HPS.out]; exact perm_whole (d := ps.toArray) (by simpa using h1)
            refine ⟨hsz, by rw [← HPS.out]; exact hpm, fun j hj => ?_⟩
            have hin : d1[j]! ∈ opensL k O := hpm.mem_iff.1 (by rw [getElem!_pos d1 j (by omega)]; simp)
            obtain ⟨hk, ho⟩ := mem_opensL.1 hin
            refine ⟨hk, ?_⟩
            obtain ⟨hP, hn⟩ := served (k := k) (t := t) (O := O) (r := rem m S (gI (intL c1))) (lt := ltOf (cfR F)) (d' := d1) (fun a b => by rw [cfR_lt, HF.out, HF.out]) (by rw [HPS.out]; exact h1) (by rw [HPS.out]; exact h2) (by rw [HPS.out]; exact htl)
            have hseg := segOf_eq hP hn
            unfold wantsF
            rw [HT.out, hseg]
            show onO O _ _ + _ = _
            unfold onO
            rw [if_pos ho]
            congr 1
            have hnd : d1.toList.Nodup := hpm.nodup_iff.2 (opensL_nodup k O)
            have hit := in_take (t := t) hnd (j := j) (by omega)
            by_cases hjt : j < t
            · rw [if_pos hjt, if_pos (by rw [decide_eq_true_eq]; exact hit.2 hjt)]
            · rw [if_neg hjt, if_neg (by rw [decide_eq_true_eq]; exact fun h => hjt (hit.1 h))]
          have HBB : Hid (∀ wx, OutR g9 (g9 + 1) wr wx → Below w.heap.size w wx) := fun wx h => by
            have hws := HB.out.size
            exact HB.out.trans (h.below h9 hws)
          have HQ2 : Hid (∀ p, p < k → 0 ≤ quo m S (gI (intL c1)) p ∧ quo m S (gI (intL c1)) p ≤ 10000000) := fun p hp => by
            obtain ⟨z1, z2, -⟩ := HQB.out p hp
            have zz := prod_bd (a := m) (b := gI (intL c1) p) (m := 10000) (n := 1000) (by omega) (by omega) (HWB.out p hp).1 (HWB.out p hp).2
            omega
          clear hv2 V HB H1 T1 HPM HCO HWB HSTK HQB HPS HSE HQS HT hsq htz hqb e9 hbd ht
          go_wp2_with fail
          refine HX.out.mono ?_
          rintro e w4 ⟨rfl, d1, ⟨h1, h2⟩, h3, h4⟩
          obtain ⟨hsz, hpm, hwt⟩ := HSV.out d1 h1 h2
          have HPM1 := uhide hpm
          have HWT := uhide hwt
          have HB4 := uhide (HBB.out w4 h4)
          have hg4 : g9 < w4.heap.size := by have := h4.size; omega
          have R4 : Hid (R3 w4 g9 ps.length (fun j => ((d1[j]! : Int), quo m S (gI (intL c1)) d1[j]! + (if j < 0 then 1 else 0), rem m S (gI (intL c1)) d1[j]!))) := by
            have := R3.of h3
            rw [hsz] at this
            exact this.congr (fun j hj => by rw [HF.out, if_neg (by omega), Int.add_zero])
          clear h1 h2 h3 h4 hpm hwt HX HSV HBB HF
          go_wp2
          go_loopw [63] (fun i wx => ∃ x : Nat, x ≤ t ∧ i = .int .i64 x ∧ Hid (R3 wx g9 ps.length (fun j => ((d1[j]! : Int), quo m S (gI (intL c1)) d1[j]! + (if j < x then 1 else 0), rem m S (gI (intL c1)) d1[j]!))) ∧ Hid (Below w.heap.size w wx) ∧ g9 < wx.heap.size) (fun i _ => t - (intOf i).toNat)
          case atStart => exact ⟨0, Nat.zero_le _, rfl, R4, HB4, hg4⟩
          case round =>
            clear R4 HB4 hg4
            obtain ⟨w5, rfl⟩ : ∃ w5, w5 = wr := ⟨_, rfl⟩
            obtain ⟨x, hx, rfl, R5, HB5, hg5⟩ := hrel
            by_cases hxt : x < t
            · obtain ⟨⟨i0, i1, i2⟩, f1⟩ := R5.out x (by omega)
              have hxl : x < ps.length := by omega
              have hb := HQ2.out _ (HWT.out x (by omega)).1
              have HP : Hid (∀ z, z = quo m S (gI (intL c1)) d1[x]! + 1 → R3 (w5.setCell ⟨g9, x * 3 + 1, none⟩ (.int .i64 z)) g9 ps.length (fun j => ((d1[j]! : Int), quo m S (gI (intL c1)) d1[j]! + (if j < x + 1 then 1 else 0), rem m S (gI (intL c1)) d1[j]!))) := fun z hz => (R5.out.put (by omega) z).congr (fun j hj => by
                by_cases e : j = x
                · subst e; rw [upd3_self, hz, if_pos (by omega)]
                · rw [upd3_ne _ _ _ e]
                  by_cases h : j < x
                  · rw [if_pos h, if_pos (by omega)]
                  · rw [if_neg h, if_neg (by omega)])
              have HB6 : Hid (∀ z, Below w.heap.size w (w5.setCell ⟨g9, x * 3 + 1, none⟩ z)) := fun z => HB5.out.setCell h9 z
              simp only at i0 i1 i2
              rw [if_neg (by omega), Int.add_zero] at i1
              clear HPM1 HWT HQ2 R5 HB5
              generalize quo m S (gI (intL c1)) d1[x]! = QQ at *
              go_wp2
              go_roundw
              case rel => exact ⟨x + 1, by omega, by go_num, HP.out _ rfl, HB6.out _, by simpa using hg5⟩
              case measure => simp [intOf]; omega
            · have e : x = t := by omega
              subst e
              go_wp2
              go_ret
              refine ⟨g9, cap, d1, by rw [hsz]; rfl, ⟨h9, hg5⟩, HPM1.out, ?_, HB5.out⟩
              rw [hsz]
              exact R5.out.congr (fun j hj => by rw [(HWT.out j hj).2])
end Go.Proofs.Ytidjjgiecaoboaa
