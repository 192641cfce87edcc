/- Lists copied, each by one. -/
import Derived.Test.YtamlgjmboljcdaaGreatObsU
import Derived.Test.YtamlgjmboljcdaaGreatUTObjc
import Derived.Laws.IdiomCopy
namespace Go.Proofs.YtamlgjmboljcdaaGreat
open Go.RowKit Go.BigFrame
set_option linter.unusedVariables false

theorem wpList_copy_full {P : Program} {w : World} {ops : Array Oper} {rest : List Oper} {o : Oper} {a : Act} {Q : Exit → Act → World → Prop} (hgd : o.guard = none) (d s : Operand) (dT sT : TypeId)
    (ho : o.op = .call { callee := .builtin .copy, args := #[d, s], argTypes := #[dT, sT] }) (elem : TypeId) (size : Nat) (hu : P.underlying dT = some (.slice elem)) (hsz : (P.info? elem).map (·.size) = some size)
    (g n cap : Nat) (hd : a.eval d = .slice (some ⟨g, 0, none⟩) n cap) (xv : Value) (hs : a.eval s = xv) (zs : List Value) (hl : zs.length = n * size)
    (hsrc : (xv = .slice none 0 0 ∧ n = 0) ∨ ∃ ad c, xv = .slice (some ad) n c ∧ ∀ j u, zs[j]? = some u → w.cell? (ad.add j) = some u) (h1 : ∀ u ∈ zs, u.oneCell' = true) (hth : w.there g 0 zs.length)
    (h : ∀ w', w' = w.setCells g 0 zs → wpList P ops Q rest (a.put o.dst (goInt n)) w') : wpList P ops Q (o :: rest) a w := by
  refine wpList_plain hgd fun K hK => ?_
  have hst := run_storeCells_cells (P := P) g 0 zs 0 w (fun q hq => by simpa using (hth q hq).1) (fun q hq => by simpa using (hth q hq).2) h1
  cases hq : P.info? elem with
  | none => simp [hq] at hsz
  | some i =>
    have hi : i.size = size := by simpa [hq] using hsz
    rcases hsrc with ⟨rfl, rfl⟩ | ⟨ad, c, rfl, hnews⟩
    · have hz : zs = [] := by simpa using hl
      subst hz
      have hrun : (Builtin.copy_ #[dT, sT] o.type #[.slice (some ⟨g, 0, none⟩) 0 cap, .slice none 0 0]).run P w = .ok (goInt 0) w := by
        simp [Builtin.copy_, run_underlying hu, Builtin.lenOf, Builtin.firstCells, sizeOf, typeInfo, hq, storeCells]
      unfold Oper.wp
      simp [execOp, ho, resolve, invoke, builtin, hd, hs, hrun, Result.andThen]
      exact hK _ _ (h _ rfl)
    · have hl2 := run_loadCells_list (P := P) w ad zs hnews
      rw [hl] at hl2
      have hrun : (Builtin.copy_ #[dT, sT] o.type #[.slice (some ⟨g, 0, none⟩) n cap, .slice (some ad) n c]).run P w = .ok (goInt n) (w.setCells g 0 zs) := by
        simp only [Nat.add_zero] at hst
        simp [Builtin.copy_, run_underlying hu, Builtin.lenOf, Builtin.firstCells, sizeOf, typeInfo, hq, hi, hl2, hst]
      unfold Oper.wp
      simp [execOp, ho, resolve, invoke, builtin, hd, hs, hrun, Result.andThen]
      exact hK _ _ (h _ rfl)
theorem cell_setCells_after {b : Nat} (ys : List Value) (o j : Nat) (w : World) (h : o + ys.length ≤ j) : (w.setCells b o ys).cell? ⟨b, j, none⟩ = w.cell? ⟨b, j, none⟩ := World.cell?_setCells_out b ys o w ⟨b, j, none⟩ (fun _ _ => .inr h)
theorem owns_set0 {w : World} {B : Nat} {e : TypeId} {k n g cap : Nat} {xs zs : List Value} (h : w.ownsRow B e k (.slice (some ⟨g, 0, none⟩) n cap) n xs) (hl : zs.length = n * k) : (w.setCells g 0 zs).ownsRow B e k (.slice (some ⟨g, 0, none⟩) n cap) n zs := by
  have key : ∀ (ys pre post : List Value) (w : World), w.ownsRow B e k (.slice (some ⟨g, 0, none⟩) n cap) n (pre ++ post) → post.length = ys.length → (w.setCells g pre.length ys).ownsRow B e k (.slice (some ⟨g, 0, none⟩) n cap) n (pre ++ ys) := by
    intro ys
    induction ys with
    | nil => intro pre post w h hl; cases post with
      | nil => exact h
      | cons a b => cases hl
    | cons y ys ih =>
      intro pre post w h hl
      cases post with
      | nil => cases hl
      | cons p post =>
        have h2 := (h.stored pre.length y).1
        have e1 : (pre ++ p :: post).set pre.length y = (pre ++ [y]) ++ post := by simp
        rw [e1] at h2
        have := ih (pre ++ [y]) post _ h2 (by simpa using hl)
        rw [List.length_append] at this
        rw [World.setCells]
        simpa using this
  have := key zs [] xs w (by simpa using h) (by rw [hl, ← h.1])
  simpa using this
/-- a list's rows from the q-th on are still as they were -/
def Left (w : World) (g k q : Nat) (zs : List Value) : Prop := ∀ j v, q * k ≤ j → zs[j]? = some v → w.cell? ⟨g, j, none⟩ = some v
theorem Left.below {w w' : World} {g k q : Nat} {zs : List Value} (h : Left w g k q zs) (hb : Below w.heap.size w w') : Left w' g k q zs := fun j v hj hv => by
  have := h j v hj hv
  exact (hb.cell (p := ⟨g, j, none⟩) (World.block_lt_of_cell? _ _ this)).trans this
theorem Left.step {w : World} {g k q : Nat} {zs ys : List Value} (h : Left w g k q zs) (hl : ys.length = k) : Left (w.setCells g (q * k) ys) g k (q + 1) zs := fun j v hj hv => by
  rw [Nat.succ_mul] at hj
  rw [cell_setCells_after ys (q * k) j w (by omega)]
  exact h j v (by omega) hv
theorem eachBox (wr : World) (T : TypeId) (xr Z : List Value) (hl : xr.length = Z.length) (wy : World) (ey : wy = (wr.alloc (.cells Z.toArray T)).setCells wr.heap.size 0 xr) : objU wy wr.heap.size T xr ∧ Below wr.heap.size wr wy := by
  subst ey
  have h := objU.setCells (t := T) xr Z [] [] _ (objU.new2 (w := wr) T Z rfl |> fun x => by simpa using x) hl.symm
  refine ⟨by simpa using h, ((Below.refl _ _).alloc (Nat.le_refl _) _).trans ((OutS.setCells _ _ _).below (fun t ht => by simp at ht; omega) (by simp))⟩
theorem infoEachO : ∃ i, Tryz.prog.info? 38 = some i ∧ i.zero = some (.agg #[.int .i64 0, .string ByteArray.empty, .int .i64 0, .int .i64 0, .int .i64 0, .bool false, .slice none 0 0, .int .i64 0, .string ByteArray.empty, .int .i64 0, .slice none 0 0, .slice none 0 0, .int .i64 0, .string ByteArray.empty, .int .i64 0, .slice none 0 0, .slice none 0 0]) ∧ i.size = 17 ∧ i.bytes ≤ 1000 := by
  have h := Tryz.infoUObj
  cases e : Tryz.prog.info? 38 with
  | none => rw [e] at h; cases h
  | some i => rw [e] at h; simp at h; exact ⟨i, rfl, h.1, h.2.1, h.2.2⟩
set_option maxRecDepth 40000 in
set_option maxHeartbeats 3200000 in
theorem copyEachO_N (n : Nat) (cs : UD) (c : Value) (S0 : List Nat) (w : World) (ht : tyS 17 n cs 8) (hwt : n + wt cs ≤ 1048576) (hx : oS w 17 n cs c S0) (hS : S0.Nodup) :
    Calls Tryz.prog 141 #[c, .func (.func 87) #[] #[]] w fun e w' => ∃ c' S, e = .returned c' ∧ oS w' 17 n cs c' S ∧ own2 S w.heap.size w'.heap.size ∧ Below w.heap.size w w' := by
  obtain ⟨hk0, e0, zs0, S1, o0, m0, rfl⟩ := hx
  have hS1 : S1.Nodup := (List.nodup_append.1 hS).2.1
  obtain ⟨a0, p0, rfl⟩ := uowns_slice o0
  obtain ⟨i0, hi0, hz0, hz1, hz2⟩ := infoEachO
  have hn8 : n ≤ 1048576 := by omega
  have HW : Hid (wt cs ≤ 1048576) := by show _ ≤ _; omega
  have HONE : Hid (∀ u ∈ zs0, u.oneCell' = true) := oH.ones ht.2.2.2.2 m0
  have hbb : i0.bytes * n ≤ 281474976710656 := Nat.le_trans (Nat.mul_le_mul hz2 hn8) (by decide)
  have O0 := uhide o0
  have M0 := uhide m0
  have HS1 := uhide hS1
  have Ht := uhide ht
  clear o0 m0 hS1 hS hwt ht
  go_enter Tryz.func141, Tryz.ntmps141
  go_wp2_with (first
    | (at_make
       refine wpList_make_full _ rfl _ _ 24 rfl w.heap.size 38 i0 _ 17 Tryz.underlying24 hi0 hz0 hz1 _ _ _ _ n rfl rfl rfl rfl hbb (by unfold maxLen; omega) (Nat.le_refl _) ?_
       intro w1 hown hgrow
       have B1 : Hid (Below w.heap.size w w1) := Below.grown (Below.refl _ _) hgrow (Nat.le_refl _) (fun k hk => by cases hk)
       have R1 := uhide hown
       have SRC : Hid ((Value.slice a0 n p0 = .slice none 0 0 ∧ n = 0) ∨ ∃ ad c, Value.slice a0 n p0 = .slice (some ad) n c ∧ ∀ j u, zs0[j]? = some u → w1.cell? (ad.add j) = some u) := own_src (uowns_frame O0.out (fun x hx => B1.out.block x (ublk_lt O0.out x hx).2))
       have TH1 : Hid (w1.there w.heap.size 0 zs0.length) := fun j hj => by
         rw [O0.out.1] at hj
         exact ⟨by rw [R1.out.cellAt (0 + j) (by omega), List.getElem?_eq_getElem (by rw [R1.out.1]; omega)]; rfl, R1.out.frozenAt _⟩
       clear hown hgrow)
    | (refine wpList_copy_full rfl (.tmp 11) (.tmp 12) 24 24 rfl 38 17 Tryz.underlying24 Tryz.zObj_impl_Obj w.heap.size n n rfl (.slice a0 n p0) rfl zs0 O0.out.1 SRC.out HONE.out TH1.out ?_
       intro w2 e2
       have E2 : Hid (OutS [w.heap.size] w1 w2) := by subst e2; exact OutS.setCells zs0 0 w1
       have R2 : Hid (w2.ownsRow w.heap.size 38 17 (.slice (some ⟨w.heap.size, 0, none⟩) n n) n zs0) := by subst e2; exact owns_set0 R1.out O0.out.1
       clear e2)
    )
  have B2 : Hid (Below w.heap.size w w2) := B1.out.trans (E2.out.below (fun t ht => by simp at ht; omega) B1.out.size)
  have T0 : Hid (TS w w2 38 17 n cs 0) := TS.start (cs := cs) R2.out B2.out
  have L0 : Hid (Left w2 w.heap.size 17 0 zs0) := fun j v hj hv => by
    have hj2 : j < n * 17 := by have := (List.getElem?_eq_some_iff.1 hv).1; rw [O0.out.1] at this; exact this
    rw [R2.out.cellAt j hj2]; exact hv
  clear B1 R1 SRC TH1 E2 R2 B2
  go_loopw [16] (fun i wr => ∃ q : Nat, q ≤ n ∧ i = .int .i64 q ∧ Hid (TS w wr 38 17 n cs q) ∧ Hid (Left wr w.heap.size 17 q zs0)) (fun i _ => n - (intOf i).toNat)
  case atStart => exact ⟨0, Nat.zero_le _, rfl, T0, L0⟩
  case round =>
    clear T0 L0
    obtain ⟨q, hq, rfl, HT, HL⟩ := hrel
    have hgw : w.heap.size < wr.heap.size ∨ n = 0 := by
      by_cases h0 : n = 0
      · exact .inr h0
      · obtain ⟨v, hv⟩ := HT.out.cell 0 (by omega)
        exact .inl (World.block_lt_of_cell? _ _ hv)
    by_cases hlt : q < n
    · have hgl : w.heap.size < wr.heap.size := by omega
      obtain ⟨xr, Sq, hxr, hsq, hnq, hcq⟩ := M0.out.rowAt 17 q
      have htr := Ht.out.row hlt
      have hwr : wt (rowU cs 17 q) ≤ 1048576 := by have := wt_row cs 17 q; have := HW.out; omega
      have hxl : xr.length = 17 := hxr.len.trans (tyL.len htr)
      have RG : Hid (wr.rangeAt w.heap.size (q * 17) xr) := fun j v hj => HL.out _ v (by omega) (hcq j v hj)
      have FZ : Hid ((Tryz.prog.info? 38).map (·.size) = some xr.length) := by show _ = _; rw [hxl]; exact Tryz.zObj_impl_Obj
      have HU : Hid (∀ u ∈ xr, u.oneCell' = true) := ones_own htr hxr
      have HCO : Hid (∀ wx, Below wr.heap.size wr wx → Calls Tryz.prog 87 #[.agg xr.toArray] wx fun e w' => ∃ ys T, e = .returned (.agg ys.toArray) ∧ ys.length = 17 ∧ Hid (oH w' (rowU cs 17 q) ys T) ∧ Hid (own2 T wx.heap.size w'.heap.size) ∧ Hid (∀ u ∈ ys, u.oneCell' = true) ∧ Hid (Below wx.heap.size wx w')) := fun wx hb => (copyOfObj_N _ xr Sq wx htr hwr ((hxr.below HT.out.bel).below hb) (hnq HS1.out)).mono fun e w' ⟨ys, T, q1, q2, q3, q4⟩ => ⟨ys, T, q1, q2.len.trans (tyL.len htr), q2, q3, ones_own htr q2, q4⟩
      have TH : Hid ((wr.alloc (.cells [.int .i64 0, .string ⟨#[]⟩, .int .i64 0, .int .i64 0, .int .i64 0, .bool false, .slice none 0 0, .int .i64 0, .string ⟨#[]⟩, .int .i64 0, .slice none 0 0, .slice none 0 0, .int .i64 0, .string ⟨#[]⟩, .int .i64 0, .slice none 0 0, .slice none 0 0].toArray 38)).there wr.heap.size 0 xr.length) := by show World.there _ _ _ _; rw [hxl]; exact (objU.new wr 38 [.int .i64 0, .string ⟨#[]⟩, .int .i64 0, .int .i64 0, .int .i64 0, .bool false, .slice none 0 0, .int .i64 0, .string ⟨#[]⟩, .int .i64 0, .slice none 0 0, .slice none 0 0, .int .i64 0, .string ⟨#[]⟩, .int .i64 0, .slice none 0 0, .slice none 0 0]).there 0 17 (by decide)
      have hq0 : (0 : Int) ≤ (q : Int) := Int.natCast_nonneg _
      have hqn : (q : Int) < (n : Int) := by omega
      clear hxr hsq hnq hcq hwr htr hgw
      go_wp2_with (first
        | ((with_reducible refine wpList_load_row2 ?qqg142 38 ?qqx142 ?qqo142 w.heap.size (q * 17) ?qqh142 xr Tryz.rObj_impl_Obj FZ.out RG.out ?_); (case qqg142 => rfl); (case qqo142 => rfl); (case qqh142 => first | (simp [Act.eval]; done) | (simp [Act.eval, Act.put]; done)))
        | ((with_reducible refine wpList_store_cells ?qqg143 38 ?qqx143 ?qqy143 ?qqo143 ?qqd143 wr.heap.size 0 ?qqh143 (.agg xr.toArray) ?qqv143 xr cells_agg HU.out FZ.out TH.out ?_); (case qqg143 => rfl); (case qqo143 => rfl); (case qqd143 => rfl); (case qqh143 => first | (simp [Act.eval]; done) | (simp [Act.eval, Act.put]; done)); (case qqv143 => first | (simp [Act.eval]; done) | (simp [Act.eval, Act.put]; done)); intro wy ey; have OY := uhide (eachBox wr 38 xr [.int .i64 0, .string ⟨#[]⟩, .int .i64 0, .int .i64 0, .int .i64 0, .bool false, .slice none 0 0, .int .i64 0, .string ⟨#[]⟩, .int .i64 0, .slice none 0 0, .slice none 0 0, .int .i64 0, .string ⟨#[]⟩, .int .i64 0, .slice none 0 0, .slice none 0 0] (by rw [hxl]; rfl) wy ey); have BY : Hid (Below wr.heap.size wr wy) := OY.out.2; have RX : Hid (wy.rangeAt wr.heap.size 0 xr) := OY.out.1.range 0 xr (fun j v h => by rw [Nat.zero_add]; exact h); clear ey OY)
        | ((with_reducible refine wpList_load_row2 ?qqg144 38 ?qqx144 ?qqo144 wr.heap.size 0 ?qqh144 xr Tryz.rObj_impl_Obj FZ.out RX.out ?_); (case qqg144 => rfl); (case qqo144 => rfl); (case qqh144 => first | (simp [Act.eval]; done) | (simp [Act.eval, Act.put]; done)))
        )
      refine (HCO.out wy BY.out).mono ?_
      rintro e w3 ⟨ys, T, rfl, hyl, ho, hT, hone, hb3⟩
      have B3 : Hid (Below wr.heap.size wr w3) := BY.out.trans (hb3.out.mono BY.out.size)
      have hT3 : Hid (∀ t ∈ T, wr.heap.size ≤ t) := fun t ht => Nat.le_trans BY.out.size (hT.out.2 t ht).1
      have THY : Hid (w3.there w.heap.size (q * 17) ys.length) := by
        show World.there _ _ _ _
        rw [hyl]
        exact (HT.out.below B3.out).there _ _ (by have := Nat.mul_le_mul_right 17 (show q + 1 ≤ n by omega); rw [Nat.succ_mul] at this; exact this)
      have FY : Hid ((Tryz.prog.info? 38).map (·.size) = some ys.length) := by show _ = _; rw [hyl]; exact Tryz.zObj_impl_Obj
      have HL3 := uhide (HL.out.below B3.out)
      go_wp2_with (first
        | ((with_reducible refine wpList_store_cells ?qqg157 38 ?qqx157 ?qqy157 ?qqo157 ?qqd157 w.heap.size (q * 17) ?qqh157 (.agg ys.toArray) ?qqv157 ys cells_agg hone.out FY.out THY.out ?_); (case qqg157 => rfl); (case qqo157 => rfl); (case qqd157 => rfl); (case qqh157 => first | (simp [Act.eval]; done) | (simp [Act.eval, Act.put]; done)); (case qqv157 => first | (simp [Act.eval]; done) | (simp [Act.eval, Act.put]; done)); intro w4 e4; have T1 := uhide (HT.out.row B3.out ho.out hT.out.1 hT3.out Ht.out.2.2.2.1 hlt e4); have L1 : Hid (Left w4 w.heap.size 17 (q + 1) zs0) := (by subst e4; exact HL3.out.step hyl); clear e4)
        )
      go_roundw
      case rel => exact ⟨q + 1, by omega, by go_num, T1, L1⟩
      case measure => simp [intOf]; omega
    · have e : q = n := by omega
      subst e
      obtain ⟨S, h1, h2, h3, h4⟩ := HT.out.done (by decide) Ht.out.2.2.2.1
      have HF : Hid (∃ S, oS wr 17 q cs (.slice (some ⟨w.heap.size, 0, none⟩) q q) S ∧ own2 S w.heap.size wr.heap.size ∧ Below w.heap.size w wr) := ⟨S, h1, ⟨h2, fun s hs => ⟨h3 s hs, h1.lt s hs⟩⟩, h4⟩
      clear HT h1 h2 h3 h4 HL
      go_wp2
      go_ret
      obtain ⟨S, h1, h2, h3⟩ := HF.out
      exact ⟨_, S, rfl, h1, h2, h3⟩
end Go.Proofs.YtamlgjmboljcdaaGreat
