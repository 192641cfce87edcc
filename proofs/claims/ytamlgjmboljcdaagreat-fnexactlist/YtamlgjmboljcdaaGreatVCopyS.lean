/- Values copied by the spec: spec.l4Copy. -/
import Derived.Test.YtamlgjmboljcdaaGreatVCopy
import Derived.Maps.AppendAt
import Derived.Deep.RegionHeld3
import Derived.Deep.CutRange
import Derived.OwnWalk
namespace Go.Proofs.YtamlgjmboljcdaaGreat
open Go.RowKit Go.BigFrame
set_option linter.unusedVariables false
/-- append of a list that came in (or of nil) behind a row of one's own, at a step of a region that draws -/
theorem step_append_list {P : Program} {w : World} {ops : Array Oper} {o : Oper} {a : Act} {K : Act → World → Prop} {Q : Exit → Act → World → Prop} {E : Prop} (hgd : o.guard = none) (s x : Operand) (t : TypeId)
    (ho : o.op = .call { callee := .builtin .append, args := #[s, x], argTypes := #[t, t] })
    (base : Nat) (e : TypeId) (i : TypeInfo) (z : Value) (size bytes : Nat) (ht : P.underlying t = some (.slice e)) (hi : P.info? e = some i) (hz : i.zero = some z)
    (hsize : i.size = size) (hby : i.bytes = bytes) (hzs : z.cells.size = size) (hsz : 0 < size)
    (v : Value) (n : Nat) (xs : List Value) (hs : a.eval s = v) (hown : w.ownsRow base e size v n xs)
    (xv : Value) (hx : a.eval x = xv) (m : Nat) (news : List Value) (hl : news.length = m * size) (h1 : ∀ u ∈ news, u.oneCell' = true)
    (hsrc : (xv = .slice none 0 0 ∧ m = 0) ∨ ∃ ad c, xv = .slice (some ad) m c ∧ ∀ j u, news[j]? = some u → w.cell? (ad.add j) = some u)
    (h63 : n + m ≤ maxLen) (hbytes : (n + m) * bytes ≤ 140737488355328) (hbase : base ≤ w.heap.size)
    (h : ∀ v' w', w'.ownsRow base e size v' (n + m) (xs ++ news) → w.grownBy w' v.ownBlock → (v'.ownBlock = v.ownBlock ∨ v'.ownBlock = some w.heap.size) → K (a.put o.dst v') w') :
    if Region.wanted o (yielded ops a.tmps) = true then Oper.wp P o a w K Q else E := by
  have hw : Region.wanted o (yielded ops a.tmps) = true := by simp [Region.wanted, hgd]
  rw [if_pos hw]
  rcases hsrc with ⟨rfl, rfl⟩ | ⟨ad, c, rfl, hnews⟩
  · have hn0 : news = [] := by simpa using hl
    subst hn0
    have hrun := run_append_owned_none (P := P) (w := w) base t o.type e i size ht hi v n xs hown
    have := h v w (by simpa using hown) (World.grownBy.refl w _) (Or.inl rfl)
    unfold Oper.wp
    simp [execOp, ho, resolve, invoke, builtin, hs, hx, hrun, Result.andThen]
    exact this
  · obtain ⟨v', w', hr, h2, h3, _, h5⟩ := run_append_own_at (P := P) w base t o.type e i z size bytes ht hi hz hsize hby hzs hsz v n xs hown ad m c news hl hnews h1 h63 hbytes hbase
    unfold Oper.wp execOp
    simp only [ho, resolve, invoke, builtin, Sem.run_bind, Sem.run_pure, Result.andThen_ok, List.map_toArray, List.map_cons, List.map_nil, hs, hx, hr]
    exact h v' w' h2 h3 h5
/-- behind the first region: the argument, the result, the new struct B, its list of its own -/
structure CpS (w wx : World) (T : TypeId) (vs zs os : List Value) (n3 : Nat) (c3 : UD) (v3 : Value) (B : Nat) (S3 : List Nat) : Prop where
  row : oS wx 1 n3 c3 v3 S3
  own : own2 S3 (w.heap.size + 1 + 1) wx.heap.size
  not : B ∉ S3
  le : w.heap.size + 1 + 1 ≤ B
  ob : objU wx B T os
  oa : objU wx w.heap.size T vs
  oz : objU wx (w.heap.size + 1) T zs
  bel : Below w.heap.size w wx
theorem CpS.put {w wx : World} {T : TypeId} {vs zs os : List Value} {n3 : Nat} {c3 : UD} {v3 : Value} {B : Nat} {S3 : List Nat} (h : CpS w wx T vs zs os n3 c3 v3 B S3) (j : Nat) (v : Value) : CpS w (wx.setCell ⟨B, j, none⟩ v) T vs zs (os.set j v) n3 c3 v3 B S3 where
  row := h.row.frame (fun g hg => Below.heap_setCell wx ⟨B, j, none⟩ v g (fun e => h.not (by have e' : g = B := e; exact e' ▸ hg)))
  own := h.own.mono (Nat.le_refl _) (by simp)
  not := h.not
  le := h.le
  ob := h.ob.set j v
  oa := h.oa.other _ (by have := h.le; simp; omega) _
  oz := h.oz.other _ (by have := h.le; simp; omega) _
  bel := h.bel.setCell (by have := h.le; simp; omega) _
/-- what the append leaves: all but the new struct -/
structure CpG (w wx : World) (T : TypeId) (vs zs : List Value) (n3 : Nat) (c3 : UD) (v3 : Value) (S3 : List Nat) : Prop where
  row : oS wx 1 n3 c3 v3 S3
  own : own2 S3 (w.heap.size + 1 + 1) wx.heap.size
  oa : objU wx w.heap.size T vs
  oz : objU wx (w.heap.size + 1) T zs
  bel : Below w.heap.size w wx
theorem CpG.mk' {w wx X w3 : World} {T e : TypeId} {vs zs : List Value} {n3 : Nat} {c3 : UD} {v v3 : Value} {news : List Value} (hA : objU wx w.heap.size T vs) (hZ : objU wx (w.heap.size + 1) T zs) (hB : Below w.heap.size w wx) (hX : Below wx.heap.size wx X)
    (hv : ∀ g, v.ownBlock = some g → w.heap.size + 1 + 1 ≤ g) (hown : w3.ownsRow (w.heap.size + 1 + 1) e 1 v3 n3 news) (hgrow : X.grownBy w3 v.ownBlock) (ho : oH w3 c3 news []) : CpG w w3 T vs zs n3 c3 v3 (blkOf v3) := by
  have hz : w.heap.size + 1 + 1 ≤ wx.heap.size := hZ.lt
  have hk : Below (w.heap.size + 1 + 1) X w3 := Below.grown (Below.refl _ _) hgrow (Nat.le_trans hz hX.size) hv
  have hall : Below (w.heap.size + 1 + 1) wx w3 := (hX.mono hz).trans hk
  exact ⟨oS_flat (by decide) hown ho, own2_blk hown, (hall.block _ (by omega)).trans hA, (hall.block _ (by omega)).trans hZ, hB.trans (hall.mono (by omega))⟩
theorem CpG.fresh {w wx : World} {T : TypeId} {vs zs : List Value} {n3 : Nat} {c3 : UD} {v3 : Value} {S3 : List Nat} (h : CpG w wx T vs zs n3 c3 v3 S3) (os : List Value) : CpS w (wx.alloc (.cells os.toArray T)) T vs zs os n3 c3 v3 wx.heap.size S3 where
  row := h.row.below ((Below.refl _ _).alloc (Nat.le_refl _) _)
  own := h.own.mono (Nat.le_refl _) (by simp)
  not := fun g => by have := h.own.2 _ g; omega
  le := h.oz.lt
  ob := objU.new _ _ _
  oa := h.oa.old _
  oz := h.oz.old _
  bel := h.bel.alloc h.bel.size _
theorem CpG.old {w w3 X : World} {T : TypeId} {vs zs os : List Value} {n3 : Nat} {c3 : UD} {v v3 : Value} {B : Nat} (h : CpG w w3 T vs zs n3 c3 v3 (blkOf v3)) (hle : w.heap.size + 1 + 1 ≤ B) (hB : objU X B T os) (hgrow : X.grownBy w3 v.ownBlock)
    (hat : v3.ownBlock = v.ownBlock ∨ v3.ownBlock = some X.heap.size) (hne : ∀ g, v.ownBlock = some g → g ≠ B) : CpS w w3 T vs zs os n3 c3 v3 B (blkOf v3) where
  row := h.row
  own := h.own
  not := fun hg => by
    have hb := hB.lt
    have e : v3.ownBlock = some B := by
      unfold blkOf at hg
      split at hg
      · rename_i g hh
        rw [hh, List.mem_singleton.1 hg]
      · cases hg
    rcases hat with hh | hh
    · exact hne B (by rw [← hh]; exact e) rfl
    · rw [e] at hh
      have := Option.some.inj hh
      omega
  le := hle
  ob := (hgrow.block B hB.lt (fun e => hne B e.symm rfl)).trans hB
  oa := h.oa
  oz := h.oz
  bel := h.bel
theorem CpS.step {w wx w' : World} {T : TypeId} {vs zs os : List Value} {n3 : Nat} {c3 : UD} {v3 : Value} {B H : Nat} {S3 : List Nat} (h : CpS w wx T vs zs os n3 c3 v3 B S3) (hb : Below H wx w') (hB : B < H) (hS : ∀ g ∈ S3, g < H) : CpS w w' T vs zs os n3 c3 v3 B S3 where
  row := h.row.frame (fun g hg => hb.block g (hS g hg))
  own := h.own.mono (Nat.le_refl _) hb.size
  not := h.not
  le := h.le
  ob := (hb.block B hB).trans h.ob
  oa := (hb.block _ (by have := h.le; omega)).trans h.oa
  oz := (hb.block _ (by have := h.le; omega)).trans h.oz
  bel := h.bel.trans (hb.mono (by have := h.le; omega))
theorem AS.put {base : Nat} {w : World} {e : TypeId} {k : Nat} {v : Value} {cs : UD} {n : Nat} (h : AS base w e k v cs n) (p : Addr) (hp : p.block < base) (u : Value) : AS base (w.setCell p u) e k v cs n := by
  obtain ⟨h0, xs, S, h1, h2, h3, h4⟩ := h
  exact ⟨h0, xs, S, uowns_frame h1 (fun x hx => Below.heap_setCell w p u x (by have := (ublk_lt h1 x hx).1; omega)), h2.frame _ _ _ (fun g hg => Below.heap_setCell w p u g (by have := (h3.2 g hg).1; omega)), h3.mono (Nat.le_refl _) (by simp), h4⟩
theorem empty_own {X : World} {B H : Nat} {e : TypeId} (h : X.heap.size = H) (hb : B ≤ H) : (X.alloc (.cells #[] e)).ownsRow B e 1 (.slice (some ⟨H, 0, none⟩) 0 0) 0 [] := by
  subst h
  exact World.ownsRow_lit X #[] 0 hb (by decide) rfl
theorem objU.dr {w : World} {b : Nat} {t : TypeId} {xs : List Value} (h : objU w b t xs) : objU w.drew b t xs := h
theorem slot_blk {H g n c : Nat} (h : (Value.slice (some ⟨H, 0, none⟩) n c).ownBlock = some g) : g = H := by
  simpa [Value.ownBlock] using h.symm
set_option maxRecDepth 20000 in
set_option maxHeartbeats 3200000 in
theorem l4Copy_N : ∀ (N : Nat) (d : UD) (xs : List Value) (lo hi : Nat) (w : World), uszD d < N → tyL d (uE 6) → wt d ≤ 1048576 → uH w lo hi d xs →
    Calls Tryz.prog 84 #[.agg xs.toArray] w fun e w' => ∃ ys S, e = .returned (.agg ys.toArray) ∧ oH w' d ys S ∧ own2 S w.heap.size w'.heap.size ∧ Below w.heap.size w w' := by
  intro N
  induction N with
  | zero => intro d xs lo hi w hN; omega
  | succ N ihN =>
  intro d xs lo hi w hN ht hwt hx
  have HI := uhide ihN
  clear ihN
  obtain ⟨i0, hinf, hz0, hz1, hz2⟩ : ∃ i, Tryz.prog.info? 31 = some i ∧ i.zero = some (.agg #[.int .i64 0, .string ByteArray.empty, .int .i64 0, .slice none 0 0, .slice none 0 0]) ∧ i.size = 5 ∧ i.bytes ≤ 1000 := by
    have h := Tryz.infoUValue
    cases e : Tryz.prog.info? 31 with
    | none => rw [e] at h; cases h
    | some i => rw [e] at h; simp at h; exact ⟨i, rfl, h.1, h.2.1, h.2.2⟩
  have HCF : ∀ xs w, (callFunc 84 xs).run Tryz.prog w = .ok (.enter 84 xs) w := fun xs w => callFunc_enter Tryz.func84 (by kernel_rfl) (by kernel_rfl) xs w
  obtain ⟨j0, hjnf, hy0, hy1, hy2⟩ := infoU Tryz.infoStrU
  obtain ⟨z0, z1, z2, n3, c3, n4, c4, rfl, g0, g1, g2, g3, g4⟩ := partsValue ht
  obtain ⟨_, rfl, ⟨_, rfl, ⟨_, rfl, ⟨v3, _, rfl, s3, ⟨v4, _, rfl, s4, rfl⟩⟩⟩⟩⟩ := hx
  obtain ⟨a3, p3, rfl, t3⟩ := s3
  obtain ⟨a4, p4, rfl, t4⟩ := s4
  simp only [wt, wtP] at hwt
  simp only [uszD] at hN
  have h3 : uS w lo hi 1 n3 c3 (.slice a3 n3 p3) := ⟨_, _, rfl, t3⟩
  have H4 : Hid (uS w lo hi 5 n4 c4 (.slice a4 n4 p4)) := ⟨_, _, rfl, t4⟩
  have G4 := uhide g4
  have hn4 : n4 ≤ 1048576 := by omega
  have hn3 : n3 ≤ 1048576 := by omega
  have Hb : Hid (∀ q, q < n4 → (q + 1) * i0.bytes ≤ 140737488355328) := fun q hq => Nat.le_trans (Nat.mul_le_mul (show q + 1 ≤ 1048576 by omega) hz2) (by decide)
  have Hw : Hid (wt c4 ≤ 1048576 ∧ uszD c4 < N) := ⟨by omega, by omega⟩
  obtain ⟨news, m1, m2, m3, m4⟩ : ∃ news, news.length = n3 * 1 ∧ (∀ w', Below w.heap.size w w' → (Value.slice a3 n3 p3 = .slice none 0 0 ∧ n3 = 0) ∨ ∃ ad c, Value.slice a3 n3 p3 = .slice (some ad) n3 c ∧ ∀ j u, news[j]? = some u → w'.cell? (ad.add j) = some u) ∧ (∀ u ∈ news, u.oneCell' = true) ∧ ∀ w', oH w' c3 news [] := by
    cases a3 with
    | none =>
      have hp : p3 = 0 := t3.1.2.1 rfl
      have hn : n3 = 0 := by have := t3.1.1; omega
      subst hp hn
      have hc3 : c3 = .nil := by
        have := g3.2.2.2.1
        cases c3 with
        | nil => rfl
        | p v r => rw [UD.len_p] at this; omega
        | l k n cs r => rw [UD.len_l] at this; omega
      subst hc3
      exact ⟨[], rfl, fun w' hb => Or.inl ⟨rfl, rfl⟩, (fun u hu => by cases hu), fun w' => ⟨rfl, rfl⟩⟩
    | some ad =>
      obtain ⟨news, q1, q2, q3, q4⟩ := strs_news g3 h3
      refine ⟨news, q1, fun w' hb => Or.inr ⟨ad, p3, rfl, fun j u hj => ?_⟩, q3, q4⟩
      obtain ⟨news', e1, e2, e3, e4⟩ := strs_news g3 (h3.below hb)
      have hlt := World.block_lt_of_cell? _ _ (q2 j u hj)
      exact (hb.cell hlt).trans (q2 j u hj)
  have M1 := uhide m1
  have M2 := uhide m2
  have M3 := uhide m3
  have M4 := uhide m4
  clear m1 m2 m3 m4 h3 g3
  clear t3 t4 g0 g1 g2 g4 ht hwt hN hz2
  go_enter Tryz.func84, Tryz.ntmps84
  go_wp2
  have OA : Hid (objU ((w.alloc (.cells #[.int .i64 z0, .string z1, .int .i64 z2, .slice a3 n3 p3, .slice a4 n4 p4] 31)).alloc (.cells #[.int .i64 0, .string ⟨#[]⟩, .int .i64 0, .slice none 0 0, .slice none 0 0] 31)) w.heap.size 31 [.int .i64 z0, .string z1, .int .i64 z2, .slice a3 n3 p3, .slice a4 n4 p4]) := (objU.new2 _ _ rfl).old _
  have OR : Hid (objU ((w.alloc (.cells #[.int .i64 z0, .string z1, .int .i64 z2, .slice a3 n3 p3, .slice a4 n4 p4] 31)).alloc (.cells #[.int .i64 0, .string ⟨#[]⟩, .int .i64 0, .slice none 0 0, .slice none 0 0] 31)) (w.heap.size + 1) 31 [.int .i64 0, .string ⟨#[]⟩, .int .i64 0, .slice none 0 0, .slice none 0 0]) := objU.new2 _ _ (by simp)
  have HB : Hid (Below w.heap.size w ((w.alloc (.cells #[.int .i64 z0, .string z1, .int .i64 z2, .slice a3 n3 p3, .slice a4 n4 p4] 31)).alloc (.cells #[.int .i64 0, .string ⟨#[]⟩, .int .i64 0, .slice none 0 0, .slice none 0 0] 31))) := ((Below.refl _ _).alloc (Nat.le_refl _) _).alloc (by simp) _
  have HZ : Hid (((w.alloc (.cells #[.int .i64 z0, .string z1, .int .i64 z2, .slice a3 n3 p3, .slice a4 n4 p4] 31)).alloc (.cells #[.int .i64 0, .string ⟨#[]⟩, .int .i64 0, .slice none 0 0, .slice none 0 0] 31)).heap.size = w.heap.size + 1 + 1) := by show _ = _; simp
  generalize (w.alloc (.cells #[.int .i64 z0, .string z1, .int .i64 z2, .slice a3 n3 p3, .slice a4 n4 p4] 31)).alloc (.cells #[.int .i64 0, .string ⟨#[]⟩, .int .i64 0, .slice none 0 0, .slice none 0 0] 31) = wx at *
  have q0 := OA.out.cell 0 _ rfl
  have q1 := OA.out.cell 1 _ rfl
  have q2 := OA.out.cell 2 _ rfl
  have q3 := OA.out.cell 3 _ rfl
  have hV : w.heap.size < wx.heap.size := by have := HZ.out; omega
  go_cut [3] from 5 to 15 (fun s3 wc => ∃ (B : Nat) (a3n : Option Addr) (p3n : Nat) (S3 : List Nat), s3 = .pointer (some ⟨B, 0, none⟩) ∧ Hid (CpS w wc 31 [.int .i64 z0, .string z1, .int .i64 z2, .slice a3 n3 p3, .slice a4 n4 p4] [.int .i64 0, .string ⟨#[]⟩, .int .i64 0, .slice none 0 0, .slice none 0 0] [.int .i64 z0, .string z1, .int .i64 z2, .slice a3n n3 p3n, .slice none 0 0] n3 c3 (.slice a3n n3 p3n) B S3))
  case first =>
    have hne0 := World.new_ne wx ⟨w.heap.size, 0, none⟩ q0
    have hne1 := World.new_ne wx ⟨w.heap.size, 1, none⟩ q1
    have hne2 := World.new_ne wx ⟨w.heap.size, 2, none⟩ q2
    have hne3 := World.new_ne wx ⟨w.heap.size, 3, none⟩ q3
    go_region_held3? (fun w' => w'.cell? ⟨w.heap.size, 0, none⟩ = some (.int .i64 z0) ∧ w'.cell? ⟨w.heap.size, 1, none⟩ = some (.string z1) ∧ w'.cell? ⟨w.heap.size, 2, none⟩ = some (.int .i64 z2) ∧ w'.cell? ⟨w.heap.size, 3, none⟩ = some (.slice a3 n3 p3)) (first | go_keep | exact ⟨(((((KS.out.put 0 _).put 1 _).put 2 _).put 3 _).put 4 _).oa.cell 0 _ rfl, (((((KS.out.put 0 _).put 1 _).put 2 _).put 3 _).put 4 _).oa.cell 1 _ rfl, (((((KS.out.put 0 _).put 1 _).put 2 _).put 3 _).put 4 _).oa.cell 2 _ rfl, (((((KS.out.put 0 _).put 1 _).put 2 _).put 3 _).put 4 _).oa.cell 3 _ rfl⟩)
      ((refine step_append_list (by rfl) _ _ _ (by rfl) (w.heap.size + 1 + 1) 9 j0 _ 1 16 Tryz.underlying28 hjnf hy0 hy1 hy2 rfl (by decide) (.slice (some ⟨_, 0, none⟩) 0 0) 0 [] (by rfl) (by first | exact (empty_own (by simp) (by have := HZ.out; omega)).drew | exact ((empty_own (by simp) (by have := HZ.out; omega)).alloc _).drew) _ (by rfl) n3 news M1.out M3.out (M2.out _ (HB.out.trans (Below.mono (by repeat (first | with_reducible exact Below.refl _ _ | with_reducible refine Below.drew ?_ | with_reducible refine Below.alloc ?_ (by simp) _)) (Nat.le_of_lt hV)))) (by unfold maxLen; omega) (by omega) (by have := HZ.out; simp; omega) ?_
        intro v' w3 hown3 hgrow3 hat3
        rw [Nat.zero_add, List.nil_append] at hown3
        obtain ⟨a3n, p3n, rfl⟩ := uowns_slice hown3
        have KG : Hid (CpG w w3 31 [.int .i64 z0, .string z1, .int .i64 z2, .slice a3 n3 p3, .slice a4 n4 p4] [.int .i64 0, .string ⟨#[]⟩, .int .i64 0, .slice none 0 0, .slice none 0 0] n3 c3 (.slice a3n n3 p3n) (blkOf (.slice a3n n3 p3n))) := CpG.mk' OA.out OR.out HB.out (by repeat (first | with_reducible exact Below.refl _ _ | with_reducible refine Below.drew ?_ | with_reducible refine Below.alloc ?_ (by simp) _)) (fun g hg => by have hz' := HZ.out; have e := slot_blk hg; (try simp at e); omega) hown3 hgrow3 (M4.out w3)
        (first
          | (have KS : Hid (CpS w w3 31 [.int .i64 z0, .string z1, .int .i64 z2, .slice a3 n3 p3, .slice a4 n4 p4] [.int .i64 0, .string ⟨#[]⟩, .int .i64 0, .slice none 0 0, .slice none 0 0] [.int .i64 0, .string ⟨#[]⟩, .int .i64 0, .slice none 0 0, .slice none 0 0] n3 c3 (.slice a3n n3 p3n) wx.heap.size (blkOf (.slice a3n n3 p3n))) := KG.out.old (by have := HZ.out; omega) (((objU.new2 _ _ (by simp)).old _).dr) hgrow3 hat3 (fun g hg => by have hz' := HZ.out; have e := slot_blk hg; (try simp at e); omega)
             have b0 := KS.out.ob.cell 0 _ rfl
             have b1 := KS.out.ob.cell 1 _ rfl
             have b2 := KS.out.ob.cell 2 _ rfl
             have b3 := KS.out.ob.cell 3 _ rfl
             have b4 := KS.out.ob.cell 4 _ rfl
             have e0 := KS.out.ob.fz 0
             have e1 := KS.out.ob.fz 1
             have e2 := KS.out.ob.fz 2
             have e3 := KS.out.ob.fz 3
             have e4 := KS.out.ob.fz 4)
          | (have KS : Hid (CpS w w3 31 [.int .i64 z0, .string z1, .int .i64 z2, .slice a3 n3 p3, .slice a4 n4 p4] [.int .i64 0, .string ⟨#[]⟩, .int .i64 0, .slice none 0 0, .slice none 0 0] [.int .i64 0, .string ⟨#[]⟩, .int .i64 0, .slice none 0 0, .slice none 0 0] n3 c3 (.slice a3n n3 p3n) (wx.heap.size + 1) (blkOf (.slice a3n n3 p3n))) := KG.out.old (by have := HZ.out; omega) ((objU.new2 _ _ (by simp)).dr) hgrow3 hat3 (fun g hg => by have hz' := HZ.out; have e := slot_blk hg; (try simp at e); omega)
             have b0 := KS.out.ob.cell 0 _ rfl
             have b1 := KS.out.ob.cell 1 _ rfl
             have b2 := KS.out.ob.cell 2 _ rfl
             have b3 := KS.out.ob.cell 3 _ rfl
             have b4 := KS.out.ob.cell 4 _ rfl
             have e0 := KS.out.ob.fz 0
             have e1 := KS.out.ob.fz 1
             have e2 := KS.out.ob.fz 2
             have e3 := KS.out.ob.fz 3
             have e4 := KS.out.ob.fz 4)
          | skip)
        have t0 := KG.out.oa.cell 0 _ rfl
        have t1 := KG.out.oa.cell 1 _ rfl
        have t2 := KG.out.oa.cell 2 _ rfl
        have t3 := KG.out.oa.cell 3 _ rfl
        have n0 := World.new_ne w3 ⟨w.heap.size, 0, none⟩ t0
        have n1 := World.new_ne w3 ⟨w.heap.size, 1, none⟩ t1
        have n2 := World.new_ne w3 ⟨w.heap.size, 2, none⟩ t2
        have n3' := World.new_ne w3 ⟨w.heap.size, 3, none⟩ t3
        clear hown3 hgrow3 hat3))
    all_goals go_wp2_with fail
    all_goals go_meet
    all_goals first
      | exact ⟨_, _, _, _, rfl, KG.out.fresh _⟩
      | exact ⟨_, _, _, _, rfl, ((((KS.out.put 0 _).put 1 _).put 2 _).put 3 _).put 4 _⟩
  case rest =>
  obtain ⟨B, a3n, p3n, S3, rfl, G⟩ := hcut
  clear q0 q1 q2 q3 hV OA OR HB HZ M1 M2 M3 M4 hjnf hy0 hy1 hy2
  have HBW : Hid (B < wc.heap.size ∧ (∀ g ∈ S3, g < wc.heap.size) ∧ w.heap.size + 1 + 1 ≤ wc.heap.size) := ⟨G.out.ob.lt, fun g hg => (G.out.own.2 g hg).2, by have := G.out.le; have := G.out.ob.lt; omega⟩
  have W3 := uhide G.out.own
  have hGB := G.out.le
  go_wp2
  go_loopw [4] (fun i wr => ∃ (q : Nat) (s : Value), q ≤ n4 ∧ i = .int .i64 q ∧ Hid (AS wc.heap.size wr 31 5 s (c4.takeN (q * 5)) q) ∧ Hid (CpS w wr 31 [.int .i64 z0, .string z1, .int .i64 z2, .slice a3 n3 p3, .slice a4 n4 p4] [.int .i64 0, .string ⟨#[]⟩, .int .i64 0, .slice none 0 0, .slice none 0 0] [.int .i64 z0, .string z1, .int .i64 z2, .slice a3n n3 p3n, s] n3 c3 (.slice a3n n3 p3n) B S3) ∧ Hid (wc.heap.size ≤ wr.heap.size)) (fun i _ => n4 - (intOf i).toNat)
  case atStart => exact ⟨0, .slice none 0 0, Nat.zero_le _, rfl, by rw [Nat.zero_mul]; exact AS.nil _ _ _ _, G, Nat.le_refl _⟩
  case round =>
    clear G
    obtain ⟨q, s, hq, rfl, HA, HC, HS⟩ := hrel
    obtain ⟨sa, sc, rfl⟩ := HA.out.slice
    have v4 := HC.out.oa.cell 4 _ rfl
    have c4b := HC.out.ob.cell 4 _ rfl
    have f4b := HC.out.ob.fz 4
    by_cases hlt : q < n4
    · have hqi : (q : Int) < (n4 : Int) := by omega
      obtain ⟨b, off, rfl, hbk, hm⟩ := (H4.out.below HC.out.bel).cells (by omega)
      have htr := G4.out.row hlt
      have hwr : wt (rowU c4 5 q) ≤ 1048576 := by have := wt_row c4 5 q; have := Hw.out.1; omega
      have hsz : uszD (rowU c4 5 q) < N := by have := uszD_row c4 5 q; have := Hw.out.2; omega
      obtain ⟨xs, hh, hcl⟩ := (hm.row 5 q).hand
      have Hcon : Hid (∀ wx, Below wr.heap.size wr wx → Calls Tryz.prog 84 #[.agg xs.toArray] wx fun e w' => ∃ ys S, e = .returned (.agg ys.toArray) ∧ oH w' (rowU c4 5 q) ys S ∧ own2 S wx.heap.size w'.heap.size ∧ Below wx.heap.size wx w') := fun wx hb => HI.out _ xs lo hi wx hsz htr hwr (hh.below hb)
      have Htr := uhide htr
      obtain ⟨z0r, z1r, z2r, n3r, c3r, n4r, c4r, hR, g0, g1, g2, g3, g4⟩ := partsValue htr
      have HSH : Hid (∀ (w2 : World) ys S, oH w2 (rowU c4 5 q) ys S → ∃ a3s p3s a4s p4s, ys = [.int .i64 z0r, .string z1r, .int .i64 z2r, .slice a3s n3r p3s, .slice a4s n4r p4s]) := by
        intro w2 ys S h
        rw [hR] at h
        obtain ⟨_, rfl, ⟨_, rfl, ⟨_, rfl, ⟨v3, _, _, _, rfl, _, _, ⟨_, _, o3, _⟩, ⟨v4, _, _, _, rfl, _, _, ⟨_, _, o4, _⟩, ⟨rfl, _⟩⟩⟩⟩⟩⟩ := h
        obtain ⟨a3, p3, rfl⟩ := uowns_slice o3
        obtain ⟨a4, p4, rfl⟩ := uowns_slice o4
        exact ⟨_, _, _, _, rfl⟩
      have Hrow := uhide (UD.take_row c4 5 q)
      have Hrl := uhide (rowU_len c4 5 q n4 G4.out.2.2.2.1 hlt)
      rw [hR] at hh
      obtain ⟨_, rfl, ⟨_, rfl, ⟨_, rfl, ⟨v3r, _, rfl, s3r, ⟨v4r, _, rfl, s4r, rfl⟩⟩⟩⟩⟩ := hh
      obtain ⟨a3r, p3r, rfl, t3r⟩ := s3r
      obtain ⟨a4r, p4r, rfl, t4r⟩ := s4r
      have q0 : wr.cell? ⟨b, off + q * 5, none⟩ = some (.int .i64 z0r) := hcl 0 _ rfl
      have q1 : wr.cell? ⟨b, off + q * 5 + 1, none⟩ = some (.string z1r) := hcl 1 _ rfl
      have q2 : wr.cell? ⟨b, off + q * 5 + 2, none⟩ = some (.int .i64 z2r) := hcl 2 _ rfl
      have q3 : wr.cell? ⟨b, off + q * 5 + 3, none⟩ = some (.slice a3r n3r p3r) := hcl 3 _ rfl
      have q4 : wr.cell? ⟨b, off + q * 5 + 4, none⟩ = some (.slice a4r n4r p4r) := hcl 4 _ rfl
      clear hR hcl hm htr hwr hsz g0 g1 g2 g3 g4 t3r t4r
      have hbq := Hb.out q hlt
      have v4 := HC.out.oa.cell 4 _ rfl
      go_wp2
      go_region_law (first
        | (refine step_call_of (by rfl) 84 _ _ (by rfl) HCF #[.agg #[.int .i64 z0r, .string z1r, .int .i64 z2r, .slice a3r n3r p3r, .slice a4r n4r p4r]] (by simp [Act.eval]) (Hcon.out _ (by repeat (first | with_reducible exact Below.refl _ _ | with_reducible refine Below.drew ?_))) ?_
           rintro e w2 ⟨ys, S, rfl, ho, hS, hb2⟩
           obtain ⟨a3s, p3s, a4s, p4s, rfl⟩ := HSH.out _ _ _ ho
           refine ⟨_, rfl, ?_⟩
           have HW2 : Hid (Below wr.heap.size wr w2) := (show Below wr.heap.size wr wr.drew from (Below.refl _ _).drew).trans (hb2.mono (by simp))
           have hS' : own2 S wr.heap.size w2.heap.size := hS.mono (by simp) (Nat.le_refl _)
           obtain ⟨hlen, xs0, S0, how0, hoh0, hS0, hne⟩ := HA.out
           have hvb := fun g hg => (ublk_lt how0 g hg).2
           have how := uowns_frame how0 (fun x hx => HW2.out.block x (ublk_lt how0 x hx).2)
           have How := uhide how
           have HD := uhide (And.intro hlen (And.intro (hoh0.below HW2.out) (And.intro hS0 (And.intro hne hvb))))
           have Ho := uhide ho
           have HSS := uhide hS'
           have Hone := uhide (one_cell Htr.out (ho.hand hS.2))
           have HC2 : Hid (CpS w w2 31 [.int .i64 z0, .string z1, .int .i64 z2, .slice a3 n3 p3, .slice (some ⟨b, off, none⟩) n4 p4] [.int .i64 0, .string ⟨#[]⟩, .int .i64 0, .slice none 0 0, .slice none 0 0] [.int .i64 z0, .string z1, .int .i64 z2, .slice a3n n3 p3n, .slice sa q sc] n3 c3 (.slice a3n n3 p3n) B S3) := HC.out.step HW2.out (by have := HBW.out.1; have := HS.out; omega) (fun g hg => by have := HBW.out.2.1 g hg; have := HS.out; omega)
           have HS2 : Hid (wc.heap.size ≤ w2.heap.size) := Nat.le_trans HS.out HW2.out.size
           have d4 := HC2.out.ob.cell 4 _ rfl
           have e4 := HC2.out.ob.fz 4
           have d5 : ∀ o, (w2.alloc o).cell? ⟨B, 4, none⟩ = some (.slice sa q sc) := fun o => (HC2.out.ob.old o).cell 4 _ rfl
           have nb : ¬ B = w2.heap.size := Nat.ne_of_lt HC2.out.ob.lt
           have nb' : ¬ w2.heap.size = B := fun e => nb e.symm
           clear ho hS hS' hb2 hlen how0 hoh0 hS0 hne hvb how q0 q1 q2 q3 q4 HA)
        | (refine step_append_lies _ rfl (.tmp 24) (.tmp 31) 29 rfl wc.heap.size 31 i0 _ 5 i0.bytes Tryz.underlying29 hinf hz0 hz1 rfl rfl (by decide) (.slice sa q sc) q _ (by simp [Act.eval]) (How.out.alloc _) ⟨w2.heap.size, 0, none⟩ 1 1 [.int .i64 z0r, .string z1r, .int .i64 z2r, .slice a3s n3r p3s, .slice a4s n4r p4s] (by simp [Act.eval]) rfl (cells_new w2 _ _) Hone.out (by decide) (by unfold maxLen; omega) hbq (by have := HS2.out; simp; omega) _ rfl ?_
           intro g cap w3 hown3 hgrow3 hat3 hlt3
           have HA3 : Hid (AS wc.heap.size w3 31 5 (.slice (some ⟨g, 0, none⟩) (q + 1) cap) (c4.takeN ((q + 1) * 5)) (q + 1)) := by
             show AS _ _ _ _ _ _ _
             rw [Hrow.out]
             obtain ⟨hlen, hoh, hS0, hne, hvb⟩ := HD.out
             exact AS.snoc (b0 := wr.heap.size) hlen (How.out.alloc _) (hoh.below ((Below.refl _ _).alloc (Nat.le_refl _) _)) hS0 hne hvb (Ho.out.below ((Below.refl _ _).alloc (Nat.le_refl _) _)) (HSS.out.mono (Nat.le_refl _) (by simp)) HS.out (by have := HW2.out.size; simp; omega) Hrl.out hown3 hgrow3 hat3
           have HG : Hid (Below wc.heap.size w2 w3) := ((Below.refl _ _).alloc HS2.out _).trans (Below.grown (Below.refl _ _) hgrow3 (by have := HS2.out; simp; omega) (fun k hk => (uowns_blk How.out hk).1))
           have HC3 : Hid (CpS w w3 31 [.int .i64 z0, .string z1, .int .i64 z2, .slice a3 n3 p3, .slice (some ⟨b, off, none⟩) n4 p4] [.int .i64 0, .string ⟨#[]⟩, .int .i64 0, .slice none 0 0, .slice none 0 0] [.int .i64 z0, .string z1, .int .i64 z2, .slice a3n n3 p3n, .slice sa q sc] n3 c3 (.slice a3n n3 p3n) B S3) := HC2.out.step HG.out HBW.out.1 HBW.out.2.1
           have HS3 : Hid (wc.heap.size ≤ w3.heap.size) := Nat.le_trans HS2.out HG.out.size
           have m4 := HC3.out.ob.cell 4 _ rfl
           have o4 := HC3.out.ob.fz 4
           clear hown3 hgrow3 hat3 hlt3 HG HD Ho HSS Hone How))
      all_goals go_wp2
      all_goals go_roundw
      all_goals first
        | (case rel => exact ⟨q + 1, _, by omega, by go_num, HA3.out.put _ HBW.out.1 _, HC3.out.put 4 _, by have := HS3.out; show _ ≤ _; simp; omega⟩)
        | (case measure => (simp [intOf]; omega))
    · have e : q = n4 := by omega
      subst e
      have hall : c4.takeN (q * 5) = c4 := by apply UD.ext; unfold UD.takeN; rw [UD.toL_ofL]; exact List.take_of_length_le (Nat.le_of_eq G4.out.2.2.2.1)
      obtain ⟨S4, k4', w4'⟩ := HA.out.done (by decide) HS.out
      rw [hall] at k4'
      have K4 := uhide k4'
      have W4 := uhide w4'
      clear HA k4' w4' hall HI Hb Hw H4 hlt hq c4b f4b
      have o0 := HC.out.ob.cell 0 _ rfl
      have o1 := HC.out.ob.cell 1 _ rfl
      have o2 := HC.out.ob.cell 2 _ rfl
      have o3 := HC.out.ob.cell 3 _ rfl
      have o4 := HC.out.ob.cell 4 _ rfl
      have r0 := HC.out.oz.cell 0 _ rfl
      have r1 := HC.out.oz.cell 1 _ rfl
      have r2 := HC.out.oz.cell 2 _ rfl
      have r3 := HC.out.oz.cell 3 _ rfl
      have r4 := HC.out.oz.cell 4 _ rfl
      have k0 : wr.frozen? ⟨w.heap.size + 1, 0, none⟩ = false := HC.out.oz.fz 0
      have k1 : wr.frozen? ⟨w.heap.size + 1, 1, none⟩ = false := HC.out.oz.fz 1
      have k2 : wr.frozen? ⟨w.heap.size + 1, 2, none⟩ = false := HC.out.oz.fz 2
      have k3 : wr.frozen? ⟨w.heap.size + 1, 3, none⟩ = false := HC.out.oz.fz 3
      have k4 : wr.frozen? ⟨w.heap.size + 1, 4, none⟩ = false := HC.out.oz.fz 4
      go_wp2
      refine bodyPost_ret (v := .agg #[.int .i64 z0, .string z1, .int .i64 z2, .slice a3n n3 p3n, .slice sa q sc]) ?_ rfl ⟨[.int .i64 z0, .string z1, .int .i64 z2, .slice a3n n3 p3n, .slice sa q sc], S3 ++ (S4 ++ []), rfl, ?_, ?_, ?_⟩
      · simp [results, Tryz.results84, go_sem, r0, r1, r2, r3, r4]
      · exact oH.consP _ (oH.consP _ (oH.consP _ (oH.consS (HC.out.row.outs (T := [w.heap.size + 1]) (by repeat (first | with_reducible exact OutS.refl _ _ | with_reducible refine OutS.setCell ?_ (show _ ∈ [w.heap.size + 1] by simp) _)) W3.out (fun x hx => by simp at hx; omega)) (oH.consS (K4.out.outs (T := [w.heap.size + 1]) (by repeat (first | with_reducible exact OutS.refl _ _ | with_reducible refine OutS.setCell ?_ (show _ ∈ [w.heap.size + 1] by simp) _)) W4.out (fun x hx => by have := HBW.out.2.2; simp at hx; omega)) (oH.nil _)))))
      · have h34 : own2 (S3 ++ S4) (w.heap.size + 1 + 1) wr.heap.size := own2.app W3.out W4.out (Nat.le_refl _) HBW.out.2.2 HS.out
        rw [List.append_nil]
        exact h34.mono (by omega) (by simp)
      · repeat (first | with_reducible exact HC.out.bel | with_reducible refine Below.setCell ?_ (by simp <;> omega) _)
end Go.Proofs.YtamlgjmboljcdaaGreat
