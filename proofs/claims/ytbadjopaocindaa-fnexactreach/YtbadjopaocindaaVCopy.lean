/- Values copied by the program: impl.copyOfRight, in memory of its own. -/
import Derived.Test.YtbadjopaocindaaUTValue
import Derived.Test.YtbadjopaocindaaU4
import Derived.Laws.AppendOwnNone
namespace Go.Proofs.Ytbadjopaocindaa
open Go.RowKit Go.BigFrame
set_option linter.unusedVariables false

theorem strs_news {w : World} {lo hi : Nat} {n : Nat} {c : UD} {ad : Addr} {cap : Nat} (ht : tyS 1 n c 0) (h : uS w lo hi 1 n c (.slice (some ad) n cap)) :
    ∃ news, news.length = n * 1 ∧ (∀ j u, news[j]? = some u → w.cell? (ad.add j) = some u) ∧ (∀ u ∈ news, u.oneCell' = true) ∧ ∀ w', oH w' c news [] := by
  have hp : ∀ f ∈ uE 0, ∀ k t, f ≠ .l k t := by intro f hf k t e; subst e; simp [uE] at hf
  rcases Nat.eq_zero_or_pos n with h0 | hpos
  · subst h0
    have hc : c = .nil := by
      have := ht.2.2.2.1
      cases c with
      | nil => rfl
      | p v r => rw [UD.len_p] at this; omega
      | l k n cs r => rw [UD.len_l] at this; omega
    subst hc
    exact ⟨[], rfl, (fun j u hj => by simp at hj), (fun u hu => by cases hu), fun w' => ⟨rfl, rfl⟩⟩
  · obtain ⟨b, off, e, _, hm⟩ := h.cells hpos
    cases e
    obtain ⟨xs, h1, h2⟩ := hm.list
    refine ⟨xs, by rw [h1.len, ht.2.2.2.1], h2, ?_, fun w' => plain_own hp ht.2.2.2.2 h1⟩
    have ht5 := ht.2.2.2.2
    clear h2 hm h
    have key : ∀ (d : UD) (ys : List Value) (i : Nat), tyU d (uE 0) i → uH w lo hi d ys → ∀ u ∈ ys, u.oneCell' = true := by
      intro d
      induction d with
      | nil => intro ys i _ h u hu; rw [show ys = [] from h] at hu; cases hu
      | p v r ih =>
        intro ys i ⟨⟨f, hf, hv⟩, h2⟩ ⟨zs, e, h⟩ u hu
        subst e
        rcases List.mem_cons.1 hu with rfl | hu
        · cases f with
          | i k => obtain ⟨z, rfl, _⟩ := hv; rfl
          | s => obtain ⟨z, rfl, _⟩ := hv; rfl
          | b => obtain ⟨z, rfl⟩ := hv; rfl
          | l k t => cases hv
        · exact ih zs (i + 1) h2 h u hu
      | l k n cs r ih1 ih2 =>
        intro ys i ⟨⟨t, hf, _⟩, _⟩ _
        exact (hp _ (List.mem_of_getElem? hf) k t rfl).elim
    exact key c xs 0 ht5 h1
theorem own2_blk {w : World} {B n : Nat} {v : Value} {e : TypeId} {size : Nat} {xs : List Value} (h : w.ownsRow B e size v n xs) : own2 (blkOf v) B w.heap.size := by
  refine ⟨?_, ublk_lt h⟩
  unfold blkOf
  split
  · simp
  · exact List.nodup_nil
theorem oS_flat {w : World} {B k n : Nat} {v : Value} {e : TypeId} {xs : List Value} {cs : UD} (hk : 0 < k) (h : w.ownsRow B e k v n xs) (ho : oH w cs xs []) : oS w k n cs v (blkOf v) := by
  refine ⟨hk, e, xs, [], ⟨h.1, ?_⟩, ho, by simp⟩
  rcases h.2 with hh | ⟨g, cap, cur, a1, a2, a3⟩
  · exact .inl hh
  · exact .inr ⟨g, cap, cur, a1, Nat.zero_le _, a3⟩
theorem Try.infoStrU : (Try.prog.info? 9).map (fun i => (i.zero, i.size, i.bytes)) = some (some (.string ByteArray.empty), 1, 16) := by kernel_rfl
set_option maxRecDepth 20000 in
set_option maxHeartbeats 3200000 in
theorem copyOfRight_N : ∀ (N : Nat) (d : UD) (xs : List Value) (lo hi : Nat) (w : World), uszD d < N → tyL d (uE 6) → wt d ≤ 1048576 → uH w lo hi d xs →
    Calls Try.prog 65 #[.agg xs.toArray] w fun e w' => ∃ ys S, e = .returned (.agg ys.toArray) ∧ oH w' d ys S ∧ own2 S w.heap.size w'.heap.size ∧ Below w.heap.size w w' := by
  intro N
  induction N with
  | zero => intro d xs lo hi w hN; omega
  | succ N ihN =>
  intro d xs lo hi w hN ht hwt hx
  have HI := uhide ihN
  clear ihN
  obtain ⟨i0, hinf, hz0, hz1, hz2⟩ : ∃ i, Try.prog.info? 36 = some i ∧ i.zero = some (.agg #[.int .i64 0, .string ByteArray.empty, .int .i64 0, .slice none 0 0, .slice none 0 0]) ∧ i.size = 5 ∧ i.bytes ≤ 1000 := by
    have h := Try.infoUValue
    cases e : Try.prog.info? 36 with
    | none => rw [e] at h; cases h
    | some i => rw [e] at h; simp at h; exact ⟨i, rfl, h.1, h.2.1, h.2.2⟩
  obtain ⟨j0, hjnf, hy0, hy1, hy2⟩ := infoU Try.infoStrU
  obtain ⟨z0, z1, z2, n3, c3, n4, c4, rfl, g0, g1, g2, g3, g4⟩ := partsValue ht
  obtain ⟨_, rfl, ⟨_, rfl, ⟨_, rfl, ⟨v3, _, rfl, s3, ⟨v4, _, rfl, s4, rfl⟩⟩⟩⟩⟩ := hx
  obtain ⟨a3, p3, rfl, t3⟩ := s3
  obtain ⟨a4, p4, rfl, t4⟩ := s4
  simp only [wt, wtP] at hwt
  simp only [uszD] at hN
  have H3 : Hid (uS w lo hi 1 n3 c3 (.slice a3 n3 p3)) := ⟨_, _, rfl, t3⟩
  have H4 : Hid (uS w lo hi 5 n4 c4 (.slice a4 n4 p4)) := ⟨_, _, rfl, t4⟩
  have G3 := uhide g3
  have G4 := uhide g4
  have hn4 : n4 ≤ 1048576 := by omega
  have hn3 : n3 ≤ 1048576 := by omega
  have Hb : Hid (∀ q, q < n4 → (q + 1) * i0.bytes ≤ 140737488355328) := fun q hq => Nat.le_trans (Nat.mul_le_mul (show q + 1 ≤ 1048576 by omega) hz2) (by decide)
  have Hw : Hid (wt c4 ≤ 1048576 ∧ uszD c4 < N) := ⟨by omega, by omega⟩
  clear t3 t4 g0 g1 g2 g3 g4 ht hwt hN hz2
  go_enter Try.func65, Try.ntmps65
  go_wp2
  go_loopw [3, 9] (fun s i wr => ∃ (q : Nat), q ≤ n4 ∧ i = .int .i64 q ∧ Hid (AS (w.heap.size + 1 + 1) wr 36 5 s (c4.takeN (q * 5)) q) ∧
      Hid (objU wr w.heap.size 36 [.int .i64 z0, .string z1, .int .i64 z2, .slice a3 n3 p3, .slice a4 n4 p4]) ∧ Hid (objU wr (w.heap.size + 1) 36 [.int .i64 0, .string ⟨#[]⟩, .int .i64 0, .slice none 0 0, .slice none 0 0]) ∧ Hid (Below w.heap.size w wr)) (fun _ i _ => n4 - (intOf i).toNat)
  case atStart => exact ⟨0, Nat.zero_le _, rfl, by rw [Nat.zero_mul]; exact AS.nil _ _ _ _, (objU.new2 _ _ rfl).old _, objU.new2 _ _ (by simp), ((Below.refl _ _).alloc (Nat.le_refl _) _).alloc (by simp) _⟩
  case round =>
    obtain ⟨q, hq, rfl, HA, OA, OR, HB⟩ := hrel
    by_cases hlt : q < n4
    · obtain ⟨b, off, rfl, hbk, hm⟩ := (H4.out.below HB.out).cells (by omega)
      have htr := G4.out.row hlt
      have hwr : wt (rowU c4 5 q) ≤ 1048576 := by have := wt_row c4 5 q; have := Hw.out.1; omega
      have hsz : uszD (rowU c4 5 q) < N := by have := uszD_row c4 5 q; have := Hw.out.2; omega
      obtain ⟨xs, hh, hcl⟩ := (hm.row 5 q).hand
      have Hcon : Hid (∀ wx, Below wr.heap.size wr wx → Calls Try.prog 65 #[.agg xs.toArray] wx fun e w' => ∃ ys S, e = .returned (.agg ys.toArray) ∧ oH w' (rowU c4 5 q) ys S ∧ own2 S wx.heap.size w'.heap.size ∧ Below wx.heap.size wx w') := fun wx hb => HI.out _ xs lo hi wx hsz htr hwr (hh.below hb)
      have Htr := uhide htr
      obtain ⟨z0r, z1r, z2r, n3r, c3r, n4r, c4r, hR, g0, g1, g2, g3, g4⟩ := partsValue htr
      have HSH : Hid (∀ (w2 : World) ys S, oH w2 (rowU c4 5 q) ys S → ∃ a3s p3s a4s p4s, ys = [.int .i64 z0r, .string z1r, .int .i64 z2r, .slice a3s n3r p3s, .slice a4s n4r p4s]) := by
        intro w2 ys S h
        rw [hR] at h
        obtain ⟨_, rfl, ⟨_, rfl, ⟨_, rfl, ⟨v3, _, _, _, rfl, _, _, ⟨_, _, o3, _⟩, ⟨v4, _, _, _, rfl, _, _, ⟨_, _, o4, _⟩, ⟨rfl, _⟩⟩⟩⟩⟩⟩ := h
        obtain ⟨a3, p3, rfl⟩ := uowns_slice o3
        obtain ⟨a4, p4, rfl⟩ := uowns_slice o4
        exact ⟨_, _, _, _, rfl⟩
      have Hrow := uhide (UD.take_row c4 5 q)
      have Hrl := uhide (rowU_len c4 5 q n4 G4.out.2.2.2.1 hlt)
      rw [hR] at hh
      obtain ⟨_, rfl, ⟨_, rfl, ⟨_, rfl, ⟨v3r, _, rfl, s3r, ⟨v4r, _, rfl, s4r, rfl⟩⟩⟩⟩⟩ := hh
      obtain ⟨a3r, p3r, rfl, t3r⟩ := s3r
      obtain ⟨a4r, p4r, rfl, t4r⟩ := s4r
      have q0 : wr.cell? ⟨b, off + q * 5, none⟩ = some (.int .i64 z0r) := hcl 0 _ rfl
      have q1 : wr.cell? ⟨b, off + q * 5 + 1, none⟩ = some (.string z1r) := hcl 1 _ rfl
      have q2 : wr.cell? ⟨b, off + q * 5 + 2, none⟩ = some (.int .i64 z2r) := hcl 2 _ rfl
      have q3 : wr.cell? ⟨b, off + q * 5 + 3, none⟩ = some (.slice a3r n3r p3r) := hcl 3 _ rfl
      have q4 : wr.cell? ⟨b, off + q * 5 + 4, none⟩ = some (.slice a4r n4r p4r) := hcl 4 _ rfl
      clear hR hcl hm htr hwr hsz g0 g1 g2 g3 g4 t3r t4r
      go_wp2_with fail
      refine (Hcon.out _ (by repeat (first | with_reducible exact Below.refl _ _ | with_reducible refine Below.alloc ?_ (by simp) _))).mono ?_
      rintro e w2 ⟨ys, S, rfl, ho, hS, hb2⟩
      obtain ⟨a3s, p3s, a4s, p4s, rfl⟩ := HSH.out _ _ _ ho
      have HW2 : Hid (Below wr.heap.size wr w2) := ((Below.refl _ _).alloc (Nat.le_refl _) _).trans (hb2.mono (by simp))
      have hS' : own2 S wr.heap.size w2.heap.size := hS.mono (by simp) (Nat.le_refl _)
      obtain ⟨hlen, xs0, S0, how0, hoh0, hS0, hne⟩ := HA.out
      have hvb := fun g hg => (ublk_lt how0 g hg).2
      have how := uowns_frame how0 (fun x hx => HW2.out.block x (ublk_lt how0 x hx).2)
      have How := uhide how
      have HD := uhide (And.intro hlen (And.intro (hoh0.below HW2.out) (And.intro hS0 (And.intro hne hvb))))
      have Ho := uhide ho
      have HS := uhide hS'
      have Hone := uhide (one_cell Htr.out (ho.hand hS.2))
      have hbase : w.heap.size + 1 + 1 ≤ w2.heap.size := by have := OR.out.lt; have := HW2.out.size; omega
      have Hbase := uhide hbase
      have hbq := Hb.out q hlt
      clear ho hS hS' hb2 hlen how0 hoh0 hS0 hne hvb how q0 q1 q2 q3 q4 HA hbase
      go_wp2_with (at_builtin; refine wpList_append_lies _ rfl _ _ 34 rfl (w.heap.size + 1 + 1) 36 i0 _ 5 i0.bytes Try.underlying34 hinf hz0 hz1 rfl rfl (by decide) _ _ _ rfl (How.out.alloc _) ⟨w2.heap.size, 0, none⟩ 1 1 [.int .i64 z0r, .string z1r, .int .i64 z2r, .slice a3s n3r p3s, .slice a4s n4r p4s] rfl rfl (cells_new _ _ _) Hone.out (by decide) (by unfold maxLen; omega) hbq (by have := Hbase.out; simp; omega) _ rfl ?_; intro g cap w3 hown3 hgrow3 hat3 hlt3)
      have HA3 : Hid (AS (w.heap.size + 1 + 1) w3 36 5 (.slice (some ⟨g, 0, none⟩) (q + 1) cap) (c4.takeN ((q + 1) * 5)) (q + 1)) := by
        show AS _ _ _ _ _ _ _
        rw [Hrow.out]
        obtain ⟨hlen, hoh, hS0, hne, hvb⟩ := HD.out
        exact AS.snoc (b0 := wr.heap.size) hlen (How.out.alloc _) (hoh.below ((Below.refl _ _).alloc (Nat.le_refl _) _)) hS0 hne hvb (Ho.out.below ((Below.refl _ _).alloc (Nat.le_refl _) _)) (HS.out.mono (Nat.le_refl _) (by simp)) (by have := OR.out.lt; omega) (by have := HW2.out.size; simp; omega) Hrl.out hown3 hgrow3 hat3
      have HG : Hid (Below (w.heap.size + 1 + 1) (w2.alloc (.cells #[.int .i64 z0r, .string z1r, .int .i64 z2r, .slice a3s n3r p3s, .slice a4s n4r p4s] 36)) w3) := Below.grown (Below.refl _ _) hgrow3 (by have := Hbase.out; simp; omega) (fun k hk => (uowns_blk How.out hk).1)
      have HB3 : Hid (Below (w.heap.size + 1 + 1) wr w3) := ((HW2.out.mono (by have := OR.out.lt; omega)).alloc (by have := Hbase.out; omega) _).trans HG.out
      have OA3 : Hid (objU w3 w.heap.size 36 [.int .i64 z0, .string z1, .int .i64 z2, .slice a3 n3 p3, .slice (some ⟨b, off, none⟩) n4 p4]) := (HB3.out.block w.heap.size (by omega)).trans OA.out
      have OR3 : Hid (objU w3 (w.heap.size + 1) 36 [.int .i64 0, .string ⟨#[]⟩, .int .i64 0, .slice none 0 0, .slice none 0 0]) := (HB3.out.block (w.heap.size + 1) (by omega)).trans OR.out
      have HBB : Hid (Below w.heap.size w w3) := HB.out.trans (HB3.out.mono (by omega))
      clear hown3 hgrow3 hat3 hlt3 HG HB3 HD Ho HS Hone How OA OR HB hbq
      go_wp2
      go_roundw
      case rel => exact ⟨q + 1, by omega, by go_num, HA3, OA3, OR3, HBB⟩
      case measure => simp [intOf]; omega
    · have e : q = n4 := by omega
      subst e
      obtain ⟨a4n, p4n, rfl⟩ := HA.out.slice
      have hall : c4.takeN (q * 5) = c4 := by apply UD.ext; unfold UD.takeN; rw [UD.toL_ofL]; exact List.take_of_length_le (Nat.le_of_eq G4.out.2.2.2.1)
      obtain ⟨S4, k4', w4'⟩ := HA.out.done (by decide) (by have := OR.out.lt; omega)
      rw [hall] at k4'
      have K4 := uhide k4'
      have W4 := uhide w4'
      have q3 := OA.out.cell 3 _ rfl
      have q4 := OA.out.cell 4 _ rfl
      clear HA k4' w4' hall HI Hb Hw H4 hlt hq
      cases a3 with
      | none =>
        obtain ⟨a, cap, e, h1, h2⟩ := H3.out
        cases e
        have hp : p3 = 0 := h1.2.1 rfl
        have hn : n3 = 0 := by have := h1.1; omega
        subst hp hn
        have hc3 : c3 = .nil := by
          have := G3.out.2.2.2.1
          cases c3 with
          | nil => rfl
          | p v r => rw [UD.len_p] at this; omega
          | l k n cs r => rw [UD.len_l] at this; omega
        subst hc3
        clear h1 h2
        have K3 : Hid (oS wr 1 0 .nil (.slice none 0 0) []) := ⟨by decide, 9, [], [], World.ownsRow_nil _ _ _ _, ⟨rfl, rfl⟩, rfl⟩
        have W3 : Hid (own2 [] wr.heap.size wr.heap.size) := own2.nil _ _
        have HB3 : Hid (Below wr.heap.size wr wr) := Below.refl _ _
        have K4 := uhide (K4.out.below HB3.out)
        have OA3 := uhide (OA.out.below HB3.out)
        have OR3 := uhide (OR.out.below HB3.out)
        have HBB : Hid (Below w.heap.size w wr) := HB.out.trans (HB3.out.mono HB.out.size)
        have hz1 : w.heap.size + 1 < wr.heap.size := OR.out.lt
        have hz2 : wr.heap.size ≤ wr.heap.size := HB3.out.size
        have HZ := uhide (And.intro hz1 hz2)
        clear HB3 OA OR HB hz1 hz2
        have o0 := OA3.out.cell 0 _ rfl
        have o1 := OA3.out.cell 1 _ rfl
        have o2 := OA3.out.cell 2 _ rfl
        have o3 := OA3.out.cell 3 _ rfl
        have o4 := OA3.out.cell 4 _ rfl
        have f3 : wr.frozen? ⟨w.heap.size, 3, none⟩ = false := OA3.out.fz 3
        have f4 : wr.frozen? ⟨w.heap.size, 4, none⟩ = false := OA3.out.fz 4
        have r0 := OR3.out.cell 0 _ rfl
        have r1 := OR3.out.cell 1 _ rfl
        have r2 := OR3.out.cell 2 _ rfl
        have r3 := OR3.out.cell 3 _ rfl
        have r4 := OR3.out.cell 4 _ rfl
        have k0 : wr.frozen? ⟨w.heap.size + 1, 0, none⟩ = false := OR3.out.fz 0
        have k1 : wr.frozen? ⟨w.heap.size + 1, 1, none⟩ = false := OR3.out.fz 1
        have k2 : wr.frozen? ⟨w.heap.size + 1, 2, none⟩ = false := OR3.out.fz 2
        have k3 : wr.frozen? ⟨w.heap.size + 1, 3, none⟩ = false := OR3.out.fz 3
        have k4 : wr.frozen? ⟨w.heap.size + 1, 4, none⟩ = false := OR3.out.fz 4
        go_wp2_with (at_builtin; refine wpList_append_own_none rfl _ _ 31 rfl wr.heap.size 9 j0 1 Try.underlying31 hjnf _ _ _ rfl (World.ownsRow_nil _ _ _ _) rfl ?_)
        refine bodyPost_ret (v := .agg #[.int .i64 z0, .string z1, .int .i64 z2, .slice none 0 0, .slice a4n q p4n]) ?_ rfl ⟨[.int .i64 z0, .string z1, .int .i64 z2, .slice none 0 0, .slice a4n q p4n], ([] : List Nat) ++ (S4 ++ []), rfl, ?_, ?_, ?_⟩
        · simp [results, Try.results65, go_sem, r0, r1, r2, r3, r4]
        · exact oH.consP _ (oH.consP _ (oH.consP _ (oH.consS (K3.out.outs (T := [w.heap.size, w.heap.size + 1]) (by repeat (first | with_reducible exact OutS.refl _ _ | with_reducible refine OutS.setCell ?_ (show _ ∈ [w.heap.size, w.heap.size + 1] by simp) _)) W3.out (fun x hx => by have := HZ.out; simp at hx; omega)) (oH.consS (K4.out.outs (T := [w.heap.size, w.heap.size + 1]) (by repeat (first | with_reducible exact OutS.refl _ _ | with_reducible refine OutS.setCell ?_ (show _ ∈ [w.heap.size, w.heap.size + 1] by simp) _)) W4.out (fun x hx => by simp at hx; omega)) (oH.nil _)))))
        · have h34 : own2 (S4 ++ ([] : List Nat)) (w.heap.size + 1 + 1) wr.heap.size := own2.app W4.out W3.out (Nat.le_refl _) (by have := HZ.out; omega) HZ.out.2
          refine ⟨?_, fun g hg => ?_⟩
          · rw [List.append_nil]
            have := h34.1
            rw [List.nodup_append] at this ⊢
            exact ⟨this.2.1, this.1, fun a ha b hb hab => this.2.2 b hb a ha hab.symm⟩
          · have h1 : g ∈ S4 ++ ([] : List Nat) := by simp at hg ⊢; first | exact hg | exact hg.symm
            have := h34.2 g h1
            simp
            omega
        · repeat (first | with_reducible exact HBB.out | with_reducible refine Below.setCell ?_ (by simp <;> omega) _)
      | some ad =>
        obtain ⟨news, m1, m2, m3, m4⟩ := strs_news G3.out (H3.out.below HB.out)
        have M1 := uhide m1
        have M2 := uhide m2
        have M3 := uhide m3
        have M4 := uhide m4
        clear m1 m2 m3 m4 H3
        go_wp2_with (at_builtin; refine wpList_append_own _ rfl _ _ 31 rfl wr.heap.size 9 j0 _ 1 16 Try.underlying31 hjnf hy0 hy1 hy2 rfl (by decide) _ _ _ rfl (World.ownsRow_nil _ _ _ _) ad n3 p3 news rfl M1.out M2.out M3.out (by unfold maxLen; omega) (by omega) (Nat.le_refl _) ?_; intro v' w3 hown3 hgrow3 hnil3; rw [Nat.zero_add, List.nil_append] at hown3; obtain ⟨a3n, p3n, rfl⟩ := uowns_slice hown3; have W3 : Hid (own2 (blkOf (.slice a3n n3 p3n)) wr.heap.size w3.heap.size) := own2_blk hown3; have HB3 : Hid (Below wr.heap.size wr w3) := Below.grown (Below.refl _ _) hgrow3 (Nat.le_refl _) (fun k hk => (by cases hk)); have K3 : Hid (oS w3 1 n3 c3 (.slice a3n n3 p3n) (blkOf (.slice a3n n3 p3n))) := oS_flat (by decide) hown3 (M4.out w3); clear hown3 hgrow3 hnil3; have K4 := uhide (K4.out.below HB3.out); have OA3 := uhide (OA.out.below HB3.out); have OR3 := uhide (OR.out.below HB3.out); have HBB : Hid (Below w.heap.size w w3) := HB.out.trans (HB3.out.mono HB.out.size); have hz1 : w.heap.size + 1 < wr.heap.size := OR.out.lt; have hz2 : wr.heap.size ≤ w3.heap.size := HB3.out.size; have HZ := uhide (And.intro hz1 hz2); clear HB3 OA OR HB hz1 hz2; have o0 := OA3.out.cell 0 _ rfl; have o1 := OA3.out.cell 1 _ rfl; have o2 := OA3.out.cell 2 _ rfl; have o3 := OA3.out.cell 3 _ rfl; have o4 := OA3.out.cell 4 _ rfl; have f3 : w3.frozen? ⟨w.heap.size, 3, none⟩ = false := OA3.out.fz 3; have f4 : w3.frozen? ⟨w.heap.size, 4, none⟩ = false := OA3.out.fz 4; have r0 := OR3.out.cell 0 _ rfl; have r1 := OR3.out.cell 1 _ rfl; have r2 := OR3.out.cell 2 _ rfl; have r3 := OR3.out.cell 3 _ rfl; have r4 := OR3.out.cell 4 _ rfl; have k0 : w3.frozen? ⟨w.heap.size + 1, 0, none⟩ = false := OR3.out.fz 0; have k1 : w3.frozen? ⟨w.heap.size + 1, 1, none⟩ = false := OR3.out.fz 1; have k2 : w3.frozen? ⟨w.heap.size + 1, 2, none⟩ = false := OR3.out.fz 2; have k3 : w3.frozen? ⟨w.heap.size + 1, 3, none⟩ = false := OR3.out.fz 3; have k4 : w3.frozen? ⟨w.heap.size + 1, 4, none⟩ = false := OR3.out.fz 4)
        refine bodyPost_ret (v := .agg #[.int .i64 z0, .string z1, .int .i64 z2, .slice a3n n3 p3n, .slice a4n q p4n]) ?_ rfl ⟨[.int .i64 z0, .string z1, .int .i64 z2, .slice a3n n3 p3n, .slice a4n q p4n], (blkOf (.slice a3n n3 p3n)) ++ (S4 ++ []), rfl, ?_, ?_, ?_⟩
        · simp [results, Try.results65, go_sem, r0, r1, r2, r3, r4]
        · exact oH.consP _ (oH.consP _ (oH.consP _ (oH.consS (K3.out.outs (T := [w.heap.size, w.heap.size + 1]) (by repeat (first | with_reducible exact OutS.refl _ _ | with_reducible refine OutS.setCell ?_ (show _ ∈ [w.heap.size, w.heap.size + 1] by simp) _)) W3.out (fun x hx => by have := HZ.out; simp at hx; omega)) (oH.consS (K4.out.outs (T := [w.heap.size, w.heap.size + 1]) (by repeat (first | with_reducible exact OutS.refl _ _ | with_reducible refine OutS.setCell ?_ (show _ ∈ [w.heap.size, w.heap.size + 1] by simp) _)) W4.out (fun x hx => by simp at hx; omega)) (oH.nil _)))))
        · have h34 : own2 (S4 ++ (blkOf (.slice a3n n3 p3n))) (w.heap.size + 1 + 1) w3.heap.size := own2.app W4.out W3.out (Nat.le_refl _) (by have := HZ.out; omega) HZ.out.2
          refine ⟨?_, fun g hg => ?_⟩
          · rw [List.append_nil]
            have := h34.1
            rw [List.nodup_append] at this ⊢
            exact ⟨this.2.1, this.1, fun a ha b hb hab => this.2.2 b hb a ha hab.symm⟩
          · have h1 : g ∈ S4 ++ (blkOf (.slice a3n n3 p3n)) := by simp at hg ⊢; first | exact hg | exact hg.symm
            have := h34.2 g h1
            simp
            omega
        · repeat (first | with_reducible exact HBB.out | with_reducible refine Below.setCell ?_ (by simp <;> omega) _)
end Go.Proofs.Ytbadjopaocindaa
