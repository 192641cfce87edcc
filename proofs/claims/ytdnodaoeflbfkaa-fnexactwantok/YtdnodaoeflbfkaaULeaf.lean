/- Data as cells: the helpers of the laws over rows of texts, numbers and bytes. -/
import Derived.Test.YtdnodaoeflbfkaaU2
import Derived.Test.YtdnodaoeflbfkaaChecked
import Derived.WalkKit
import Derived.WalkSpells
import Derived.WalkLawsBesides
import Derived.Lib.OthersKept
import Derived.BigQuiet
import Derived.Deep.QuietTactic
import Derived.Laws.BytesString
import Derived.Deep.RegionWith
import Derived.Deep.RegionLaw
namespace Go.Proofs.Ytdnodaoeflbfkaa
open Go.RowKit Go.BigFrame
set_option linter.unusedVariables false

theorem infoU {P : Program} {t : TypeId} {z : Value} {k b : Nat} (h : (P.info? t).map (fun i => (i.zero, i.size, i.bytes)) = some (some z, k, b)) : ∃ i, P.info? t = some i ∧ i.zero = some z ∧ i.size = k ∧ i.bytes = b := by
  cases e : P.info? t with
  | none => rw [e] at h; cases h
  | some i => rw [e] at h; simp at h; exact ⟨i, rfl, h.1, h.2.1, h.2.2⟩
theorem tyS.one {n : Nat} {cs : UD} {t : Nat} {q : Nat} (h : tyS 1 n cs t) (hq : q < n) : tyL (rowU cs 1 q) (uE t) := h.row hq
theorem row1 {w : World} {lo hi b off : Nat} {cs : UD} (h : uM w lo hi cs b off) (q : Nat) {v : Value} (hr : rowU cs 1 q = .p v .nil) : w.cell? ⟨b, off + q, none⟩ = some v := by
  have := h.row 1 q
  rw [hr, Nat.mul_one] at this
  exact this.1
theorem at1 {cs : UD} {k q : Nat} {v : Value} (hk : k = 1) (hr : rowU cs k q = .p v .nil) : cs.at? q = some (.p v) := by
  subst hk
  have := rowU_at cs 1 q 0 (by omega)
  rw [hr, Nat.mul_one, Nat.add_zero] at this
  rw [← this]; rfl
theorem uconv_one (w : World) (x : Int) : (convert 71 9 (.slice (some ⟨w.heap.size, 0, none⟩) 1 1)).run Try.prog (w.alloc (.cells #[.int .u8 x] 5)) =
    .ok (.string ([x].foldl (fun r n => r.push (UInt8.ofNat n.toNat)) ByteArray.empty)) (w.alloc (.cells #[.int .u8 x] 5)) := by
  rw [run_convert_bytes_string _ _ _ _ _ _ _ Try.underlying71 Try.underlying5 Try.underlying9, run_bytesToString _ _ 1 1 [x]]
  simp [loadCells, go_sem]
set_option maxHeartbeats 400000 in
theorem umarkText_any (n : Nat) (w : World) (hn : n ≤ 1000000000) (h1 : 1 ≤ n) :
    Calls Try.prog 129 #[.int .i64 n] w fun e w' => e = .returned (.string (umtx n)) ∧ Below w.heap.size w w' := by
  have hpos : ¬ (n : Int) ≤ 0 := by omega
  have HT : Hid (umtx n = ⟨#[109]⟩ ++ umTo n n ⟨#[]⟩) := rfl
  go_enter Try.func129, Try.ntmps129
  go_wp2
  go_loopw [0, 3] (fun i v wr => ∃ (k : Nat) (s : ByteArray), k ≤ n ∧ i = .int .i64 k ∧ v = .string s ∧ s.size ≤ n - k ∧ Hid (∃ f, k ≤ f ∧ umTo f k s = umTo n n ⟨#[]⟩) ∧ Below w.heap.size w wr) (fun i _ _ => (intOf i).toNat)
  case atStart => exact ⟨n, _, by omega, rfl, rfl, Nat.zero_le _, ⟨n, Nat.le_refl _, rfl⟩, Below.refl _ _⟩
  case round =>
    obtain ⟨k, s, hk, rfl, rfl, hs, Hx, hbw⟩ := hrel
    by_cases hlt : 0 < k
    · have hlt' : (0 : Int) < (k : Int) := by omega
      have hcv := uconv_one wr (48 + (k : Int) % 10)
      have hd : ([48 + (k : Int) % 10]).foldl (fun r n => r.push (UInt8.ofNat n.toNat)) ByteArray.empty = umStep k := rfl
      rw [hd] at hcv
      have hds := umStep_size k
      have Hn : Hid (∃ f, k / 10 ≤ f ∧ umTo f (k / 10) (umStep k ++ s) = umTo n n ⟨#[]⟩) := by
        obtain ⟨f, hf, he⟩ := Hx.out
        cases f with
        | zero => omega
        | succ f => exact ⟨f, by omega, by rw [← he, umTo, if_neg (by omega)]⟩
      clear hd Hx
      generalize umStep k = D at *
      have hsz : (D ++ s).size ≤ n - k / 10 := by rw [ByteArray.size_append, hds]; omega
      have hds' : D.size ≤ 1 := by omega
      clear hds
      go_wp2
      go_roundw
      case rel => exact ⟨k / 10, _, by omega, by go_num, rfl, hsz, Hn, hbw.alloc hbw.size _⟩
      case measure => simp [intOf]; omega
    · have e : k = 0 := by omega
      subst e
      have Hs : Hid (umTo n n ⟨#[]⟩ = s) := by obtain ⟨f, _, he⟩ := Hx.out; show _ = _; rw [← he, umTo_zero]
      clear Hx
      go_wp2
      go_ret
      exact ⟨by rw [HT.out, Hs.out]; rfl, hbw⟩
def plainF (fs : List UF) : Bool := fs.all fun f => match f with | .i _ => true | .b => true | _ => false
theorem wt_plainU {fs : List UF} (hp : plainF fs = true) : ∀ (d : UD) (i : Nat), tyU d fs i → wt d = 0
  | .nil, _, _ => rfl
  | .p v r, i, ⟨⟨f, h1, h2⟩, h3⟩ => by
    have hf := List.all_eq_true.1 hp f (List.mem_of_getElem? h1)
    rw [wt, wt_plainU hp r (i + 1) h3]
    cases f with
    | i k => obtain ⟨z, rfl, _⟩ := h2; rfl
    | s => cases hf
    | b => obtain ⟨z, rfl⟩ := h2; rfl
    | l k t => cases hf
  | .l k n cs r, i, ⟨⟨t, h1, h2⟩, h3⟩ => by
    have hf := List.all_eq_true.1 hp _ (List.mem_of_getElem? h1)
    cases hf
theorem wt_plain {k n : Nat} {cs : UD} {t : Nat} (h : tyS k n cs t) (hp : plainF (uE t) = true) : wt cs = 0 := wt_plainU hp cs 0 h.2.2.2.2
theorem uszStringS_any {lo hi : Nat} (n : Nat) (cs : UD) (c : Value) (left : Int) (w : World) (ht : tyS 1 n cs 0) (h0 : 0 ≤ left) (h1 : left ≤ 1048576) (hx : uS w lo hi 1 n cs c) :
    Calls Try.prog 62 #[c, .int .i64 left] w fun e w' => e = .returned (.int .i64 (leftI left (n + wt cs))) ∧ Below w.heap.size w w' := by
  obtain ⟨a, cap, rfl, hx2⟩ := hx
  have Hx : Hid (uS w lo hi 1 n cs (.slice a n cap)) := ⟨a, cap, rfl, hx2⟩
  have hmx := ht.2.2.1
  unfold maxLen at hmx
  have Ht := uhide ht
  clear hx2 ht
  by_cases c1 : left - (n : Int) < 0
  · have E : Hid (leftI left (n + wt cs) = -1) := by show _ = _; unfold leftI; rw [if_pos (by omega)]
    go_enter Try.func62, Try.ntmps62
    go_wp2
    go_ret
    exact ⟨ret_intU E.out.symm, Below.refl _ _⟩
  have E : Hid (leftI left (n + wt cs) = leftI (left - n) (wt (cs.dropN (0 * 1)))) := by
    show _ = _
    obtain ⟨g1, g2, g3⟩ := leftI_pos (x := left) (a := n) (wt cs) (by unfold leftI; split <;> omega)
    rw [g1, g2, Nat.zero_mul, UD.dropN_zero]
  go_enter Try.func62, Try.ntmps62
  go_wp2
  go_loopw [1, 5] (fun l i wr => ∃ (q : Nat) (x : Int), q ≤ n ∧ i = .int .i64 q ∧ l = .int .i64 x ∧ 0 ≤ x ∧ x ≤ 1048576 ∧ Hid (leftI left (n + wt cs) = leftI x (wt (cs.dropN (q * 1)))) ∧ Below w.heap.size w wr) (fun _ i _ => n - (intOf i).toNat)
  case atStart => exact ⟨0, _, Nat.zero_le _, rfl, rfl, by omega, by omega, E, Below.refl _ _⟩
  case round =>
    obtain ⟨q, x, hq, rfl, rfl, hx0, hx1, Hs, hbw⟩ := hrel
    by_cases hlt : q < n
    · obtain ⟨b, off, rfl, hbb, hm⟩ := (Hx.out.below hbw).cells (by omega)
      obtain ⟨z0, hR, hz⟩ := partsString (Ht.out.row hlt)
      have q0 := row1 hm q hR
      have hw : wt (cs.dropN (q * 1)) = z0.size + wt (cs.dropN ((q + 1) * 1)) := by rw [UD.drop_row cs 1 q, wt_app, hR]; rfl
      unfold maxLen at hz
      clear hm hR
      by_cases hneg : x - (z0.size : Int) < 0
      · have hr : Hid (leftI left (n + wt cs) = -1) := by rw [show Hid _ = _ from rfl, Hs.out, hw]; exact leftI_neg _ hx0 (by unfold leftI; split <;> omega)
        clear hw Hs E
        go_wp2
        go_ret
        exact ⟨ret_intU hr.out.symm, hbw⟩
      · have hr : Hid (leftI left (n + wt cs) = leftI (x - z0.size) (wt (cs.dropN ((q + 1) * 1)))) := by
          obtain ⟨g1, g2, g3⟩ := leftI_pos (x := x) (a := z0.size) (wt (cs.dropN ((q + 1) * 1))) (by unfold leftI; split <;> omega)
          show _ = _
          rw [Hs.out, hw, g1, g2]
        clear hw Hs E
        go_wp2
        go_roundw
        case rel => exact ⟨q + 1, _, by omega, by go_num, rfl, by omega, by omega, hr, hbw⟩
        case measure => simp [intOf]; omega
    · have e : q = n := by omega
      subst e
      have hr : Hid (leftI left (q + wt cs) = x) := by
        show _ = _
        rw [Hs.out, ← Ht.out.2.2.2.1, UD.dropN_all]
        exact leftI_zero hx0
      clear Hs E
      go_wp2
      go_ret
      exact ⟨ret_intU hr.out.symm, hbw⟩
theorem Try.infoUString : (Try.prog.info? 9).map (fun i => (i.zero, i.size, i.bytes)) = some (some (.string ByteArray.empty), 1, 16) := by kernel_rfl
theorem utoStringS_any {lo hi : Nat} (n : Nat) (cs : UD) (c : Value) (w : World) (ht : tyS 1 n cs 0) (hn : n ≤ 1048576) (hx : uS w lo hi 1 n cs c) :
    Calls Try.prog 69 #[c] w fun e w' => ∃ c' S, e = .returned c' ∧ oS w' 1 n cs c' S ∧ S.Nodup ∧ (∀ s ∈ S, w.heap.size ≤ s) ∧ Below w.heap.size w w' := by
  obtain ⟨i0, hinf, hz0, hz1, hz2⟩ := infoU Try.infoUString
  obtain ⟨a, cap, rfl, hx2⟩ := hx
  have Hx : Hid (uS w lo hi 1 n cs (.slice a n cap)) := ⟨a, cap, rfl, hx2⟩
  have Ht := uhide ht
  clear hx2 ht
  go_enter Try.func69, Try.ntmps69
  go_wp2_with (at_make; refine wpList_make_full _ rfl _ _ 25 rfl w.heap.size 9 i0 _ 1 Try.underlying25 hinf hz0 hz1 _ _ _ _ n rfl rfl rfl rfl (by rw [hz2]; omega) (by unfold maxLen; omega) (Nat.le_refl _) ?_; intro w1 hown hgrow)
  have T0 := uhide (TS.start (cs := cs) hown (Below.grown (Below.refl _ _) hgrow (Nat.le_refl _) (fun k hk => by cases hk)))
  clear hown hgrow
  go_loopw [4] (fun i wr => ∃ (q : Nat), q ≤ n ∧ i = .int .i64 q ∧ Hid (TS w wr 9 1 n cs q)) (fun i _ => n - (intOf i).toNat)
  case atStart => exact ⟨0, Nat.zero_le _, rfl, T0⟩
  case round =>
    clear T0
    obtain ⟨q, hq, rfl, HT⟩ := hrel
    by_cases hlt : q < n
    · obtain ⟨b, off, rfl, hbb, hm⟩ := (Hx.out.below HT.out.bel).cells (by omega)
      obtain ⟨z0, hR, hz⟩ := partsString (Ht.out.row hlt)
      have q0 := row1 hm q hR
      obtain ⟨o0, p0⟩ := HT.out.cell q (by omega)
      have f0 := HT.out.fz q
      have T1 : Hid (TS w (wSet wr w.heap.size (q * 1) [.string z0]) 9 1 n cs (q + 1)) := HT.out.step (Below.refl _ _) (T := []) (by rw [hR]; exact ⟨_, rfl, rfl, rfl⟩) List.nodup_nil (fun t ht => by cases ht) Ht.out.2.2.2.1 hlt
      rw [Nat.mul_one] at T1
      clear hm hR hz
      go_wp2
      go_roundw
      case rel => exact ⟨q + 1, by omega, by go_num, T1⟩
      case measure => simp [intOf]; omega
    · have e : q = n := by omega
      subst e
      obtain ⟨S, h1, h2, h3, h4⟩ := HT.out.done (by decide) Ht.out.2.2.2.1
      have HS : Hid (oS wr 1 q cs (.slice (some ⟨w.heap.size, 0, none⟩) q q) S ∧ S.Nodup ∧ (∀ s ∈ S, w.heap.size ≤ s) ∧ Below w.heap.size w wr) := ⟨h1, h2, h3, h4⟩
      clear h1 h2 h3 h4
      go_wp2
      go_ret
      exact ⟨_, S, rfl, HS.out⟩
theorem ueqStringS_any {lo hi lo' hi' : Nat} (n : Nat) (cs : UD) (c c' : Value) (w : World) (ht : tyS 1 n cs 0) (hx : uS w lo hi 1 n cs c) (hy : uS w lo' hi' 1 n cs c') :
    Calls Try.prog 52 #[c, c'] w fun e w' => e = .returned (.bool true) ∧ Below w.heap.size w w' := by
  obtain ⟨a, cap, rfl, hx2⟩ := hx
  obtain ⟨a', cap', rfl, hy2⟩ := hy
  have Hx : Hid (uS w lo hi 1 n cs (.slice a n cap)) := ⟨a, cap, rfl, hx2⟩
  have Hy : Hid (uS w lo' hi' 1 n cs (.slice a' n cap')) := ⟨a', cap', rfl, hy2⟩
  have hmx := ht.2.2.1
  unfold maxLen at hmx
  have Ht := uhide ht
  have hb0 : ((n : Int) != (n : Int)) = false := by simp
  clear hx2 hy2 ht
  go_enter Try.func52, Try.ntmps52
  go_wp2
  go_loopw [5] (fun i wr => ∃ (q : Nat), q ≤ n ∧ i = .int .i64 q ∧ Below w.heap.size w wr) (fun i _ => n - (intOf i).toNat)
  case atStart => exact ⟨0, Nat.zero_le _, rfl, Below.refl _ _⟩
  case round =>
    obtain ⟨q, hq, rfl, hbw⟩ := hrel
    by_cases hlt : q < n
    · obtain ⟨b, off, rfl, hbb, hm⟩ := (Hx.out.below hbw).cells (by omega)
      obtain ⟨b', off', rfl, hbb', hm'⟩ := (Hy.out.below hbw).cells (by omega)
      obtain ⟨z0, hR, hz⟩ := partsString (Ht.out.row hlt)
      have q0 := row1 hm q hR
      have q0' := row1 hm' q hR
      have he : (z0.toList == z0.toList) = true := by simp
      clear hm hm' hR hz Hx Hy Ht
      go_wp2
      go_quiet (fail)
      go_wp2
      go_roundw
      case rel => exact ⟨q + 1, by omega, by go_num, below_drewN hbw _⟩
      case measure => simp [intOf]; omega
    · have e : q = n := by omega
      subst e
      go_wp2
      go_ret
      exact ⟨rfl, hbw⟩
set_option maxHeartbeats 400000 in
theorem umarkStringS_any (n k0 : Nat) (cs : UD) (c : Value) (S : List Nat) (w : World) (ht : tyS 1 n cs 0) (hnd : S.Nodup) (hk0 : 1 ≤ k0) (hk1 : k0 + cnt cs ≤ 100000000) (hx : oS w 1 n cs c S) :
    Calls Try.prog 56 #[c, .int .i64 k0] w fun e w' => e = .returned (.int .i64 (k0 + cnt cs : Nat)) ∧ oS w' 1 n (mk cs k0) c S ∧ OutS S w w' := by
  obtain ⟨a, cap, rfl⟩ := hx.slice
  have hmx := ht.2.2.1
  unfold maxLen at hmx
  rcases Nat.eq_zero_or_pos n with h0 | hpos
  · subst h0
    obtain ⟨e1, e2⟩ := hx.empty rfl k0
    rw [e1, e2]
    have Hx := uhide hx
    clear hx ht hnd e1 e2
    go_enter Try.func56, Try.ntmps56
    go_wp2
    go_loopw [1, 5] (fun s i wr => i = .int .i64 0 ∧ s = .int .i64 k0 ∧ wr = w) (fun _ _ _ => 0)
    case atStart => exact ⟨rfl, rfl, rfl⟩
    case round =>
      obtain ⟨rfl, rfl, rfl⟩ := hrel
      go_wp2
      go_ret
      exact ⟨rfl, Hx.out, OutS.refl _ _⟩
  obtain ⟨e, g, S1, xs0, M0, rfl, hp0, hl0⟩ := MS.start hx hnd hpos k0
  obtain ⟨cap, h1, hgl⟩ := M0.own
  cases h1
  have M0 := uhide M0
  have Ht := uhide ht
  have Hp0 := uhide hp0
  have Hkk : Hid (∀ q, k0 + cnt (cs.takeN (q * 1)) ≤ 100000000) := fun q => by have := cnt_le cs (q * 1); omega
  clear hx ht hnd hp0 hl0
  go_enter Try.func56, Try.ntmps56
  go_wp2
  go_loopw [1, 5] (fun s i wr => ∃ (q : Nat), q ≤ n ∧ i = .int .i64 q ∧ s = .int .i64 (k0 + cnt (cs.takeN (q * 1)) : Nat) ∧ Hid (MS w wr e 1 n (.slice (some ⟨g, 0, none⟩) n cap) g cs k0 S1 xs0 (q * 1))) (fun _ i _ => n - (intOf i).toNat)
  case atStart => exact ⟨0, Nat.zero_le _, rfl, rfl, by rw [Nat.zero_mul]; exact M0⟩
  case round =>
    clear M0
    obtain ⟨q, hq, rfl, rfl, HM⟩ := hrel
    by_cases hlt : q < n
    · obtain ⟨z0, hR, hz⟩ := partsString (Ht.out.row hlt)
      have he := at1 rfl hR
      have hkn : cnt (cs.takeN ((q + 1) * 1)) = cnt (cs.takeN (q * 1)) + 1 := by rw [cnt_row, hR]; rfl
      have hkb := Hkk.out (q + 1)
      have Hkn := uhide hkn
      have hm := HM.out
      rw [Nat.mul_one] at hm
      have HP : Hid (∀ (wx : World) (u : Value), MS w wx e 1 n (.slice (some ⟨g, 0, none⟩) n cap) g cs k0 S1 xs0 q → u = mkP (k0 + cnt (cs.takeN (q * 1))) (.string z0) → MS w (wx.setCell ⟨g, q, none⟩ u) e 1 n (.slice (some ⟨g, 0, none⟩) n cap) g cs k0 S1 xs0 ((q + 1) * 1)) := fun wx u h hu => by
        rw [Nat.mul_one] at hu ⊢
        exact h.plain he hu
      have hxv := Hp0.out q _ he
      rw [hkn] at hkb
      generalize hKd : k0 + cnt (cs.takeN (q * 1)) = K at *
      have hK1 : K + 1 ≤ 100000000 := by omega
      have hK0 : 1 ≤ K := by omega
      have HKn : Hid (k0 + cnt (cs.takeN ((q + 1) * 1)) = K + 1) := by show _ = _; rw [Hkn.out]; omega
      have HM2 : Hid (∀ wx, Below wr.heap.size wr wx → MS w wx e 1 n (.slice (some ⟨g, 0, none⟩) n cap) g cs k0 S1 xs0 q) := fun wx hb => hm.below hb
      have Hm0 : Hid (∀ (wx : World) (x : Int), x = (K : Int) → Calls Try.prog 129 #[.int .i64 x] wx fun e w' => e = .returned (.string (umtx K)) ∧ Below wx.heap.size wx w') := fun wx x hx => by rw [hx]; exact umarkText_any K wx (by omega) (by omega)
      have Hxv := uhide hxv
      clear hKd hR hkn he hz HM hkb hm hxv Hkn
      have HU : Hid (Value.string (umtx K) = mkP K (.string z0)) := rfl
      generalize umtx K = M0 at *
      go_wp2_with fail
      refine (Hm0.out _ _ rfl).mono ?_
      rintro e1 w2 ⟨rfl, hb2⟩
      have Hms := uhide (HM2.out w2 hb2)
      have q0 := Hms.out.cellAt q _ (Nat.le_refl _) Hxv.out (by omega)
      have f0 := Hms.out.fz q
      clear hb2 HM2
      go_wp2
      go_roundw
      case rel => exact ⟨q + 1, by omega, by go_num, by rw [HKn.out]; go_num, HP.out _ _ Hms.out HU.out⟩
      case measure => simp [intOf]; omega
    · have e : q = n := by omega
      subst e
      obtain ⟨h1, h2⟩ := HM.out.done (by decide)
      have HD := uhide (And.intro h1 h2)
      have hl : cs.takeN (q * 1) = cs := by apply UD.ext; unfold UD.takeN; rw [UD.toL_ofL]; exact List.take_of_length_le (Nat.le_of_eq Ht.out.2.2.2.1)
      rw [hl]
      clear h1 h2 hl HM Ht Hp0 Hkk
      go_wp2
      go_ret
      exact ⟨rfl, HD.out⟩
set_option maxHeartbeats 400000 in
theorem uheldStringS_any {lo hi : Nat} (n k0 : Nat) (cs : UD) (c : Value) (w : World) (ht : tyS 1 n cs 0) (hk0 : 1 ≤ k0) (hk1 : k0 + cnt cs ≤ 100000000) (hx : uS w lo hi 1 n (mk cs k0) c) :
    Calls Try.prog 60 #[c, .int .i64 k0] w fun e w' => e = .returned (.int .i64 (k0 + cnt cs : Nat)) ∧ Below w.heap.size w w' := by
  obtain ⟨a, cap, rfl, hx2⟩ := hx
  have Hx : Hid (uS w lo hi 1 n (mk cs k0) (.slice a n cap)) := ⟨a, cap, rfl, hx2⟩
  have hmx := ht.2.2.1
  unfold maxLen at hmx
  have Ht := uhide ht
  have Hkk : Hid (∀ q, k0 + cnt (cs.takeN (q * 1)) ≤ 100000000) := fun q => by have := cnt_le cs (q * 1); omega
  clear hx2 ht
  go_enter Try.func60, Try.ntmps60
  go_wp2
  go_loopw [1, 5] (fun s i wr => ∃ (q : Nat), q ≤ n ∧ i = .int .i64 q ∧ s = .int .i64 (k0 + cnt (cs.takeN (q * 1)) : Nat) ∧ Below w.heap.size w wr) (fun _ i _ => n - (intOf i).toNat)
  case atStart => exact ⟨0, Nat.zero_le _, rfl, rfl, Below.refl _ _⟩
  case round =>
    obtain ⟨q, hq, rfl, rfl, hbw⟩ := hrel
    by_cases hlt : q < n
    · obtain ⟨b, off, rfl, hbb, hm⟩ := (Hx.out.below hbw).cells (by omega)
      obtain ⟨z0, hR, hz⟩ := partsString (Ht.out.row hlt)
      have he := at1 rfl hR
      have hkn : cnt (cs.takeN ((q + 1) * 1)) = cnt (cs.takeN (q * 1)) + 1 := by rw [cnt_row, hR]; rfl
      have hkb := Hkk.out (q + 1)
      have Hkn := uhide hkn
      have q0 : wr.cell? ⟨b, off + q, none⟩ = some (mkP (k0 + cnt (cs.takeN (q * 1))) (.string z0)) := by
        obtain ⟨c0, g1, g2⟩ := hm.get q _ (mk_get cs k0 q _ he)
        rw [g1, show c0 = _ from g2, Nat.mul_one]
      rw [hkn] at hkb
      generalize hKd : k0 + cnt (cs.takeN (q * 1)) = K at *
      have hK1 : K + 1 ≤ 100000000 := by omega
      have hK0 : 1 ≤ K := by omega
      have HKn : Hid (k0 + cnt (cs.takeN ((q + 1) * 1)) = K + 1) := by show _ = _; rw [Hkn.out]; omega
      replace q0 : wr.cell? ⟨b, off + q, none⟩ = some (.string (umtx K)) := q0
      have Hq : Hid (∀ wx, Below wr.heap.size wr wx → wx.cell? ⟨b, off + q, none⟩ = some (.string (umtx K))) := fun wx hb => (hb.cell (p := ⟨b, off + q, none⟩) (World.block_lt_of_cell? _ _ q0)).trans q0
      have Hm0 : Hid (∀ (wx : World) (x : Int), Below wr.heap.size wr wx → x = (K : Int) → Calls Try.prog 129 #[.int .i64 x] wx fun e w' => e = .returned (.string (umtx K)) ∧ Hid (Below wr.heap.size wr w')) := fun wx x hb hx => by rw [hx]; exact (umarkText_any K wx (by omega) (by omega)).mono fun e w' h => ⟨h.1, hb.trans (h.2.mono hb.size)⟩
      clear hKd hR hkn he hz hkb hm Hkn Hx Ht Hkk
      generalize umtx K = M0 at *
      have hE : (M0.toList == M0.toList) = true := by simp
      go_wp2
      go_region_with (go_at_call 129; refine (Hm0.out _ _ (by repeat (first | exact Below.refl _ _ | refine Below.drew ?_ | refine below_drewN ?_ _)) rfl).mono ?_; rintro e1 w2 ⟨rfl, hb2⟩; have q1 := Hq.out _ hb2.out)
      all_goals (
        have Hb2 : Hid (Below w.heap.size w w2) := hbw.trans (hb2.out.mono hbw.size)
        go_wp2
        go_roundw
        case rel => exact ⟨q + 1, by omega, by go_num, by rw [HKn.out]; go_num, by repeat (first | exact Hb2.out | refine Below.drew ?_ | refine below_drewN ?_ _)⟩
        case measure => simp [intOf]; omega)
    · have e : q = n := by omega
      subst e
      have hl : cs.takeN (q * 1) = cs := by apply UD.ext; unfold UD.takeN; rw [UD.toL_ofL]; exact List.take_of_length_le (Nat.le_of_eq Ht.out.2.2.2.1)
      rw [hl]
      clear hl Ht Hkk Hx
      go_wp2
      go_ret
      exact ⟨rfl, hbw⟩
end Go.Proofs.Ytdnodaoeflbfkaa
