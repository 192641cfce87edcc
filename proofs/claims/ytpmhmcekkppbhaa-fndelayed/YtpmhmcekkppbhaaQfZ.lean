/- Queues: the delay on both sides, the program's forget. -/
import Derived.Test.YtpmhmcekkppbhaaQfU
import Derived.Test.YtpmhmcekkppbhaaQfW
namespace Go.Proofs.Ytpmhmcekkppbhaa
open Go.RowKit Go.BigFrame
set_option linter.unusedVariables false

def dlK (k : Nat) : Nat := min (2 ^ k) 64
theorem dlK_le (k : Nat) : dlK k ≤ 64 := Nat.min_le_right _ _
theorem dlK_pos (k : Nat) : 1 ≤ dlK k := by unfold dlK; have := Nat.pow_pos (n := k) (show 0 < 2 by omega); omega
theorem dlK_zero : dlK 0 = 1 := rfl
theorem dlK_lo {k : Nat} (h : 2 * dlK k ≤ 64) : dlK (k + 1) = 2 * dlK k := by unfold dlK at *; rw [Nat.pow_succ]; omega
theorem dlK_hi {k : Nat} (h : ¬ 2 * dlK k ≤ 64) : dlK (k + 1) = 64 := by unfold dlK at *; rw [Nat.pow_succ]; omega
theorem dlK_end {k : Nat} (h : dlK k = 64) : ∀ j, k ≤ j → dlK j = 64 := by
  intro j hj
  unfold dlK at *
  have : 2 ^ k ≤ 2 ^ j := Nat.pow_le_pow_right (by omega) hj
  omega
theorem dlyN_eq {F : Nat} {k : Nat} (h : k + 1 = F) : dlyN F = dlK k := by subst h; rfl
theorem idelay_any (F : Nat) (w : World) (h1 : 1 ≤ F) (h2 : F ≤ 1000) :
    Calls Try.prog 140 #[.int .i64 F] w fun e w' => e = .returned (.int .i64 (dlyN F)) ∧ w' = w := by
  have hF1 : (1 : Int) ≤ (F : Int) := by omega
  have hF2 : (F : Int) ≤ 1000 := by omega
  have hF3 : (F : Int) - 1 = ((F - 1 : Nat) : Int) := by omega
  go_enter Try.func140, Try.ntmps140
  go_wp2
  go_loop [3, 6] (fun s i => ∃ (k : Nat), k ≤ F - 1 ∧ i = .int .i64 k ∧ s = .int .i64 (dlK k)) (fun _ i => F - 1 - (intOf i).toNat)
  case atStart => exact ⟨0, Nat.zero_le _, rfl, rfl⟩
  case round =>
    obtain ⟨k, hk, rfl, rfl⟩ := hrel
    have hp := dlK_pos k
    have hl := dlK_le k
    have hk0 : (0 : Int) ≤ (k : Int) := Int.natCast_nonneg _
    by_cases hlt : k < F - 1
    · have hlt' : (k : Int) < ((F - 1 : Nat) : Int) := by omega
      by_cases h64 : 2 * dlK k ≤ 64
      · have hn := dlK_lo h64
        generalize dlK k = d at *
        go_wp2
        go_round
        case rel => exact ⟨k + 1, by omega, by go_num, by rw [hn]; go_num⟩
        case measure => simp [intOf]; omega
      · have hn := dlK_hi h64
        generalize dlK k = d at *
        go_wp2
        go_round
        case rel => exact ⟨k + 1, by omega, by go_num, by rw [hn]; go_num⟩
        case measure => simp [intOf]; omega
    · have hlt' : ¬ (k : Int) < ((F - 1 : Nat) : Int) := by omega
      have hn : Hid (((dlK k : Nat) : Int) = (dlyN F : Int)) := by show _ = _; rw [dlyN_eq (k := k) (by omega)]
      go_wp2
      go_ret
      exact ⟨ret_int hn.out, rfl⟩
theorem sdelay_any (F : Nat) (w : World) (h1 : 1 ≤ F) (h2 : F ≤ 1000) :
    Calls Try.prog 157 #[.int .i64 F] w fun e w' => e = .returned (.int .i64 (dlyN F)) ∧ w' = w := by
  have hF1 : (1 : Int) ≤ (F : Int) := by omega
  have hF2 : (F : Int) ≤ 1000 := by omega
  go_enter Try.func157, Try.ntmps157
  go_wp2
  go_loop [3, 4] (fun s i => ∃ (k : Nat), k ≤ F - 1 ∧ i = .int .i64 ((k + 1 : Nat) : Int) ∧ s = .int .i64 (2 ^ k : Nat) ∧ 2 ^ k ≤ 64) (fun _ i => F - (intOf i).toNat)
  case atStart => exact ⟨0, Nat.zero_le _, rfl, rfl, by decide⟩
  case round =>
    obtain ⟨k, hk, rfl, rfl, hl⟩ := hrel
    have hp : 0 < 2 ^ k := Nat.pow_pos (by omega)
    have hk0 : (0 : Int) ≤ (k : Int) := Int.natCast_nonneg _
    have he : dlK k = 2 ^ k := Nat.min_eq_left hl
    have hs : 2 ^ (k + 1) = 2 * 2 ^ k := by rw [Nat.pow_succ]; omega
    by_cases hlt : k + 1 < F
    · have hlt' : ((k + 1 : Nat) : Int) < (F : Int) := by omega
      by_cases h64 : 2 ^ k < 64
      · have hle : 2 ^ (k + 1) ≤ 64 := by
          have hk6 : k ≤ 5 := by
            cases Nat.lt_or_ge k 6 with
            | inl h => omega
            | inr h => have : 2 ^ 6 ≤ 2 ^ k := Nat.pow_le_pow_right (by omega) h; omega
          have : 2 ^ (k + 1) ≤ 2 ^ 6 := Nat.pow_le_pow_right (by omega) (by omega)
          exact this
        have hR : ((2 ^ (k + 1) : Nat) : Int) = ((2 ^ k : Nat) : Int) * 2 := by omega
        have h64' : ((2 ^ k : Nat) : Int) < 64 := by omega
        have HR := hide hR
        have HL := hide hle
        clear hR hle hs he
        generalize 2 ^ k = d at *
        go_wp2
        go_round
        case rel => exact ⟨k + 1, by omega, by go_num, by rw [HR.out], HL.out⟩
        case measure => simp [intOf]; omega
      · have hn : dlyN F = 64 := by
          rw [dlyN_eq (k := F - 1) (by omega)]
          exact dlK_end (k := k) (by omega) _ (by omega)
        have h64' : ¬ ((2 ^ k : Nat) : Int) < 64 := by omega
        have hd : 2 ^ k = 64 := by omega
        clear he hs
        generalize 2 ^ k = d at *
        have hi : Hid (((d : Nat) : Int) = (dlyN F : Int)) := by show _ = _; omega
        clear hn hd
        go_wp2
        go_ret
        exact ⟨ret_int hi.out, rfl⟩
    · have hlt' : ¬ ((k + 1 : Nat) : Int) < (F : Int) := by omega
      have hn : dlyN F = 2 ^ k := by rw [dlyN_eq (k := k) (by omega)]; exact he
      clear he hs
      generalize 2 ^ k = d at *
      have hi : Hid (((d : Nat) : Int) = (dlyN F : Int)) := by show _ = _; omega
      clear hn
      go_wp2
      go_ret
      exact ⟨ret_int hi.out, rfl⟩
theorem filt_none {A : List ByteArray} {s : ByteArray} (h : inA A s = false) : A.filter (fun t => decide (t ≠ s)) = A := by
  rw [List.filter_eq_self]
  intro t ht
  simp only [decide_eq_true_eq]
  rintro rfl
  rw [inA_iff.2 ht] at h
  cases h
theorem filt_at {A : List ByteArray} {s : ByteArray} {i : Nat} (hn : A.Nodup) (hi : i < A.length) (he : A[i]'hi = s) : A.filter (fun t => decide (t ≠ s)) = dropAt A i := by
  induction A generalizing i with
  | nil => simp at hi
  | cons a A ih =>
    obtain ⟨h1, h2⟩ := List.nodup_cons.1 hn
    cases i with
    | zero =>
      have e : a = s := by simpa using he
      subst e
      have : A.filter (fun t => decide (t ≠ a)) = A := by
        rw [List.filter_eq_self]
        intro t ht
        simp only [decide_eq_true_eq]
        rintro rfl
        exact h1 ht
      rw [List.filter_cons_of_neg (by simp), this]
      unfold dropAt
      simp
    | succ i =>
      have hi' : i < A.length := by simpa using hi
      have he' : A[i]'hi' = s := by simpa using he
      have hne : a ≠ s := by rintro rfl; exact h1 (he' ▸ List.getElem_mem hi')
      rw [List.filter_cons_of_pos (by simpa using hne), ih h2 hi' he']
      unfold dropAt
      simp
theorem QB.repA {X w3 : World} {b base : Nat} {Q : Qu} {vI vD vA v' : Value} {L : List ByteArray} (h : QB X b base Q vI vD vA) (ho : ownR w3 base 9 1 v' (L.map encS)) (hO : OutS (blkOf vA) X w3) (hat : v'.ownBlock = vA.ownBlock) :
    QB (w3.setCell ⟨b, 2, none⟩ v') b base { Q with A := L } vI vD v' := by
  have hbk : ∀ g, g ∈ blkOf v' ↔ g ∈ blkOf vA := fun g => by rw [blk_own, blk_own, hat]
  have hnb : b ∉ blkOf v' := fun hh => h.na ((hbk b).1 hh)
  have hkI := h.q.i.apart hO (fun g hg hh => h.q.ia g hh hg)
  have hkD := h.q.d.apart hO (fun g hg hh => h.q.da g hh hg)
  have hnew := ho.setCell ⟨b, 2, none⟩ hnb v'
  have hobj := (h.o.outS hO h.na).set 2 v'
  exact ⟨hobj, ⟨(hkI.setCell _ (fun hh => h.ni (by simpa using hh)) _), (hkD.setCell _ (fun hh => h.nd (by simpa using hh)) _), hnew, h.q.id, (fun g hg hh => h.q.ia g hg ((hbk g).1 hh)), (fun g hg hh => h.q.da g hg ((hbk g).1 hh))⟩, h.ni, h.nd, hnb⟩
theorem QB.repD {X w3 : World} {b base : Nat} {Q : Qu} {vI vD vA v' : Value} {L : List It} (h : QB X b base Q vI vD vA) (ho : ownR w3 base 75 3 v' (L.map encI)) (hO : OutS (blkOf vD) X w3) (hat : v'.ownBlock = vD.ownBlock) :
    QB (w3.setCell ⟨b, 1, none⟩ v') b base { Q with D := L } vI v' vA := by
  have hbk : ∀ g, g ∈ blkOf v' ↔ g ∈ blkOf vD := fun g => by rw [blk_own, blk_own, hat]
  have hnb : b ∉ blkOf v' := fun hh => h.nd ((hbk b).1 hh)
  have hkI := h.q.i.apart hO (fun g hg hh => h.q.id g hh hg)
  have hkA := h.q.a.apart hO (fun g hg hh => h.q.da g hg hh)
  have hnew := ho.setCell ⟨b, 1, none⟩ hnb v'
  have hobj := (h.o.outS hO h.nd).set 1 v'
  exact ⟨hobj, ⟨(hkI.setCell _ (fun hh => h.ni (by simpa using hh)) _), hnew, (hkA.setCell _ (fun hh => h.na (by simpa using hh)) _), (fun g hg hh => h.q.id g hg ((hbk g).1 hh)), h.q.ia, (fun g hg hh => h.q.da g ((hbk g).1 hg) hh)⟩, h.ni, hnb, h.na⟩
set_option maxRecDepth 20000 in
set_option maxHeartbeats 1600000 in
theorem forget_any (Q : Qu) (s : ByteArray) (b base : Nat) (vI vD vA : Value) (w : World) (hl : Q.A.length ≤ 4000000) (hn : Q.A.Nodup) (h : QB w b base Q vI vD vA) (hbase : base ≤ b) :
    Calls Try.prog 139 #[.pointer (some ⟨b, 0, none⟩), .string s] w fun e w' => ∃ vA', e = .returned (.bool (inA Q.A s)) ∧ QB w' b base { Q with A := Q.A.filter (fun t => decide (t ≠ s)) } vI vD vA' ∧ Below base w w' := by
  obtain ⟨aA, pA, rfl⟩ := h.q.a.stS
  have H := hide h
  have hbl := h.lt
  have x2 := h.o.cell 2 _ rfl
  have HIX := hide (ixStr_any Q.A s (.slice aA Q.A.length pA) w (h.q.a.rd (by decide)) hl)
  clear h
  go_enter Try.func139, Try.ntmps139
  go_wp2_with fail
  refine HIX.out.mono ?_
  rintro e w1 ⟨r, rfl, hr, hw⟩
  obtain rfl : w = w1 := hw.symm
  clear HIX hw
  rcases hr with ⟨rfl, hno⟩ | ⟨k, hk, rfl, he, -⟩
  · have HB := hide hno
    have hf : Hid (Q.A.filter (fun t => decide (t ≠ s)) = Q.A) := filt_none hno
    clear hno
    go_wp2
    go_ret
    exact ⟨_, ret_bool HB.out.symm, by rw [hf.out]; exact H.out, Below.refl _ _⟩
  · have hk0 : (0 : Int) ≤ (k : Int) := Int.natCast_nonneg _
    have hb : inA Q.A s = true := inA_iff.2 (he ▸ List.getElem_mem hk)
    have hf : Hid (Q.A.filter (fun t => decide (t ≠ s)) = dropAt Q.A k) := filt_at hn hk he
    have HB := hide hb
    have HDL := hide (delS_any (Q.A.map encS) k (k + 1) base (.slice aA Q.A.length pA) w H.out.q.a (oneS _) (by omega) (by rw [List.length_map]; omega) (by rw [List.length_map]; omega))
    clear hb he hn
    go_wp2_with fail
    refine HDL.out.mono ?_
    rintro e w2 ⟨v', rfl, hv, hvb, hO⟩
    have hv2 : ownR w2 base 9 1 v' ((dropAt Q.A k).map encS) := by unfold dropAt; rw [List.map_append, List.map_take, List.map_drop]; exact hv
    have HQ2 := hide (H.out.repA hv2 hO hvb)
    have HB2 : Hid (Below base w (w2.setCell ⟨b, 2, none⟩ v')) := (hO.below (fun t ht => (H.out.q.a.lt t ht).1) (by omega)).setCell (p := ⟨b, 2, none⟩) hbase _
    have hob := H.out.o.outS hO H.out.na
    have y2 := hob.cell 2 _ rfl
    have f2 := hob.fz 2
    obtain ⟨a3, p3, e3⟩ := hv2.stS
    obtain ⟨n3, rfl⟩ : ∃ n, v' = .slice a3 n p3 := ⟨_, e3⟩
    clear hv hvb hO hv2 HDL e3 hob x2
    go_wp2
    go_ret
    exact ⟨_, ret_bool HB.out.symm, by rw [hf.out]; exact HQ2.out, HB2.out⟩
end Go.Proofs.Ytpmhmcekkppbhaa
