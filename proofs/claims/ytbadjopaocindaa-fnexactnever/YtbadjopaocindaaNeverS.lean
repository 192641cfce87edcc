/- spec.l2Alone, spec.Never. -/
import Derived.Test.YtbadjopaocindaaNeverP
import Derived.Laws.BytesString
import Derived.Laws.AppendOwnNone
namespace Go.Proofs.Ytbadjopaocindaa
open Go.RowKit Go.BigFrame
set_option linter.unusedVariables false

theorem conv_three (w : World) (x y z : Int) : (convert 22 9 (.slice (some ⟨w.heap.size, 0, none⟩) 3 3)).run Try.prog (w.alloc (.cells #[.int .u8 x, .int .u8 y, .int .u8 z] 5)) =
    .ok (.string ([x, y, z].foldl (fun r n => r.push (UInt8.ofNat n.toNat)) ByteArray.empty)) (w.alloc (.cells #[.int .u8 x, .int .u8 y, .int .u8 z] 5)) := by
  rw [run_convert_bytes_string _ _ _ _ _ _ _ Try.underlying22 Try.underlying5 Try.underlying9, run_bytesToString _ _ 3 3 [x, y, z]]
  simp [loadCells, go_sem]
theorem zed_fold (k : Nat) : [122, 48 + (k : Int) / 10, 48 + (k : Int) % 10].foldl (fun r n => r.push (UInt8.ofNat n.toNat)) ByteArray.empty = zed k := by
  have e1 : (48 + (k : Int) / 10).toNat = 48 + k / 10 := by omega
  have e2 : (48 + (k : Int) % 10).toNat = 48 + k % 10 := by omega
  simp only [List.foldl, e1, e2]
  rfl
theorem zeds_succ (k : Nat) : zeds (k + 1) = zeds k ++ [zed k] := by unfold zeds; rw [List.range_succ, List.map_append]; rfl
theorem zeds_len (k : Nat) : (zeds k).length = k := by simp [zeds]
theorem valsOf_succ {ts : List TD} {key : ByteArray} {k : Nat} (h : k < ts.length) : valsOf (ts.take (k + 1)) key = valsOf (ts.take k) key ++ (if (ts[k]'h).2.1 = key then (ts[k]'h).2.2 else []) := by
  unfold valsOf about
  rw [List.take_succ_eq_append_getElem h, List.filter_append, List.flatMap_append]
  by_cases e : (ts[k]'h).2.1 = key
  · rw [if_pos e, List.filter_cons_of_pos (by simpa using e)]; simp
  · rw [if_neg e, List.filter_cons_of_neg (by simpa using e)]; simp
theorem allB_succ {ts : List TD} {key v : ByteArray} {has : Bool} {k : Nat} (h : k < ts.length) : allB (ts.take (k + 1)) key v has = (allB (ts.take k) key v has && (!decide ((ts[k]'h).2.1 = key) || holdsB (ts[k]'h) v has)) := by
  unfold allB
  rw [List.take_succ_eq_append_getElem h, List.all_append]
  simp
def candV (T : List ByteArray) (j : Nat) : ByteArray := if j = 0 then ⟨#[]⟩ else ssAt T (j - 1)
def candAll (ts : List TD) (key : ByteArray) (T : List ByteArray) (j : Nat) : Bool := allB ts key (candV T j) (decide (0 < j))
theorem alone_hit {ts : List TD} {key : ByteArray} {T : List ByteArray} {j : Nat} (hT : T = zeds 60 ++ valsOf ts key) (hj : j ≤ T.length) (h : candAll ts key T j = true) : aloneB ts key = false := by
  unfold candAll candV at h
  unfold aloneB
  by_cases h0 : j = 0
  · subst h0
    rw [if_pos rfl] at h
    have h' : allB ts key ⟨#[]⟩ false = true := h
    rw [h']; rfl
  · rw [if_neg h0, decide_eq_true (by omega), ssAt_get (by omega)] at h
    have : (zeds 60 ++ valsOf ts key).all (fun v => !allB ts key v true) = false := by
      rw [List.all_eq_false, ← hT]
      exact ⟨_, List.getElem_mem (show j - 1 < T.length by omega), by rw [h]; simp⟩
    rw [this, Bool.and_false]
theorem alone_end {ts : List TD} {key : ByteArray} {T : List ByteArray} (hT : T = zeds 60 ++ valsOf ts key) (h : ∀ j, j < T.length + 1 → candAll ts key T j = false) : aloneB ts key = true := by
  unfold aloneB
  have h0 : allB ts key ⟨#[]⟩ false = false := h 0 (by omega)
  rw [h0, ← hT, Bool.not_false, Bool.true_and, List.all_eq_true]
  intro v hv
  obtain ⟨i, hi, rfl⟩ := List.getElem_of_mem hv
  have := h (i + 1) (by omega)
  unfold candAll candV at this
  rw [if_neg (by omega), decide_eq_true (by omega), Nat.add_sub_cancel, ssAt_get hi] at this
  rw [this]; rfl
theorem selB_mem' {ts : List TD} (h : selB ts = true) {i : Nat} (hi : i < ts.length) : termB (ts[i]'hi) = true := by
  unfold selB at h; rw [decide_eq_true_eq] at h; exact h.2 _ (List.getElem_mem hi)
theorem flat_bound {ts : List TD} {key : ByteArray} (h : selB ts = true) (k : Nat) : (valsOf (ts.take k) key).length ≤ 48 := by
  have hs := h
  unfold selB at hs
  rw [decide_eq_true_eq] at hs
  have h6 : ∀ t ∈ about (ts.take k) key, t.2.2.length ≤ 6 := fun t ht => by
    have := kindB_parts (hs.2 t (List.mem_of_mem_take (List.mem_filter.1 ht).1))
    omega
  have h1 := flat_len _ h6
  have h2 : (about (ts.take k) key).length ≤ 8 := Nat.le_trans (List.length_filter_le _ _) (by rw [List.length_take]; omega)
  unfold valsOf
  omega

set_option maxRecDepth 100000 in
set_option maxHeartbeats 1600000 in
theorem salone_any (a : Option Addr) (cap : Nat) (ts : List TD) (key : ByteArray) (w : World) (hsel : selB ts = true) (hz : okTerms ts) (hrow : termsOf w a ts) :
    Calls Try.prog 79 #[.slice a ts.length cap, .string key] w fun e w' => e = .returned (.bool (aloneB ts key)) ∧ Below w.heap.size w w' := by
  obtain ⟨i0, hi0, hz0, hz1, hz2⟩ := info_parts Try.infoStr
  have Hr := hide hrow
  have Hz := hide hz
  have hl8 : ts.length ≤ 8 := by have := hsel; unfold selB at this; rw [decide_eq_true_eq] at this; exact this.1
  have Hfb : Hid (∀ k, (valsOf (ts.take k) key).length ≤ 48) := fun k => flat_bound hsel k
  have Hm : Hid (∀ k (hk : k < ts.length), termB (ts[k]'hk) = true) := fun k hk => selB_mem' hsel hk
  clear hrow hz hsel
  go_enter Try.func79, Try.ntmps79
  go_wp2
  go_loopw [5, 6] (fun s i wr => ∃ (k : Nat), k ≤ 60 ∧ i = .int .i64 k ∧ Hid (s ≠ .slice none 0 0) ∧ Hid (wr.ownsRow w.heap.size 9 1 s k (strVs (zeds k))) ∧ Below w.heap.size w wr) (fun _ i _ => 60 - (intOf i).toNat)
  case atStart => exact ⟨0, Nat.zero_le _, rfl, (fun h => by cases h), World.ownsRow_lit w #[] 0 (Nat.le_refl _) (by decide) rfl, (Below.refl _ _).alloc (Nat.le_refl _) _⟩
  case round =>
    obtain ⟨k, hk, rfl, Hnn, How, hbw⟩ := hrel
    by_cases hlt : k < 60
    · have hlt' : (k : Int) < 60 := by omega
      have hcv := conv_three wr 122 (48 + (k : Int) / 10) (48 + (k : Int) % 10)
      rw [zed_fold] at hcv
      have Hn : Hid (strVs (zeds (k + 1)) = strVs (zeds k) ++ [.string (zed k)]) := by show _ = _; rw [zeds_succ]; unfold strVs; rw [List.map_append]; rfl
      generalize zed k = Z at *
      go_wp2_with (at_builtin; refine wpList_append_own _ rfl _ _ 31 rfl w.heap.size 9 i0 _ 1 16 Try.underlying31 hi0 hz0 hz1 hz2 rfl (by decide) _ _ _ rfl ((How.out.alloc _).alloc _) ⟨wr.heap.size + 1, 0, none⟩ 1 1 [.string Z] rfl rfl (cell_one_at1 _ _ (by simp) _ _) (fun x hx => by simp at hx; rcases hx with rfl; rfl) (by unfold maxLen; omega) (by omega) (by have := hbw.size; simp; omega) ?_; intro v' w3 hown' hgrow3 hnil3)
      go_roundw
      case rel => exact ⟨k + 1, by omega, by go_num, (fun h => Hnn.out (hnil3.1 h).1), (by rw [Hn.out]; exact hown'), Below.grown ((hbw.alloc hbw.size _).alloc (by have := hbw.size; simp; omega) _) hgrow3 (by have := hbw.size; simp; omega) (fun j hj => (How.out.lt _ hj).1)⟩
      case measure => simp [intOf]; omega
    · have e : k = 60 := by omega
      have Hnn0 := Hnn
      have How0 : Hid (wr.ownsRow w.heap.size 9 1 u5 (60 + (valsOf (ts.take 0) key).length) (strVs (zeds 60 ++ valsOf (ts.take 0) key))) := by
        show World.ownsRow _ _ _ _ _ _ _
        have h0 : valsOf (ts.take 0) key = [] := rfl
        rw [h0, List.append_nil]; rw [e] at How; exact How.out
      clear How Hnn e
      go_wp2
      go_loopw [5, 7] (fun s i wr => ∃ (k : Nat), k ≤ ts.length ∧ i = .int .i64 k ∧ Hid (s ≠ .slice none 0 0) ∧ Hid (wr.ownsRow w.heap.size 9 1 s (60 + (valsOf (ts.take k) key).length) (strVs (zeds 60 ++ valsOf (ts.take k) key))) ∧ Below w.heap.size w wr) (fun _ i _ => ts.length - (intOf i).toNat)
      case atStart => exact ⟨0, Nat.zero_le _, rfl, Hnn0, How0, hbw⟩
      case round =>
        clear hbw How0 Hnn0
        obtain ⟨k, hk, rfl, Hnn, How, hbw⟩ := hrel
        have hfb := Hfb.out k
        by_cases hlt : k < ts.length
        · obtain ⟨b, off, rfl, hat⟩ := Hr.out (by omega)
          obtain ⟨h0c, h1c, av, capv, h2c, h3c, h4c, h5c⟩ := (hat k hlt).below hbw
          have he := beq_str (ts[k]'hlt).2.1 key
          have hs := valsOf_succ (key := key) hlt
          have h6 : (ts[k]'hlt).2.2.length ≤ 6 := by have := kindB_parts (Hm.out k hlt); omega
          clear hat
          obtain ⟨KD, KEY, VS, hkv⟩ : ∃ KD KEY VS, ts[k]'hlt = (KD, KEY, VS) := ⟨_, _, _, rfl⟩
          rw [hkv] at h0c h1c h2c h3c h4c he hs h6
          simp only at h0c h1c h2c h3c h4c he hs h6
          clear hkv
          by_cases hq : KEY = key
          · rw [decide_eq_true hq] at he
            rw [if_pos hq] at hs
            have Hs : Hid (zeds 60 ++ valsOf (ts.take (k + 1)) key = zeds 60 ++ valsOf (ts.take k) key ++ VS) := by show _ = _; rw [hs, List.append_assoc]
            have Hs2 : Hid (60 + (valsOf (ts.take (k + 1)) key).length = 60 + (valsOf (ts.take k) key).length + VS.length) := by show _ = _; rw [hs, List.length_append]; omega
            clear hs hq
            generalize valsOf (ts.take k) key = A at *
            cases av with
            | none =>
              have hV : VS.length = 0 := by have := h5c rfl; omega
              have hcap : capv = 0 := h5c rfl
              have hVS : VS = [] := List.eq_nil_of_length_eq_zero hV
              subst hVS hcap
              have How1 := How
              clear h5c h3c h4c
              go_wp2_with (at_builtin; refine wpList_append_own_none rfl _ _ 31 rfl w.heap.size 9 i0 1 Try.underlying31 hi0 _ _ _ rfl How.out rfl ?_)
              go_roundw
              case rel => exact ⟨k + 1, by omega, by go_num, Hnn, (by show World.ownsRow _ _ _ _ _ _ _; rw [Hs.out, Hs2.out, List.append_nil]; exact How1.out), hbw⟩
              case measure => simp [intOf]; omega
            | some ad =>
              have Hcell : Hid (∀ j u, (strVs VS)[j]? = some u → wr.cell? (ad.add j) = some u) := by
                intro j u hj
                have hjl : j < VS.length := by have := (List.getElem?_eq_some_iff.1 hj).1; rwa [strVs_length] at this
                obtain ⟨b2, off2, e2, hat2⟩ := h3c (by omega)
                cases e2
                rw [strVs_get hjl] at hj
                cases hj
                rw [Go.WideShapes.add_plain]
                exact hat2 j hjl
              have Hone : Hid (∀ u ∈ strVs VS, u.oneCell' = true) := by
                intro u hu
                obtain ⟨x, _, rfl⟩ := List.mem_map.1 hu
                rfl
              have Hnl : Hid ((strVs VS).length = VS.length * 1) := by show _ = _; rw [strVs_length]; omega
              have Hsv : Hid (strVs (zeds 60 ++ A ++ VS) = strVs (zeds 60 ++ A) ++ strVs VS) := by show _ = _; unfold strVs; rw [List.map_append]
              clear h5c h3c h4c
              go_wp2_with (at_builtin; refine wpList_append_own _ rfl _ _ 31 rfl w.heap.size 9 i0 _ 1 16 Try.underlying31 hi0 hz0 hz1 hz2 rfl (by decide) _ _ _ rfl How.out ad VS.length capv (strVs VS) rfl Hnl.out Hcell.out Hone.out (by unfold maxLen; omega) (by omega) (by have := hbw.size; omega) ?_; intro v' w3 hown' hgrow3 hnil3)
              go_roundw
              case rel => exact ⟨k + 1, by omega, by go_num, (fun h => Hnn.out (hnil3.1 h).1), (by show World.ownsRow _ _ _ _ _ _ _; rw [Hs.out, Hs2.out, Hsv.out]; exact hown'), Below.grown hbw hgrow3 hbw.size (fun j hj => (How.out.lt _ hj).1)⟩
              case measure => simp [intOf]; omega
          · rw [decide_eq_false hq] at he
            rw [if_neg hq, List.append_nil] at hs
            have How1 : Hid (wr.ownsRow w.heap.size 9 1 u5 (60 + (valsOf (ts.take (k + 1)) key).length) (strVs (zeds 60 ++ valsOf (ts.take (k + 1)) key))) := by rw [hs]; exact How
            clear hs hq h5c h3c h4c
            go_wp2
            go_roundw
            case rel => exact ⟨k + 1, by omega, by go_num, Hnn, How1, hbw⟩
            case measure => simp [intOf]; omega
        · have e : k = ts.length := by omega
          subst e
          rw [List.take_length] at hfb
          have How1 := How.out
          rw [List.take_length] at How1
          obtain ⟨T, hT⟩ : ∃ T, T = zeds 60 ++ valsOf ts key := ⟨_, rfl⟩
          have hTl : 60 + (valsOf ts key).length = T.length := by rw [hT, List.length_append, zeds_len]
          rw [← hT, hTl] at How1
          have hT108 : T.length ≤ 108 := by omega
          have Hf : Hid (∃ g cap, u5 = Value.slice (some ⟨g, 0, none⟩) T.length cap) := by
            rcases How1.2 with ⟨h, _⟩ | ⟨g, cap, cur, h, _⟩
            · exact absurd h Hnn.out
            · exact ⟨g, cap, h⟩
          obtain ⟨g, cp, hv⟩ := Hf.out
          subst hv
          have HT := hide hT
          have Hrow : Hid (strOf wr (some ⟨g, 0, none⟩) T) := strOf_owns How1
          have Hhit : Hid (∀ j, j ≤ T.length → candAll ts key T j = true → aloneB ts key = false) := fun j hj h => alone_hit HT.out hj h
          have Hend : Hid ((∀ j, j < T.length + 1 → candAll ts key T j = false) → aloneB ts key = true) := alone_end HT.out
          clear How How1 Hnn Hf hT hTl hfb Hfb
          obtain ⟨W0, hW0⟩ : ∃ W0, W0 = wr := ⟨_, rfl⟩
          have HbW : Hid (Below w.heap.size w W0) := by rw [hW0]; exact hbw
          have HrW : Hid (strOf W0 (some ⟨g, 0, none⟩) T) := by rw [hW0]; exact Hrow.out
          have HWr : Hid (Below W0.heap.size W0 wr) := by rw [hW0]; exact Below.refl _ _
          clear hW0 Hrow hbw
          go_wp2
          go_loopw [8] (fun i wr => ∃ (j : Nat) (x : Int), j ≤ T.length + 1 ∧ i = .int .i64 x ∧ Hid (x = (j : Int) - 1) ∧ Hid (∀ i, i < j → candAll ts key T i = false) ∧ Below W0.heap.size W0 wr) (fun i _ => T.length + 1 - (intOf i + 1).toNat)
          case atStart => exact ⟨0, -1, by omega, rfl, rfl, fun i hi => by omega, HWr.out⟩
          case round =>
            clear HWr
            obtain ⟨j, x, hj, rfl, hxj, Hx, hbr⟩ := hrel
            have Hstep : Hid (candAll ts key T j = false → ∀ i, i < j + 1 → candAll ts key T i = false) := fun h i hi => by
              by_cases e : i = j
              · rw [e]; exact h
              · exact Hx.out i (by omega)
            by_cases hj0 : j = 0
            · have hx1 : x = -1 := by have := hxj.out; omega
              subst hx1 hj0
              have hlt1 : (-1 : Int) < (T.length : Int) := by omega
              have Hc : Hid (candAll ts key T 0 = allB ts key ⟨#[]⟩ false) := rfl
              clear hxj Hx
              go_wp2
              go_loopw [9, 10] (fun s i wr => ∃ (q : Nat) (B : Bool), q ≤ ts.length ∧ i = .int .i64 q ∧ s = .bool B ∧ Hid (B = allB (ts.take q) key ⟨#[]⟩ false) ∧ Below W0.heap.size W0 wr) (fun _ i _ => ts.length - (intOf i).toNat)
              case atStart => exact ⟨0, true, Nat.zero_le _, rfl, rfl, rfl, hbr⟩
              case round =>
                clear hbr
                obtain ⟨q, B, hq, rfl, rfl, HB, hbr⟩ := hrel
                by_cases hlt : q < ts.length
                · obtain ⟨b, off, rfl, hat⟩ := Hr.out (by omega)
                  have hbwr : Below w.heap.size w wr := HbW.out.trans (hbr.mono HbW.out.size)
                  obtain ⟨h0c, h1c, av, capv, h2c, h3c, h4c, h5c⟩ := (hat q hlt).below hbwr
                  have he := beq_str (ts[q]'hlt).2.1 key
                  have hs := allB_succ (key := key) (v := ⟨#[]⟩) (has := false) hlt
                  rw [← HB.out] at hs
                  have hz := Hz.out _ (List.getElem_mem hlt)
                  have hcon := sholds_any (ts[q]'hlt) ⟨#[]⟩ false av capv wr hz.2.1 h3c
                  clear hat HB h3c h4c h5c hz
                  obtain ⟨KD, KEY, VS, hkv⟩ : ∃ KD KEY VS, ts[q]'hlt = (KD, KEY, VS) := ⟨_, _, _, rfl⟩
                  rw [hkv] at h0c h1c h2c he hs hcon
                  simp only at h0c h1c h2c he hs hcon
                  clear hkv
                  generalize hR : holdsB (KD, KEY, VS) ⟨#[]⟩ false = R at *
                  have Hcon := hide hcon
                  clear hR hcon
                  cases B
                  · have Hs : Hid (false = allB (ts.take (q + 1)) key ⟨#[]⟩ false) := by show _ = _; rw [hs]; rfl
                    clear hs he
                    go_wp2
                    go_roundw
                    case rel => exact ⟨q + 1, false, by omega, by go_num, rfl, Hs, hbr⟩
                    case measure => simp [intOf]; omega
                  · by_cases hkq : KEY = key
                    · have Hs : Hid (R = allB (ts.take (q + 1)) key ⟨#[]⟩ false) := by show _ = _; rw [hs, decide_eq_true hkq]; rfl
                      rw [decide_eq_true hkq] at he
                      clear hs hkq
                      go_wp2_with fail
                      refine Hcon.out.mono ?_
                      rintro e w4 ⟨rfl, hb4⟩
                      go_wp2
                      go_roundw
                      case rel => exact ⟨q + 1, R, by omega, by go_num, rfl, Hs, hbr.trans (hb4.mono hbr.size)⟩
                      case measure => simp [intOf]; omega
                    · have Hs : Hid (true = allB (ts.take (q + 1)) key ⟨#[]⟩ false) := by show _ = _; rw [hs, decide_eq_false hkq]; rfl
                      rw [decide_eq_false hkq] at he
                      clear hs hkq
                      go_wp2
                      go_roundw
                      case rel => exact ⟨q + 1, true, by omega, by go_num, rfl, Hs, hbr⟩
                      case measure => simp [intOf]; omega
                · have e : q = ts.length := by omega
                  subst e
                  have HB' : Hid (B = allB ts key ⟨#[]⟩ false) := by have := HB.out; rw [List.take_length] at this; exact this
                  clear HB
                  cases B
                  · have Hn : Hid (candAll ts key T 0 = false) := Hc.out.trans HB'.out.symm
                    clear HB'
                    go_wp2
                    go_roundw
                    case rel => exact ⟨0 + 1, _, by omega, rfl, (by show _ = _; omega), Hstep.out Hn.out, hbr⟩
                    case measure => simp [intOf]
                  · have Hn : Hid (aloneB ts key = false) := Hhit.out 0 (by omega) (Hc.out.trans HB'.out.symm)
                    clear HB'
                    go_wp2
                    go_ret
                    exact ⟨ret_bool Hn.out.symm, HbW.out.trans (hbr.mono HbW.out.size)⟩
            · by_cases hjt : j < T.length + 1
              · obtain ⟨m, rfl⟩ : ∃ m, j = m + 1 := ⟨j - 1, by omega⟩
                have hx1 : x = (m : Int) := by have := hxj.out; omega
                subst hx1
                have hmT : m < T.length := by omega
                have Hc : Hid (candAll ts key T (m + 1) = allB ts key (ssAt T m) true) := by
                  show _ = _
                  unfold candAll candV
                  rw [if_neg (by omega), Nat.add_sub_cancel, decide_eq_true (by omega)]
                have Hcell : Hid (∀ wx, Below W0.heap.size W0 wx → wx.cell? ⟨g, m, none⟩ = some (.string (ssAt T m))) := fun wx hx => by
                  obtain ⟨b2, off2, e2, hat2⟩ := HrW.out (by omega)
                  cases e2
                  have hc := strAt_cells hat2 m hmT
                  rw [Nat.zero_add] at hc
                  exact (hx.cell (p := ⟨g, m, none⟩) (World.block_lt_of_cell? _ _ hc)).trans hc
                clear hxj Hx hj0
                generalize ssAt T m = V at *
                go_wp2
                go_loopw [9, 10] (fun s i wr => ∃ (q : Nat) (B : Bool), q ≤ ts.length ∧ i = .int .i64 q ∧ s = .bool B ∧ Hid (B = allB (ts.take q) key V true) ∧ Below W0.heap.size W0 wr) (fun _ i _ => ts.length - (intOf i).toNat)
                case atStart => exact ⟨0, true, Nat.zero_le _, rfl, rfl, rfl, hbr⟩
                case round =>
                  clear hbr
                  obtain ⟨q, B, hq, rfl, rfl, HB, hbr⟩ := hrel
                  by_cases hlt : q < ts.length
                  · obtain ⟨b, off, rfl, hat⟩ := Hr.out (by omega)
                    have hbwr : Below w.heap.size w wr := HbW.out.trans (hbr.mono HbW.out.size)
                    obtain ⟨h0c, h1c, av, capv, h2c, h3c, h4c, h5c⟩ := (hat q hlt).below hbwr
                    have he := beq_str (ts[q]'hlt).2.1 key
                    have hs := allB_succ (key := key) (v := V) (has := true) hlt
                    rw [← HB.out] at hs
                    have hz := Hz.out _ (List.getElem_mem hlt)
                    have hcon := sholds_any (ts[q]'hlt) V true av capv wr hz.2.1 h3c
                    have hcv := Hcell.out wr hbr
                    clear hat HB h3c h4c h5c hz
                    obtain ⟨KD, KEY, VS, hkv⟩ : ∃ KD KEY VS, ts[q]'hlt = (KD, KEY, VS) := ⟨_, _, _, rfl⟩
                    rw [hkv] at h0c h1c h2c he hs hcon
                    simp only at h0c h1c h2c he hs hcon
                    clear hkv
                    generalize hR : holdsB (KD, KEY, VS) V true = R at *
                    have Hcon := hide hcon
                    clear hR hcon
                    cases B
                    · have Hs : Hid (false = allB (ts.take (q + 1)) key V true) := by show _ = _; rw [hs]; rfl
                      clear hs he
                      go_wp2
                      go_roundw
                      case rel => exact ⟨q + 1, false, by omega, by go_num, rfl, Hs, hbr⟩
                      case measure => simp [intOf]; omega
                    · by_cases hkq : KEY = key
                      · have Hs : Hid (R = allB (ts.take (q + 1)) key V true) := by show _ = _; rw [hs, decide_eq_true hkq]; rfl
                        rw [decide_eq_true hkq] at he
                        clear hs hkq
                        go_wp2_with fail
                        refine Hcon.out.mono ?_
                        rintro e w4 ⟨rfl, hb4⟩
                        go_wp2
                        go_roundw
                        case rel => exact ⟨q + 1, R, by omega, by go_num, rfl, Hs, hbr.trans (hb4.mono hbr.size)⟩
                        case measure => simp [intOf]; omega
                      · have Hs : Hid (true = allB (ts.take (q + 1)) key V true) := by show _ = _; rw [hs, decide_eq_false hkq]; rfl
                        rw [decide_eq_false hkq] at he
                        clear hs hkq
                        go_wp2
                        go_roundw
                        case rel => exact ⟨q + 1, true, by omega, by go_num, rfl, Hs, hbr⟩
                        case measure => simp [intOf]; omega
                  · have e : q = ts.length := by omega
                    subst e
                    have HB' : Hid (B = allB ts key V true) := by have := HB.out; rw [List.take_length] at this; exact this
                    clear HB
                    cases B
                    · have Hn : Hid (candAll ts key T (m + 1) = false) := Hc.out.trans HB'.out.symm
                      clear HB'
                      go_wp2
                      go_roundw
                      case rel => exact ⟨(m + 1) + 1, _, by omega, rfl, (by show _ = _; omega), Hstep.out Hn.out, hbr⟩
                      case measure => simp [intOf]; omega
                    · have Hn : Hid (aloneB ts key = false) := Hhit.out (m + 1) (by omega) (Hc.out.trans HB'.out.symm)
                      clear HB'
                      go_wp2
                      go_ret
                      exact ⟨ret_bool Hn.out.symm, HbW.out.trans (hbr.mono HbW.out.size)⟩
              · have e : j = T.length + 1 := by omega
                have hx1 : x = (T.length : Int) := by have := hxj.out; omega
                subst hx1
                have Hn : Hid (aloneB ts key = true) := Hend.out fun i hi => Hx.out i (by omega)
                clear Hx Hstep hxj e
                go_wp2
                go_ret
                exact ⟨ret_bool Hn.out.symm, HbW.out.trans (hbr.mono HbW.out.size)⟩

theorem never_sel {ts : List TD} (h : selB ts = false) : neverB ts = false := by unfold neverB; rw [h]; rfl
theorem never_hit {ts : List TD} (h : selB ts = true) {k : Nat} (hk : k < ts.length) (ha : aloneB ts (ts[k]'hk).2.1 = true) : neverB ts = true := by
  unfold neverB
  rw [h, Bool.true_and, List.any_eq_true]
  exact ⟨_, List.getElem_mem hk, ha⟩
theorem never_end {ts : List TD} (h : ∀ k (hk : k < ts.length), aloneB ts (ts[k]'hk).2.1 = false) : neverB ts = false := by
  unfold neverB
  have : (ts.any fun t => aloneB ts t.2.1) = false := by
    rw [List.any_eq_false]
    intro t ht
    obtain ⟨i, hi, rfl⟩ := List.getElem_of_mem ht
    rw [h i hi]; simp
  rw [this, Bool.and_false]

theorem snever_any (a : Option Addr) (cap : Nat) (ts : List TD) (w : World) (hl : ts.length ≤ maxLen) (hz : okTerms ts) (hrow : termsOf w a ts) :
    Calls Try.prog 33 #[.slice a ts.length cap] w fun e w' => e = .returned (.bool (neverB ts)) ∧ Below w.heap.size w w' := by
  have hl0 := hl
  unfold maxLen at hl
  have Hr := hide hrow
  have hA := fun wx hx => sselOk_any a cap ts wx hl0 hz hx
  have hB := fun key wx hs hx => salone_any a cap ts key wx hs hz hx
  clear hrow hz hl0
  cases h1 : selB ts
  · rw [h1] at hA
    have HA := hide hA
    have Hn := hide (never_sel h1)
    have Hnn : Hid (ts.length = 0 → neverB ts = false) := fun _ => Hn.out
    clear hA hB h1
    by_cases h0 : 0 < ts.length
    · go_enter Try.func33, Try.ntmps33
      go_wp2
      go_loopw [3] (fun i wr => i = .int .i64 0 ∧ Below w.heap.size w wr) (fun i _ => 0)
      case atStart => exact ⟨rfl, Below.refl _ _⟩
      case round =>
        obtain ⟨rfl, hbw⟩ := hrel
        go_wp2_with fail
        refine (HA.out _ (Hr.out.below hbw)).mono ?_
        rintro e w1 ⟨rfl, hb1⟩
        go_wp2
        go_ret
        exact ⟨ret_bool Hn.out.symm, hbw.trans (hb1.mono hbw.size)⟩
    · go_enter Try.func33, Try.ntmps33
      have hle : (ts.length : Int) ≤ 0 := by omega
      go_wp2
      go_loopw [3] (fun i wr => i = .int .i64 0 ∧ Below w.heap.size w wr) (fun i _ => 0)
      case atStart => exact ⟨rfl, Below.refl _ _⟩
      case round =>
        obtain ⟨rfl, hbw⟩ := hrel
        go_wp2
        go_ret
        exact ⟨ret_bool Hn.out.symm, hbw⟩
  rw [h1] at hA
  have HA := hide hA
  have HB : Hid (∀ key wx, termsOf wx a ts → Calls Try.prog 79 #[.slice a ts.length cap, .string key] wx fun e w' => e = .returned (.bool (aloneB ts key)) ∧ Below wx.heap.size wx w') := fun key wx hx => hB key wx h1 hx
  have Hhit : Hid (∀ k (hk : k < ts.length), aloneB ts (ts[k]'hk).2.1 = true → neverB ts = true) := fun k hk h => never_hit h1 hk h
  clear hA hB h1
  go_enter Try.func33, Try.ntmps33
  go_wp2
  go_loopw [3] (fun i wr => ∃ (k : Nat), k ≤ ts.length ∧ i = .int .i64 k ∧ Hid (∀ j (hj : j < ts.length), j < k → aloneB ts (ts[j]'hj).2.1 = false) ∧ Below w.heap.size w wr) (fun i _ => ts.length - (intOf i).toNat)
  case atStart => exact ⟨0, Nat.zero_le _, rfl, fun j hj h => by omega, Below.refl _ _⟩
  case round =>
    obtain ⟨k, hk, rfl, Hx, hbw⟩ := hrel
    by_cases hlt : k < ts.length
    · have Hb : Hid (aloneB ts (ts[k]'hlt).2.1 = true → neverB ts = true) := fun h => Hhit.out k hlt h
      have Hs : Hid (aloneB ts (ts[k]'hlt).2.1 = false → ∀ j (hj : j < ts.length), j < k + 1 → aloneB ts (ts[j]'hj).2.1 = false) := fun h j hj hjk => by
        by_cases e : j = k
        · subst e; exact h
        · exact Hx.out j hj (by omega)
      go_wp2_with fail
      refine (HA.out _ (Hr.out.below hbw)).mono ?_
      rintro e w1 ⟨rfl, hb1⟩
      have hbw1 := hbw.trans (hb1.mono hbw.size)
      have Hr1 := hide (Hr.out.below hbw1)
      obtain ⟨b, off, rfl, hat⟩ := Hr1.out (by omega)
      have h1c := (hat k hlt).2.1
      clear hat hb1 Hx
      generalize (ts[k]'hlt).2.1 = key at *
      have hcon := HB.out key w1 Hr1.out
      cases hal : aloneB ts key
      · rw [hal] at hcon
        have Hcon := hide hcon
        have Hn := hide (Hs.out hal)
        clear hcon hal Hs Hb
        go_wp2_with fail
        refine Hcon.out.mono ?_
        rintro e w2 ⟨rfl, hb2⟩
        go_wp2
        go_roundw
        case rel => exact ⟨k + 1, by omega, by go_num, Hn, hbw1.trans (hb2.mono hbw1.size)⟩
        case measure => simp [intOf]; omega
      · rw [hal] at hcon
        have Hcon := hide hcon
        have Hn := hide (Hb.out hal)
        clear hcon hal Hs Hb
        go_wp2_with fail
        refine Hcon.out.mono ?_
        rintro e w2 ⟨rfl, hb2⟩
        go_wp2
        go_ret
        exact ⟨ret_bool Hn.out.symm, hbw1.trans (hb2.mono hbw1.size)⟩
    · have e : k = ts.length := by omega
      subst e
      have Hn := hide (never_end fun i hi => Hx.out i hi hi)
      clear Hx Hr
      go_wp2
      go_ret
      exact ⟨ret_bool Hn.out.symm, hbw⟩
end Go.Proofs.Ytbadjopaocindaa
