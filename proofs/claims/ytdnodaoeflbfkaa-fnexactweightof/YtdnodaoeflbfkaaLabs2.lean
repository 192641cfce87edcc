import Derived.Test.YtdnodaoeflbfkaaLabs
import Derived.Deep.RegionWith
namespace Go.Proofs.Ytdnodaoeflbfkaa
open Go.RowKit

/-- where a slice value of labels leads, in a world -/
def rowOf (w : World) (a : Option Addr) (ls : List (ByteArray × ByteArray)) : Prop := 0 < ls.length → ∃ b off, a = some ⟨b, off, none⟩ ∧ labsAt w b off ls

theorem eqLabelS_any (a a' : Option Addr) (cap cap' : Nat) (ls ls' : List (ByteArray × ByteArray)) (w : World) (hl : ls.length ≤ maxLen) (hl' : ls'.length ≤ maxLen)
    (hrow : rowOf w a ls) (hrow' : rowOf w a' ls') :
    Calls Try.prog 84 #[.slice a ls.length cap, .slice a' ls'.length cap'] w fun e w' => e = .returned (.bool (decide (ls = ls'))) ∧ Below w.heap.size w w' := by
  unfold maxLen at hl hl'
  have Hr : Hid (rowOf w a ls) := hrow
  have Hr' : Hid (rowOf w a' ls') := hrow'
  clear hrow hrow'
  by_cases hll : ls.length = ls'.length
  · have hb0 : ((ls.length : Int) != (ls'.length : Int)) = false := by rw [bne_eq_false_iff_eq]; omega
    have Hl : Hid (ls.length = ls'.length) := hll
    have hle : ls.length ≤ ls'.length := by omega
    have hge : ls'.length ≤ ls.length := by omega
    clear hll
    go_enter Try.func84, Try.ntmps84
    go_wp2
    go_loopw [5] (fun i wr => ∃ (k : Nat), k ≤ ls.length ∧ i = .int .i64 k ∧ Hid (∀ j, j < k → ls[j]? = ls'[j]?) ∧ Below w.heap.size w wr) (fun i _ => ls.length - (intOf i).toNat)
    case atStart => exact ⟨0, Nat.zero_le _, rfl, fun j hj => by omega, Below.refl _ _⟩
    case round =>
      obtain ⟨k, hk, rfl, Hx, hbw⟩ := hrel
      by_cases hlt : k < ls.length
      · have hlt' : k < ls'.length := by omega
        obtain ⟨b, off, rfl, hat⟩ := Hr.out (by omega)
        obtain ⟨b', off', rfl, hat'⟩ := Hr'.out (by omega)
        have hbb : b < w.heap.size := World.block_lt_of_cell? _ _ (hat k hlt).1
        have hbb' : b' < w.heap.size := World.block_lt_of_cell? _ _ (hat' k hlt').1
        have c0 := (hbw.cell (p := ⟨b, off + k * 2, none⟩) hbb).trans (hat k hlt).1
        have c2 := (hbw.cell (p := ⟨b, off + k * 2 + 1, none⟩) hbb).trans (hat k hlt).2
        have c0' := (hbw.cell (p := ⟨b', off' + k * 2, none⟩) hbb').trans (hat' k hlt').1
        have c2' := (hbw.cell (p := ⟨b', off' + k * 2 + 1, none⟩) hbb').trans (hat' k hlt').2
        obtain ⟨K, V, hkv⟩ : ∃ K V, ls[k]'hlt = (K, V) := ⟨_, _, rfl⟩
        obtain ⟨K', V', hkv'⟩ : ∃ K V, ls'[k]'hlt' = (K, V) := ⟨_, _, rfl⟩
        rw [hkv] at c0 c2
        rw [hkv'] at c0' c2'
        have Hg : Hid (ls[k]? = some (K, V) ∧ ls'[k]? = some (K', V')) := ⟨by rw [← hkv]; exact List.getElem?_eq_getElem _, by rw [← hkv']; exact List.getElem?_eq_getElem _⟩
        clear hkv hat hkv' hat'
        simp only at c0 c2 c0' c2'
        have hcon : ∀ wx, Below w.heap.size w wx → Calls Try.prog 158 #[.agg #[.string K, .string V], .agg #[.string K', .string V']] wx fun e w' => e = .returned (.bool (decide ((K, V) = (K', V')))) ∧ Below w.heap.size w w' :=
          fun wx hx => (eqLabel_any K V K' V' wx).mono fun e w' h => ⟨h.1, hx.trans (h.2.mono hx.size)⟩
        by_cases hq : (K, V) = (K', V')
        · rw [decide_eq_true hq] at hcon
          have Hn : Hid (∀ j, j < k + 1 → ls[j]? = ls'[j]?) := by
            intro j hj
            by_cases e : j = k
            · rw [e, Hg.out.1, Hg.out.2, hq]
            · exact Hx.out j (by omega)
          have Hcon := hide hcon
          clear hcon hq Hg Hx
          go_wp2
          go_region_with (go_at_call 158; refine (Hcon.out _ (by repeat (first | exact hbw | refine Below.drew ?_ | refine below_drewN ?_ _))).mono ?_; rintro e w2 ⟨rfl, hb2⟩)
          all_goals go_wp2
          all_goals (
            go_roundw
            case rel => exact ⟨k + 1, by omega, by go_num, Hn, by repeat (first | exact hb2 | refine Below.drew ?_ | refine below_drewN ?_ _)⟩
            case measure => simp [intOf]; omega)
        · rw [decide_eq_false hq] at hcon
          have Hn : Hid (decide (ls = ls') = false) := by
            show _ = _
            rw [decide_eq_false_iff_not]
            rintro rfl
            exact hq (by rw [Hg.out.1] at Hg; exact Option.some.inj Hg.out.2)
          have Hcon := hide hcon
          clear hcon hq Hg Hx
          go_wp2
          go_region_with (go_at_call 158; refine (Hcon.out _ (by repeat (first | exact hbw | refine Below.drew ?_ | refine below_drewN ?_ _))).mono ?_; rintro e w2 ⟨rfl, hb2⟩)
          all_goals go_wp2
          all_goals go_ret
          all_goals exact ⟨ret_bool Hn.out.symm, by repeat (first | exact hb2 | refine Below.drew ?_ | refine below_drewN ?_ _)⟩
      · have Hn : Hid (decide (ls = ls') = true) := by
          show _ = _
          rw [decide_eq_true_eq]
          apply List.ext_getElem?
          intro j
          by_cases hj : j < k
          · exact Hx.out j hj
          · rw [List.getElem?_eq_none (by omega), List.getElem?_eq_none (by omega)]
        have e : k = ls.length := by omega
        subst e
        clear Hx
        go_wp2
        go_ret
        exact ⟨ret_bool Hn.out.symm, hbw⟩
  · have hb0 : ((ls.length : Int) != (ls'.length : Int)) = true := by rw [bne_iff_ne]; omega
    have Hn : Hid (decide (ls = ls') = false) := by
      show _ = _
      rw [decide_eq_false_iff_not]
      rintro rfl
      exact hll rfl
    clear hll
    go_enter Try.func84, Try.ntmps84
    go_wp2
    go_ret
    exact ⟨ret_bool Hn.out.symm, Below.refl _ _⟩
end Go.Proofs.Ytdnodaoeflbfkaa
