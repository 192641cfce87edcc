import Derived.Test.YtlbpfcchaobgjaaDoorLabs6
import Derived.Test.YtlbpfcchaobgjaaDoorLabs7
import Derived.Test.YtlbpfcchaobgjaaDoorShelf
import Derived.Deep.QuietTactic
namespace Go.Proofs.YtlbpfcchaobgjaaDoor
open Go.RowKit Go.BigFrame
set_option linter.unusedVariables false

theorem bs_append (a b : ByteArray) : (a ++ b).data.toList = a.data.toList ++ b.data.toList := by
  simp
theorem bs_ext {a b : ByteArray} (h : a.data.toList = b.data.toList) : a = b := ByteArray.ext (Array.ext' h)
def partL (p : ByteArray × ByteArray) : List UInt8 := p.1.data.toList ++ 61 :: p.2.data.toList
def partB (p : ByteArray × ByteArray) : ByteArray := (p.1 ++ ⟨#[61]⟩) ++ p.2
theorem partB_list (p : ByteArray × ByteArray) : (partB p).data.toList = partL p := by
  unfold partB partL
  rw [bs_append, bs_append]
  simp
def txL (ls : List (ByteArray × ByteArray)) : List UInt8 := Lib.join (ls.map partL) [44]
theorem joinTail_snoc (sep : List UInt8) (r : List (List UInt8)) (y : List UInt8) : Lib.joinTail sep (r ++ [y]) = Lib.joinTail sep r ++ (sep ++ y) := by
  unfold Lib.joinTail
  simp
theorem txL_first (p : ByteArray × ByteArray) : txL ([] ++ [p]) = partL p := Lib.join_one _ _
theorem txL_snoc (x : ByteArray × ByteArray) (r : List (ByteArray × ByteArray)) (p : ByteArray × ByteArray) : txL ((x :: r) ++ [p]) = txL (x :: r) ++ ([44] ++ partL p) := by
  unfold txL
  rw [List.cons_append, List.map_cons, Lib.join_cons, List.map_append, List.map_cons, List.map_nil, joinTail_snoc, List.map_cons, Lib.join_cons, List.append_assoc]
def txB (ls : List (ByteArray × ByteArray)) : ByteArray := ⟨(txL ls).toArray⟩
theorem txB_zero (K V : ByteArray) : ((txB [] ++ K) ++ ⟨#[61]⟩) ++ V = txB ([] ++ [(K, V)]) := by
  apply bs_ext
  rw [bs_append, bs_append, bs_append]
  show _ = (txL ([] ++ [(K, V)]))
  rw [txL_first]
  show ((txL [] ++ _) ++ _) ++ _ = _
  simp [txL, partL, Lib.join, List.intercalate]
theorem txB_succ (x : ByteArray × ByteArray) (r : List (ByteArray × ByteArray)) (K V : ByteArray) : (((txB (x :: r) ++ ⟨#[44]⟩) ++ K) ++ ⟨#[61]⟩) ++ V = txB ((x :: r) ++ [(K, V)]) := by
  apply bs_ext
  rw [bs_append, bs_append, bs_append, bs_append]
  show _ = (txL ((x :: r) ++ [(K, V)]))
  rw [txL_snoc]
  show (((txL (x :: r) ++ _) ++ _) ++ _) ++ _ = _
  simp [partL]
theorem sz_five (t K V : ByteArray) : ((((t ++ ⟨#[44]⟩) ++ K) ++ ⟨#[61]⟩) ++ V).size = t.size + K.size + V.size + 2 := by
  rw [ByteArray.size_append, ByteArray.size_append, ByteArray.size_append, ByteArray.size_append]
  have h1 : (⟨#[61]⟩ : ByteArray).size = 1 := rfl
  have h2 : (⟨#[44]⟩ : ByteArray).size = 1 := rfl
  rw [h1, h2]
  omega
def textB (ls : List (ByteArray × ByteArray)) : ByteArray := if labelsB ls then txB ls else ⟨#[]⟩
theorem nameB_size {s : ByteArray} (h : nameB s = true) : s.size ≤ 20 := by
  unfold nameB at h; rw [decide_eq_true_eq] at h; exact h.2.2.1
theorem labelsB_at {ls : List (ByteArray × ByteArray)} (h : labelsB ls = true) {k : Nat} (hk : k < ls.length) : (keyAt ls k).size ≤ 20 ∧ (valAt ls k).size ≤ 20 := by
  unfold labelsB at h
  rw [decide_eq_true_eq] at h
  exact ⟨nameB_size (h.2 k hk).1, nameB_size (h.2 k hk).2.1⟩
theorem labelsB_len {ls : List (ByteArray × ByteArray)} (h : labelsB ls = true) : ls.length ≤ 8 := by
  unfold labelsB at h
  rw [decide_eq_true_eq] at h
  exact h.1

theorem Tryd.info9 : (Tryd.prog.info? 9).map (fun i => (i.zero, i.size, i.bytes)) = some (some (.string ByteArray.empty), 1, 16) := by kernel_rfl
theorem cell_one_at (w : World) (n : Nat) (h : w.heap.size = n) (a : Value) (t : TypeId) : ∀ j u, [a][j]? = some u → (w.alloc (.cells #[a] t)).cell? ((⟨n, 0, none⟩ : Addr).add j) = some u := by
  subst h
  intro j u hj
  match j, hj with
  | 0, hj => simp at hj; subst hj; simp [Addr.add]
  | j + 1, hj => simp at hj
def partsV (ls : List (ByteArray × ByteArray)) : List Value := ls.map fun p => .string (partB p)

theorem txB_size (ls : List (ByteArray × ByteArray)) (h : ∀ k, k < ls.length → (keyAt ls k).size ≤ 20 ∧ (valAt ls k).size ≤ 20) : ∀ k, k ≤ ls.length → (txB (ls.take k)).size ≤ 42 * k
  | 0, _ => Nat.zero_le _
  | k + 1, hk => by
    have ih := txB_size ls h k (by omega)
    have hs := h k (by omega)
    rw [take_succ_at ls k (by omega)]
    generalize keyAt ls k = K at *
    generalize valAt ls k = V at *
    cases hx : ls.take k with
    | nil =>
      rw [← txB_zero]
      rw [hx] at ih
      rw [ByteArray.size_append, ByteArray.size_append, ByteArray.size_append]
      have h1 : (⟨#[61]⟩ : ByteArray).size = 1 := rfl
      have h0 : (txB []).size = 0 := rfl
      omega
    | cons x r =>
      rw [← txB_succ, sz_five]
      rw [hx] at ih
      omega
theorem join_parts (ls : List (ByteArray × ByteArray)) : Lib.join ((ls.map partB).map (·.data.toList)) (⟨#[44]⟩ : ByteArray).data.toList = txL ls := by
  unfold txL
  rw [List.map_map, show ((fun x : ByteArray => x.data.toList) ∘ partB) = partL from funext partB_list]
theorem join_any (g cp : Nat) (ls : List (ByteArray × ByteArray)) (w : World) (B : Nat) (hown : w.ownsRow B 9 1 (.slice (some ⟨g, 0, none⟩) ls.length cp) ls.length (partsV ls)) (hn : ls.length ≤ 8) (ht : (txB ls).size ≤ 336) :
    Calls Tryd.prog 42 #[.slice (some ⟨g, 0, none⟩) ls.length cp, .string ⟨#[44]⟩] w fun e w' => e = .returned (.string (txB ls)) ∧ Below w.heap.size w w' := by
  have hg : g < w.heap.size ∧ ls.length ≤ cp := by
    rcases hown.2 with ⟨h, _⟩ | ⟨g', cap', cur, h, hbs, hh, h1, _⟩
    · cases h
    · cases h; exact ⟨(Array.getElem?_eq_some_iff.1 hh).1, h1⟩
  have hj := Tryd.strings_Join g 0 cp (ls.map partB) ⟨#[44]⟩ w (fun j x hx => by
      rw [List.getElem?_map] at hx
      obtain ⟨p, hp, rfl⟩ := Option.map_eq_some_iff.1 hx
      have hlt : j < ls.length := (List.getElem?_eq_some_iff.1 hp).1
      rw [Nat.zero_add, hown.cellAt j (by omega)]
      unfold partsV
      rw [List.getElem?_map, hp]
      rfl) hg.1 (by rw [List.length_map]; omega) (by rw [List.length_map]; exact hg.2) (by rw [join_parts]; have : (txL ls).length = (txB ls).size := rfl; omega)
  rw [List.length_map, join_parts] at hj
  exact hj

set_option maxHeartbeats 800000 in
theorem ilabelsText_any (a : Option Addr) (cap : Nat) (ls : List (ByteArray × ByteArray)) (w : World) (hl : ls.length ≤ maxLen) (hrow : rowOf w a ls) :
    Calls Tryd.prog 15 #[.slice a ls.length cap] w fun e w' => e = .returned (.string (textB ls)) ∧ Below w.heap.size w w' := by
  have Hr := hide hrow
  clear hrow
  by_cases hb : labelsB ls = true
  · obtain ⟨i0, hi, hz0, hz1, hz2⟩ := info_parts Tryd.info9
    have hle := labelsB_len hb
    have Hat : Hid (∀ k, k < ls.length → (keyAt ls k).size ≤ 20 ∧ (valAt ls k).size ≤ 20) := fun k hk => labelsB_at hb hk
    have HT : Hid (textB ls = txB ls) := by show _ = _; unfold textB; rw [if_pos hb]
    have hsl := fun wx => ilabelsOk_any a cap ls wx hl
    rw [hb] at hsl
    have Hsl := hide hsl
    clear hb hsl
    go_enter Tryd.func15, Tryd.ntmps15
    go_wp2_with fail
    refine (Hsl.out _ Hr.out).mono ?_
    rintro e w1 ⟨rfl, hb1⟩
    have Hr1 := hide (Hr.out.below hb1)
    go_wp2
    go_loopw [3, 12] (fun s i wr => ∃ (k : Nat), k ≤ ls.length ∧ i = .int .i64 k ∧ Hid (s ≠ .slice none 0 0) ∧ Hid (wr.ownsRow w1.heap.size 9 1 s k (partsV (ls.take k))) ∧ Below w1.heap.size w1 wr) (fun _ i _ => ls.length - (intOf i).toNat)
    case atStart => exact ⟨0, Nat.zero_le _, rfl, (fun h => by cases h), World.ownsRow_lit w1 #[] 0 (Nat.le_refl _) (by decide) rfl, (Below.refl _ _).alloc (Nat.le_refl _) _⟩
    case round =>
      obtain ⟨k, hk, rfl, Hnn, How, hbw⟩ := hrel
      by_cases hlt : k < ls.length
      · obtain ⟨b, off, rfl, hat⟩ := Hr1.out (by omega)
        have hc := cellsOf_of hat
        have hbb : b < w1.heap.size := World.block_lt_of_cell? _ _ (hat k hlt).1
        have c0 := (hbw.cell (p := ⟨b, off + k * 2, none⟩) hbb).trans (hc k hlt).1
        have c2 := (hbw.cell (p := ⟨b, off + k * 2 + 1, none⟩) hbb).trans (hc k hlt).2
        have hs := Hat.out k hlt
        have Hn : Hid (partsV (ls.take (k + 1)) = partsV (ls.take k) ++ [.string ((keyAt ls k ++ ⟨#[61]⟩) ++ valAt ls k)]) := by
          show _ = _
          rw [take_succ_at ls k hlt]
          unfold partsV
          rw [List.map_append]
          rfl
        clear hat hc
        generalize keyAt ls k = K at *
        generalize valAt ls k = V at *
        obtain ⟨hsK, hsV⟩ := hs
        go_wp2_with (at_builtin; refine wpList_append_own _ rfl _ _ 58 rfl w1.heap.size 9 i0 _ 1 16 Tryd.underlying58 hi hz0 hz1 hz2 rfl (by decide) _ _ _ rfl ((How.out.alloc _).alloc _) ⟨wr.heap.size + 1, 0, none⟩ 1 1 [.string ((K ++ ⟨#[61]⟩) ++ V)] rfl rfl (cell_one_at _ _ (by simp) _ _) (fun x hx => by simp at hx; rcases hx with rfl; rfl) (by unfold maxLen; omega) (by omega) (by have := hbw.size; simp; omega) ?_; intro v' w3 hown' hgrow3 hnil3)
        go_roundw
        case rel => exact ⟨k + 1, by omega, by go_num, (fun h => Hnn.out (hnil3.1 h).1), (by rw [Hn.out]; exact hown'), Below.grown ((hbw.alloc hbw.size _).alloc (by have := hbw.size; simp; omega) _) hgrow3 (by have := hbw.size; simp; omega) (fun j hj => (How.out.lt _ hj).1)⟩
        case measure => simp [intOf]; omega
      · have e : k = ls.length := by omega
        subst e
        have Hf : Hid (∃ g cap, u3 = Value.slice (some ⟨g, 0, none⟩) ls.length cap) := by
          rcases How.out.2 with ⟨h, _⟩ | ⟨g, cap, cur, h, _⟩
          · exact absurd h Hnn.out
          · exact ⟨g, cap, h⟩
        obtain ⟨g, cp, hv⟩ := Hf.out
        subst hv
        have How' : Hid (wr.ownsRow w1.heap.size 9 1 (Value.slice (some ⟨g, 0, none⟩) ls.length cp) ls.length (partsV ls)) := by have := How.out; rw [List.take_length] at this; exact this
        have Hts : Hid ((txB ls).size ≤ 336) := by have := txB_size ls Hat.out ls.length (Nat.le_refl _); rw [List.take_length] at this; exact Nat.le_trans this (by omega)
        clear How Hnn Hf Hat Hr Hr1
        go_wp2_with fail
        refine (join_any g cp ls _ _ How'.out hle Hts.out).mono ?_
        rintro e w3 ⟨rfl, hb3⟩
        go_wp2
        go_ret
        exact ⟨by rw [HT.out]; rfl, hb1.trans ((hbw.trans (hb3.mono hbw.size)).mono hb1.size)⟩
  · have hbf : labelsB ls = false := by simpa using hb
    have HT : Hid (textB ls = ⟨#[]⟩) := by show _ = _; unfold textB; rw [if_neg hb]
    have hsl := fun wx => ilabelsOk_any a cap ls wx hl
    rw [hbf] at hsl
    have Hsl := hide hsl
    clear hb hsl hbf
    go_enter Tryd.func15, Tryd.ntmps15
    go_wp2_with fail
    refine (Hsl.out _ Hr.out).mono ?_
    rintro e w1 ⟨rfl, hb1⟩
    clear Hr
    go_wp2
    go_ret
    exact ⟨by rw [HT.out]; rfl, hb1⟩
end Go.Proofs.YtlbpfcchaobgjaaDoor
