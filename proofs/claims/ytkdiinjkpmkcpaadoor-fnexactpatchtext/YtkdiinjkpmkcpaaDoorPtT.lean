/- The texts of ops: their words, their paths, their values; the tables that the program reads. -/
import Derived.Test.YtkdiinjkpmkcpaaDoorPkS
import Derived.Test.YtkdiinjkpmkcpaaDoorVTxO
namespace Go.Proofs.YtkdiinjkpmkcpaaDoor
open Go.RowKit Go.BigFrame
set_option linter.unusedVariables false

theorem nm_br : ∀ (N : Nat) (d : UD) (v : VT N), Br N d v → tyL d (uE 6) → nmVT N v
  | 0, _, _, _, _ => trivial
  | N + 1, d, v, ⟨z0, z1, z2, n3, c3, n4, c4, e, hh, hk, hr⟩, ht => by
    obtain ⟨y0, y1, y2, m3, e3, m4, e4, e', g0, g1, g2, g3, g4⟩ := partsValue ht
    rw [e] at e'
    cases e'
    refine ⟨by rw [hh]; exact g2, fun x hx => ?_⟩
    obtain ⟨i, hi, rfl⟩ := List.mem_iff_getElem.1 hx
    exact nm_br N _ _ (hr i hi) (g4.row (by omega))
/-- both print a value as t -/
def txS (d : UD) (t : ByteArray) : Prop := ∀ (w : World) (lo hi : Nat) (xs : List Value), uH w lo hi d xs → Calls Tryd.prog 11 #[.agg xs.toArray] w fun e w' => e = .returned (.string t) ∧ Below w.heap.size w w'
def txI (d : UD) (t : ByteArray) : Prop := ∀ (m : Int) (w : World) (lo hi : Nat) (xs : List Value), Tbs m w → uH w lo hi d xs → Calls Tryd.prog 29 #[.agg xs.toArray] w fun e w' => e = .returned (.string t) ∧ Below w.heap.size w w'
theorem val_texts (d : UD) (ht : tyL d (uE 6)) : ∃ (x : Bool × ByteArray), vokS d x.1 ∧ vokI d x.1 ∧ x.2.size ≤ 76800 ∧ (x.1 = true → txS d x.2 ∧ txI d x.2) := by
  obtain ⟨v, h1, h2, h3⟩ := bridge (uszD d + 1) d (by omega) ht
  have hn := nm_br _ d v h2 ht
  cases hb : vokB _ v with
  | false => exact ⟨(false, ⟨#[]⟩), fun w lo hi xs h => by rw [← hb]; exact sValueOk_any v _ w h1 (h3 w lo hi xs h), fun w lo hi xs h => by rw [← hb]; exact iValueOk_any v _ w h1 (h3 w lo hi xs h), by decide, fun h => by cases h⟩
  | true =>
    have hr := vok_rgt hn hb
    have hsz : (vtx _ v).size ≤ 76800 := by
      unfold vokB sizB at hb
      rw [decide_eq_true_eq] at hb
      unfold upTo at hb
      split at hb
      · rename_i hle
        have := (rgt_of _ 6 v hn (by omega) hle).2
        omega
      · omega
    exact ⟨(true, vtx _ v), fun w lo hi xs h => by rw [← hb]; exact sValueOk_any v _ w h1 (h3 w lo hi xs h), fun w lo hi xs h => by rw [← hb]; exact iValueOk_any v _ w h1 (h3 w lo hi xs h), hsz, fun _ => ⟨fun w lo hi xs h => print_any _ v _ w hr (h3 w lo hi xs h), fun m w lo hi xs ht h => textOfRight_any m _ v _ w hr (h3 w lo hi xs h) ht⟩⟩
/-- the words of ops, with the blank behind them -/
def wdB (z0 : Int) : ByteArray := if z0 = 1 then ⟨#[115, 101, 116, 32]⟩ else if z0 = 2 then ⟨#[100, 114, 111, 112, 32]⟩ else ⟨#[110, 101, 101, 100, 32]⟩
def wd0 (z0 : Int) : ByteArray := if z0 = 1 then ⟨#[115, 101, 116]⟩ else if z0 = 2 then ⟨#[100, 114, 111, 112]⟩ else ⟨#[110, 101, 101, 100]⟩
theorem wd_blank (z0 : Int) : wd0 z0 ++ ⟨#[32]⟩ = wdB z0 := by
  unfold wd0 wdB
  split
  · exact bs_ext' (by simp)
  · split
    · exact bs_ext' (by simp)
    · exact bs_ext' (by simp)
theorem wdB_size (z0 : Int) : (wdB z0).size ≤ 5 := by
  unfold wdB
  split
  · exact Nat.le_succ 4
  · split
    · exact Nat.le_refl 5
    · exact Nat.le_refl 5
/-- an op's text without its end -/
def opB (z0 : Int) (c1 : UD) (t : ByteArray) : ByteArray := if z0 = 2 then wdB z0 ++ jn 47 (strL c1) else ((wdB z0 ++ jn 47 (strL c1)) ++ ⟨#[32]⟩) ++ t
def lineU (d : UD) (t : ByteArray) : ByteArray := match d with
  | .p (.int _ z0) (.l _ _ c1 _) => opB z0 c1 t ++ ⟨#[10]⟩
  | _ => ⟨#[]⟩
/-- the first k lines -/
def ptxTo (cs : UD) (T : Nat → ByteArray) : Nat → ByteArray
  | 0 => ⟨#[]⟩
  | k + 1 => ptxTo cs T k ++ lineU (rowU cs 7 k) (T k)
theorem nm_jn {c1 : UD} (h : allNm c1) (hl : (strL c1).length ≤ 5) : ∀ k, k ≤ (strL c1).length → (jn 47 ((strL c1).take k)).size ≤ 105 := fun k hk => by
  have hp : ∀ p ∈ strL c1, p.size ≤ 20 := fun p hp => by
    obtain ⟨i, hi, rfl⟩ := List.mem_iff_getElem.1 hp
    exact name_size (h i hi)
  have h1 := jn_size 47 20 _ hp k hk
  have h2 : (20 + 1) * k ≤ 21 * 5 := Nat.mul_le_mul (Nat.le_refl _) (by omega)
  omega
theorem opB_size {z0 : Int} {c1 : UD} {t : ByteArray} (h : allNm c1) (hl : (strL c1).length ≤ 5) (ht : t.size ≤ 76800) : (opB z0 c1 t).size ≤ 77000 := by
  have h1 := nm_jn h hl _ (Nat.le_refl _)
  rw [List.take_length] at h1
  have h2 := wdB_size z0
  unfold opB
  split <;> simp only [ByteArray.size_append, one_size] <;> omega
end Go.Proofs.YtkdiinjkpmkcpaaDoor
