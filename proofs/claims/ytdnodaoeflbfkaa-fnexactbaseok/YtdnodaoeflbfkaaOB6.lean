/- Objects: what both answer of one object, as a function of its cells. -/
import Derived.Test.YtdnodaoeflbfkaaOB3
import Derived.Test.YtdnodaoeflbfkaaOB5
namespace Go.Proofs.Ytdnodaoeflbfkaa
open Go.RowKit Go.BigFrame
set_option linter.unusedVariables false

noncomputable def vokD (d : UD) : Bool := by
  classical
  exact if h : tyL d (uE 6) then Classical.choose (vok_both d h) else false
theorem vokD_s {d : UD} (ht : tyL d (uE 6)) : ∀ (w : World) (lo hi : Nat) (xs : List Value), uH w lo hi d xs → Calls Try.prog 163 #[.agg xs.toArray] w fun e w' => e = .returned (.bool (vokD d)) ∧ Below w.heap.size w w' := by
  unfold vokD; rw [dif_pos ht]; exact (Classical.choose_spec (vok_both d ht)).2.1
theorem vokD_i {d : UD} (ht : tyL d (uE 6)) : ∀ (w : World) (lo hi : Nat) (xs : List Value), uH w lo hi d xs → Calls Try.prog 214 #[.agg xs.toArray] w fun e w' => e = .returned (.bool (vokD d)) ∧ Below w.heap.size w w' := by
  unfold vokD; rw [dif_pos ht]; exact (Classical.choose_spec (vok_both d ht)).2.2
def revU : UD → Int
  | .p _ (.p _ (.p _ (.p (.int _ z) _))) => z
  | _ => 0
def genU : UD → Int
  | .p _ (.p _ (.p _ (.p _ (.p (.int _ z) _)))) => z
  | _ => 0
def endsU : UD → Bool
  | .p _ (.p _ (.p _ (.p _ (.p _ (.p (.bool z) _))))) => z
  | _ => false
def waitsU : UD → List ByteArray
  | .p _ (.p _ (.p _ (.p _ (.p _ (.p _ (.l _ _ c _)))))) => strL c
  | _ => []
def waitsN : UD → Nat
  | .p _ (.p _ (.p _ (.p _ (.p _ (.p _ (.l _ n _ _)))))) => n
  | _ => 0
def tailU : UD → UD
  | .p _ (.p _ (.p _ (.p _ (.p _ (.p _ (.l _ _ _ r)))))) => r
  | d => d
theorem UD.takeN_app (a b : UD) {n : Nat} (h : a.len = n) : (a.app b).takeN n = a := by
  apply UD.ext; unfold UD.takeN; rw [UD.toL_ofL, UD.app_toL]
  subst h
  exact List.take_left' rfl
theorem UD.dropN_app (a b : UD) {n : Nat} (h : a.len = n) : (a.app b).dropN n = b := by
  apply UD.ext; unfold UD.dropN; rw [UD.toL_ofL, UD.app_toL]
  subst h
  exact List.drop_left' rfl
noncomputable def objB (d : UD) (rev next : Int) : Bool :=
  inB (kindU d) 1 3 && nameB (nameU d) && waitsB (waitsU d) && inB (uidU d) 1 (next - 1) && inB (revU d) 1 rev && inB (genU d) 1 (revU d) && vokD ((tailU d).takeN 5) && vokD (((tailU d).dropN 5).takeN 5)
def endsB (d : UD) : Bool := endsU d && decide (waitsN d = 0)
theorem objOk_any {lo hi : Nat} (d : UD) (xs : List Value) (rev next : Int) (w : World) (ht : tyL d (uE 8)) (hx : uH w lo hi d xs) (hn0 : -9223372036854775807 ≤ next) (hn1 : next ≤ 9223372036854775807) :
    Calls Try.prog 168 #[.agg xs.toArray, .int .i64 rev, .int .i64 (next - 1)] w fun e w' => e = .returned (.bool (objB d rev next)) ∧ Below w.heap.size w w' := by
  replace ht : tyL d [.i .i64, .s, .i .i64, .i .i64, .i .i64, .b, .l 1 0, .i .i64, .s, .i .i64, .l 1 0, .l 5 6, .i .i64, .s, .i .i64, .l 1 0, .l 5 6] := ht
  obtain ⟨z0, _, rfl, g0, h0⟩ := tyL.i ht
  obtain ⟨z1, _, rfl, g1, h1⟩ := tyL.s h0
  clear h0
  obtain ⟨z2, _, rfl, g2, h2⟩ := tyL.i h1
  clear h1
  obtain ⟨z3, _, rfl, g3, h3⟩ := tyL.i h2
  clear h2
  obtain ⟨z4, _, rfl, g4, h4⟩ := tyL.i h3
  clear h3
  obtain ⟨z5, _, rfl, h5⟩ := tyL.b h4
  clear h4
  obtain ⟨n6, c6, _, rfl, g6, h6⟩ := tyL.l h5
  clear h5
  obtain ⟨d7, _, rfl, g7, h7⟩ := tyL.split (f1 := uE 6) (f2 := [.i .i64, .s, .i .i64, .l 1 0, .l 5 6]) h6
  clear h6
  obtain ⟨d8, _, rfl, g8, h8⟩ := tyL.split (f1 := uE 6) (f2 := []) h7
  clear h7
  obtain rfl := tyL.nil h8
  clear h8
  have e7 : (tailU (UD.p (.int .i64 z0) (UD.p (.string z1) (UD.p (.int .i64 z2) (UD.p (.int .i64 z3) (UD.p (.int .i64 z4) (UD.p (.bool z5) (UD.l 1 n6 c6 (UD.app d7 (UD.app d8 UD.nil)))))))))).takeN 5 = d7 := UD.takeN_app _ _ (tyL.len g7)
  have e8 : ((tailU (UD.p (.int .i64 z0) (UD.p (.string z1) (UD.p (.int .i64 z2) (UD.p (.int .i64 z3) (UD.p (.int .i64 z4) (UD.p (.bool z5) (UD.l 1 n6 c6 (UD.app d7 (UD.app d8 UD.nil)))))))))).dropN 5).takeN 5 = d8 := by
    rw [show tailU (UD.p (.int .i64 z0) (UD.p (.string z1) (UD.p (.int .i64 z2) (UD.p (.int .i64 z3) (UD.p (.int .i64 z4) (UD.p (.bool z5) (UD.l 1 n6 c6 (UD.app d7 (UD.app d8 UD.nil))))))))) = UD.app d7 (UD.app d8 UD.nil) from rfl, UD.dropN_app (n := 5) _ _ (tyL.len g7)]
    exact UD.takeN_app _ _ (tyL.len g8)
  unfold objB
  rw [e7, e8]
  exact objOk_of z0 z1 z2 z3 z4 z5 n6 c6 d7 d8 (vokD d7) (vokD d8) xs rev next w g1 g6 g7 g8 (vokD_i g7) (vokD_i g8) hn0 hn1 hx
theorem l7Obj_any {lo hi : Nat} (d : UD) (xs : List Value) (rev next : Int) (gone : Bool) (w : World) (ht : tyL d (uE 8)) (hx : uH w lo hi d xs) (hn0 : -9223372036854775807 ≤ next) (hn1 : next ≤ 9223372036854775807) :
    Calls Try.prog 88 #[.agg xs.toArray, .int .i64 rev, .int .i64 next, .bool gone] w fun e w' => e = .returned (.bool (objB d rev next && (gone || !(endsB d)))) ∧ Below w.heap.size w w' := by
  replace ht : tyL d [.i .i64, .s, .i .i64, .i .i64, .i .i64, .b, .l 1 0, .i .i64, .s, .i .i64, .l 1 0, .l 5 6, .i .i64, .s, .i .i64, .l 1 0, .l 5 6] := ht
  obtain ⟨z0, _, rfl, g0, h0⟩ := tyL.i ht
  obtain ⟨z1, _, rfl, g1, h1⟩ := tyL.s h0
  clear h0
  obtain ⟨z2, _, rfl, g2, h2⟩ := tyL.i h1
  clear h1
  obtain ⟨z3, _, rfl, g3, h3⟩ := tyL.i h2
  clear h2
  obtain ⟨z4, _, rfl, g4, h4⟩ := tyL.i h3
  clear h3
  obtain ⟨z5, _, rfl, h5⟩ := tyL.b h4
  clear h4
  obtain ⟨n6, c6, _, rfl, g6, h6⟩ := tyL.l h5
  clear h5
  obtain ⟨d7, _, rfl, g7, h7⟩ := tyL.split (f1 := uE 6) (f2 := [.i .i64, .s, .i .i64, .l 1 0, .l 5 6]) h6
  clear h6
  obtain ⟨d8, _, rfl, g8, h8⟩ := tyL.split (f1 := uE 6) (f2 := []) h7
  clear h7
  obtain rfl := tyL.nil h8
  clear h8
  have e7 : (tailU (UD.p (.int .i64 z0) (UD.p (.string z1) (UD.p (.int .i64 z2) (UD.p (.int .i64 z3) (UD.p (.int .i64 z4) (UD.p (.bool z5) (UD.l 1 n6 c6 (UD.app d7 (UD.app d8 UD.nil)))))))))).takeN 5 = d7 := UD.takeN_app _ _ (tyL.len g7)
  have e8 : ((tailU (UD.p (.int .i64 z0) (UD.p (.string z1) (UD.p (.int .i64 z2) (UD.p (.int .i64 z3) (UD.p (.int .i64 z4) (UD.p (.bool z5) (UD.l 1 n6 c6 (UD.app d7 (UD.app d8 UD.nil)))))))))).dropN 5).takeN 5 = d8 := by
    rw [show tailU (UD.p (.int .i64 z0) (UD.p (.string z1) (UD.p (.int .i64 z2) (UD.p (.int .i64 z3) (UD.p (.int .i64 z4) (UD.p (.bool z5) (UD.l 1 n6 c6 (UD.app d7 (UD.app d8 UD.nil))))))))) = UD.app d7 (UD.app d8 UD.nil) from rfl, UD.dropN_app (n := 5) _ _ (tyL.len g7)]
    exact UD.takeN_app _ _ (tyL.len g8)
  unfold objB
  rw [e7, e8]
  exact l7Obj_of z0 z1 z2 z3 z4 z5 n6 c6 d7 d8 (vokD d7) (vokD d8) xs rev next gone w g1 g6 g7 g8 (vokD_s g7) (vokD_s g8) hn0 hn1 hx
/-- what the cells of an object say -/
theorem obj_cells {w : World} {lo hi : Nat} {d : UD} {xs : List Value} (ht : tyL d (uE 8)) (hx : uH w lo hi d xs) : xs[0]? = some (.int .i64 (kindU d)) ∧ xs[1]? = some (.string (nameU d)) ∧ xs[2]? = some (.int .i64 (uidU d)) ∧ xs[3]? = some (.int .i64 (revU d)) ∧ xs[5]? = some (.bool (endsU d)) ∧ ∃ a cap, xs[6]? = some (.slice a (waitsN d) cap) := by
  replace ht : tyL d [.i .i64, .s, .i .i64, .i .i64, .i .i64, .b, .l 1 0, .i .i64, .s, .i .i64, .l 1 0, .l 5 6, .i .i64, .s, .i .i64, .l 1 0, .l 5 6] := ht
  obtain ⟨z0, _, rfl, g0, h0⟩ := tyL.i ht
  obtain ⟨z1, _, rfl, g1, h1⟩ := tyL.s h0
  clear h0
  obtain ⟨z2, _, rfl, g2, h2⟩ := tyL.i h1
  clear h1
  obtain ⟨z3, _, rfl, g3, h3⟩ := tyL.i h2
  clear h2
  obtain ⟨z4, _, rfl, g4, h4⟩ := tyL.i h3
  clear h3
  obtain ⟨z5, _, rfl, h5⟩ := tyL.b h4
  clear h4
  obtain ⟨n6, c6, _, rfl, g6, h6⟩ := tyL.l h5
  clear h5
  obtain ⟨d7, _, rfl, g7, h7⟩ := tyL.split (f1 := uE 6) (f2 := [.i .i64, .s, .i .i64, .l 1 0, .l 5 6]) h6
  clear h6
  obtain ⟨d8, _, rfl, g8, h8⟩ := tyL.split (f1 := uE 6) (f2 := []) h7
  clear h7
  obtain rfl := tyL.nil h8
  clear h8
  obtain ⟨_, rfl, _, rfl, _, rfl, _, rfl, _, rfl, _, rfl, v6, _, rfl, s6, h6⟩ := hx
  obtain ⟨a, cap, rfl, _⟩ := s6
  exact ⟨rfl, rfl, rfl, rfl, rfl, a, cap, rfl⟩
theorem iends_any {lo hi : Nat} (d : UD) (xs : List Value) (w : World) (ht : tyL d (uE 8)) (hx : uH w lo hi d xs) :
    Calls Try.prog 169 #[.agg xs.toArray] w fun e w' => e = .returned (.bool (endsB d)) ∧ Below w.heap.size w w' := by
  obtain ⟨_, _, _, _, h5, a, cap, h6⟩ := obj_cells ht hx
  exact ends_any xs _ _ a cap w h5 h6
theorem sless_any {lo hi lo' hi' : Nat} (d d' : UD) (xs ys : List Value) (w : World) (ht : tyL d (uE 8)) (ht' : tyL d' (uE 8)) (hx : uH w lo hi d xs) (hy : uH w lo' hi' d' ys) :
    Calls Try.prog 161 #[.agg xs.toArray, .agg ys.toArray] w fun e w' => e = .returned (.bool (lessO (kindU d) (kindU d') (nameU d) (nameU d'))) ∧ Below w.heap.size w w' := by
  obtain ⟨h0, h1, _⟩ := obj_cells ht hx
  obtain ⟨g0, g1, _⟩ := obj_cells ht' hy
  exact l7Less_any xs ys _ _ _ _ w h0 h1 g0 g1
theorem iorder_any {lo hi lo' hi' : Nat} (d d' : UD) (xs ys : List Value) (w : World) (ht : tyL d (uE 8)) (ht' : tyL d' (uE 8)) (hx : uH w lo hi d xs) (hy : uH w lo' hi' d' ys) :
    Calls Try.prog 210 #[.agg xs.toArray, .agg ys.toArray] w fun e w' => e = .returned (.int .i64 (ordO (kindU d) (kindU d') (nameU d) (nameU d'))) ∧ Below w.heap.size w w' := by
  obtain ⟨h0, h1, _⟩ := obj_cells ht hx
  obtain ⟨g0, g1, _⟩ := obj_cells ht' hy
  exact iord_any xs ys _ _ _ _ w h0 h1 g0 g1
end Go.Proofs.Ytdnodaoeflbfkaa
