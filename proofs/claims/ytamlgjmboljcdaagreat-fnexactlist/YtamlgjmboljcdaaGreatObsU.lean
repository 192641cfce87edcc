/- Objects of one kind: which rows they are; rows of memory of one's own. -/
import Derived.Test.YtamlgjmboljcdaaGreatCpObj
import Derived.Test.YtamlgjmboljcdaaGreatCpObjS
namespace Go.Proofs.YtamlgjmboljcdaaGreat
open Go.RowKit
set_option linter.unusedVariables false

def kindO : UD → Int
  | .p (.int _ z) _ => z
  | _ => 0
/-- the first q rows that are of this kind, and how many -/
def selU (cs : UD) (kind : Int) : Nat → UD × Nat
  | 0 => (.nil, 0)
  | q + 1 => if kindO (rowU cs 17 q) = kind then ((selU cs kind q).1.app (rowU cs 17 q), (selU cs kind q).2 + 1) else selU cs kind q
theorem selU_hit {cs : UD} {kind : Int} {q : Nat} (h : kindO (rowU cs 17 q) = kind) : (selU cs kind (q + 1)).1 = (selU cs kind q).1.app (rowU cs 17 q) ∧ (selU cs kind (q + 1)).2 = (selU cs kind q).2 + 1 := by rw [selU, if_pos h]; exact ⟨rfl, rfl⟩
theorem selU_miss {cs : UD} {kind : Int} {q : Nat} (h : kindO (rowU cs 17 q) ≠ kind) : selU cs kind (q + 1) = selU cs kind q := by rw [selU, if_neg h]
theorem tyU.app : ∀ {a b : UD} {fs : List UF} {i : Nat}, tyU a fs i → tyU b fs (i + a.len) → tyU (a.app b) fs i
  | .nil, b, fs, i, _, h => by rw [UD.app_nil]; exact h
  | .p v r, b, fs, i, h, k => by rw [UD.app_p]; exact ⟨h.1, tyU.app h.2 (by rw [UD.len_p] at k; rw [show i + 1 + r.len = i + (r.len + 1) by omega]; exact k)⟩
  | .l k' n cs r, b, fs, i, h, k => by rw [UD.app_l]; exact ⟨h.1, tyU.app h.2 (by rw [UD.len_l] at k; rw [show i + 1 + r.len = i + (r.len + 1) by omega]; exact k)⟩
theorem tyU.rowOne {d : UD} {fs : List UF} {j : Nat} (hf : 0 < fs.length) (h : tyL d fs) (hj : j % fs.length = 0) : tyU d fs j := by
  have := tyU.row hf (d := d) (rest := .nil) (i := j) (j := 0) (by rw [List.drop_zero]; exact h) hj trivial
  have e : d.app .nil = d := by apply UD.ext; rw [UD.app_toL]; show d.toL ++ [] = _; rw [List.append_nil]
  rw [e] at this
  exact this
theorem app_len (a b : UD) : (a.app b).len = a.len + b.len := by unfold UD.len; rw [UD.app_toL, List.length_append]
theorem selU_ty {n : Nat} {cs : UD} {kind : Int} (h : tyS 17 n cs 8) : ∀ q, q ≤ n → (selU cs kind q).2 ≤ q ∧ (selU cs kind q).1.len = (selU cs kind q).2 * 17 ∧ tyU (selU cs kind q).1 (uE 8) 0 ∧ cnt (selU cs kind q).1 ≤ cnt (cs.takeN (q * 17))
  | 0, _ => ⟨Nat.le_refl _, rfl, trivial, Nat.zero_le _⟩
  | q + 1, hq => by
    obtain ⟨h1, h2, h3, h4⟩ := selU_ty h q (by omega)
    have hr := rowU_len cs 17 q n h.2.2.2.1 (by omega)
    have ht := cnt_row cs 17 q
    by_cases hk : kindO (rowU cs 17 q) = kind
    · obtain ⟨e1, e2⟩ := selU_hit hk
      rw [e1, e2]
      refine ⟨by omega, by rw [app_len, h2, hr, Nat.succ_mul], tyU.app h3 ?_, by rw [cnt_app]; omega⟩
      rw [h2, Nat.zero_add]
      exact tyU.rowOne (by decide) (h.row (by omega)) (Nat.mul_mod_left _ 17)
    · rw [selU_miss hk]
      exact ⟨by omega, h2, h3, by omega⟩
theorem selU_tyS {n : Nat} {cs : UD} {kind : Int} (h : tyS 17 n cs 8) : tyS 17 (selU cs kind n).2 (selU cs kind n).1 8 ∧ cnt (selU cs kind n).1 ≤ cnt cs := by
  obtain ⟨h1, h2, h3, h4⟩ := selU_ty (kind := kind) h n (Nat.le_refl _)
  exact ⟨⟨by decide, rfl, Nat.le_trans h1 h.2.2.1, h2, h3⟩, Nat.le_trans h4 (cnt_le cs _)⟩
/-- a row of a slice that is one's own -/
theorem oH.rowAt {w : World} {cs : UD} {zs : List Value} {S : List Nat} (h : oH w cs zs S) (k q : Nat) : ∃ xs Sq, oH w (rowU cs k q) xs Sq ∧ (∀ s ∈ Sq, s ∈ S) ∧ (S.Nodup → Sq.Nodup) ∧ ∀ j u, xs[j]? = some u → zs[q * k + j]? = some u := by
  have e1 : (cs.takeN (q * k)).app (cs.dropN (q * k)) = cs := UD.app_take_drop cs _
  rw [← e1, UD.drop_row cs k q] at h
  obtain ⟨x1, r1, S1, R1, rfl, rfl, h1, h2⟩ := oH.split h
  obtain ⟨x2, r2, S2, R2, rfl, rfl, h3, h4⟩ := oH.split h2
  refine ⟨x2, S2, h3, fun s hs => by simp [hs], fun hn => ?_, fun j u hj => ?_⟩
  · simp only [List.nodup_append] at hn; exact hn.2.1.1
  · have hj2 := (List.getElem?_eq_some_iff.1 hj).1
    have hl2 : x2.length = (rowU cs k q).len := h3.len
    have hl1 : x1.length = (cs.takeN (q * k)).len := h1.len
    have htl : (cs.takeN (q * k)).len = q * k := by
      unfold UD.len UD.takeN
      rw [UD.toL_ofL, List.length_take]
      have : 0 < (rowU cs k q).len := by omega
      unfold rowU UD.len UD.takeN UD.dropN at this
      rw [UD.toL_ofL, UD.toL_ofL, List.length_take, List.length_drop] at this
      omega
    rw [List.getElem?_append_right (by omega), hl1, htl, Nat.add_sub_cancel_left, List.getElem?_append_left hj2]
    exact hj
theorem AS.lit {w : World} {e : TypeId} {k : Nat} {base : Nat} (hb : base ≤ w.heap.size) : AS base (w.alloc (.cells #[] e)) e k (.slice (some ⟨w.heap.size, 0, none⟩) 0 0) .nil 0 := by
  have h := World.ownsRow_lit (base := base) (size := k) (e := e) w #[] 0 hb (Nat.zero_le _) (by simp)
  exact ⟨by simp [UD.len, UD.toL], [], [], by simpa using h, ⟨rfl, rfl⟩, own2.nil _ _, fun g hg => by simp⟩
theorem UD.takeAll {cs : UD} {n : Nat} (h : cs.len = n) : cs.takeN n = cs := by
  apply UD.ext; unfold UD.takeN; rw [UD.toL_ofL]; exact List.take_of_length_le (Nat.le_of_eq h)
theorem foldZ' : ∀ (ys pre zs : List Value), ys.length = zs.length → List.foldl (fun (cs : Array Value) (x : Value × Nat) => cs.setIfInBounds x.snd x.fst) (pre ++ zs).toArray (ys.zipIdx pre.length) = (pre ++ ys).toArray
  | [], pre, zs, h => by
    have : zs = [] := List.length_eq_zero_iff.1 h.symm
    subst this; rfl
  | y :: ys, pre, [], h => by cases h
  | y :: ys, pre, z :: zs, h => by
    rw [List.zipIdx_cons, List.foldl_cons]
    have e : ((pre ++ z :: zs).toArray).setIfInBounds pre.length y = ((pre ++ [y]) ++ zs).toArray := by simp
    rw [e]
    have := foldZ' ys (pre ++ [y]) zs (by simpa using h)
    rw [List.length_append] at this
    simpa using this
theorem foldZ {ys zs : List Value} (h : ys.length = zs.length) : List.foldl (fun (cs : Array Value) (x : Value × Nat) => cs.setIfInBounds x.snd x.fst) zs.toArray ys.zipIdx = ys.toArray := by
  have := foldZ' ys [] zs h
  simpa using this
end Go.Proofs.YtamlgjmboljcdaaGreat
