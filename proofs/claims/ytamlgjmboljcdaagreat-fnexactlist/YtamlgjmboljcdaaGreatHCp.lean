/- Trees that a call copies row by row: memory of one's own with holes, the rows that are yet to be filled. -/
import Derived.Test.YtamlgjmboljcdaaGreatVSm
import Derived.Test.YtamlgjmboljcdaaGreatU4
namespace Go.Proofs.YtamlgjmboljcdaaGreat
open Go.RowKit
set_option linter.unusedVariables false

/-- a row that is yet to be filled: its block, its things, its cells, its room -/
structure HL where
  g : Nat
  n : Nat
  cs : UD
  cap : Nat
def HL.v (h : HL) : Value := .slice (some ⟨h.g, 0, none⟩) h.n h.cap
def hH (w : World) : UD → List Value → List Nat → List HL → Prop
  | .nil, xs, S, L => xs = [] ∧ S = [] ∧ L = []
  | .p v r, xs, S, L => ∃ ys, xs = v :: ys ∧ hH w r ys S L
  | .l k n cs r, xs, S, L => ∃ c ys S1 S2 L1 L2, xs = c :: ys ∧ S = S1 ++ S2 ∧ L = L1 ++ L2 ∧ 0 < k ∧
      ((∃ e zs S0, S1 = blkOf c ++ S0 ∧ w.ownsRow 0 e k c n zs ∧ hH w cs zs S0 L1) ∨ (k = 5 ∧ S1 = [] ∧ ∃ g cap, c = .slice (some ⟨g, 0, none⟩) n cap ∧ L1 = [⟨g, n, cs, cap⟩])) ∧ hH w r ys S2 L2
theorem hH.frame {w w' : World} : ∀ (d : UD) (xs : List Value) (S : List Nat) (L : List HL), hH w d xs S L → (∀ g ∈ S, w'.heap[g]? = w.heap[g]?) → hH w' d xs S L
  | .nil, _, _, _, h, _ => h
  | .p v r, _, S, L, ⟨ys, e, h⟩, hS => ⟨ys, e, hH.frame r ys S L h hS⟩
  | .l k n cs r, _, _, _, ⟨c, ys, S1, S2, L1, L2, e, eS, eL, hk, h1, h2⟩, hS => by
    subst eS eL
    refine ⟨c, ys, S1, S2, L1, L2, e, rfl, rfl, hk, ?_, hH.frame r ys S2 L2 h2 (fun g hg => hS g (by simp [hg]))⟩
    rcases h1 with ⟨t, zs, S0, rfl, g1, g2⟩ | h1
    · exact .inl ⟨t, zs, S0, rfl, uowns_frame g1 (fun g hg => hS g (by simp [hg])), hH.frame cs zs S0 L1 g2 (fun g hg => hS g (by simp [hg]))⟩
    · exact .inr h1
theorem oH.hole {w : World} : ∀ (d : UD) (xs : List Value) (S : List Nat), oH w d xs S → hH w d xs S []
  | .nil, _, _, h => ⟨h.1, h.2, rfl⟩
  | .p v r, _, S, ⟨ys, e, h⟩ => ⟨ys, e, oH.hole r ys S h⟩
  | .l k n cs r, _, _, ⟨c, ys, S1, S2, e, eS, hk, ⟨t, zs, h1, h2⟩, h3⟩ => ⟨c, ys, blkOf c ++ S1, S2, [], [], e, eS, rfl, hk, .inl ⟨t, zs, S1, rfl, h1, oH.hole cs zs S1 h2⟩, oH.hole r ys S2 h3⟩
theorem hH.done {w : World} : ∀ (d : UD) (xs : List Value) (S : List Nat) (L : List HL), hH w d xs S L → L = [] → oH w d xs S
  | .nil, _, _, _, h, _ => ⟨h.1, h.2.1⟩
  | .p v r, _, S, L, ⟨ys, e, h⟩, hL => ⟨ys, e, hH.done r ys S L h hL⟩
  | .l k n cs r, _, _, _, ⟨c, ys, S1, S2, L1, L2, e, eS, eL, hk, h1, h2⟩, hL => by
    rw [hL] at eL
    obtain ⟨e1, e2⟩ := List.append_eq_nil_iff.1 eL.symm
    rcases h1 with ⟨t, zs, S0, rfl, g1, g2⟩ | ⟨_, _, g, cap, _, g3⟩
    · exact ⟨c, ys, S0, S2, e, eS, hk, ⟨t, zs, g1, hH.done cs zs S0 L1 g2 e1⟩, hH.done r ys S2 L2 h2 e2⟩
    · rw [g3] at e1; cases e1
theorem hH.lt {w : World} : ∀ (d : UD) (xs : List Value) (S : List Nat) (L : List HL), hH w d xs S L → ∀ g ∈ S, g < w.heap.size
  | .nil, _, _, _, h, g, hg => by rw [h.2.1] at hg; cases hg
  | .p v r, _, S, L, ⟨ys, e, h⟩, g, hg => hH.lt r ys S L h g hg
  | .l k n cs r, _, _, _, ⟨c, ys, S1, S2, L1, L2, e, eS, eL, hk, h1, h2⟩, g, hg => by
    subst eS
    rcases List.mem_append.1 hg with hg | hg
    · rcases h1 with ⟨t, zs, S0, rfl, g1, g2⟩ | ⟨_, rfl, _⟩
      · rcases List.mem_append.1 hg with hg | hg
        · exact (ublk_lt g1 g hg).2
        · exact hH.lt cs zs S0 L1 g2 g hg
      · cases hg
    · exact hH.lt r ys S2 L2 h2 g hg
theorem hH.app {w : World} : ∀ {a b : UD} {xs ys : List Value} {S T : List Nat} {L M : List HL}, hH w a xs S L → hH w b ys T M → hH w (a.app b) (xs ++ ys) (S ++ T) (L ++ M)
  | .nil, b, xs, ys, S, T, L, M, h, k => by rw [UD.app_nil, h.1, h.2.1, h.2.2]; exact k
  | .p v r, b, _, ys, S, T, L, M, ⟨zs, e, h⟩, k => by subst e; rw [UD.app_p]; exact ⟨zs ++ ys, rfl, hH.app h k⟩
  | .l m n cs r, b, _, ys, _, T, _, M, ⟨c, zs, S1, S2, L1, L2, e, eS, eL, hk, h1, h3⟩, k => by
    subst e eS eL
    rw [UD.app_l]
    exact ⟨c, zs ++ ys, S1, S2 ++ T, L1, L2 ++ M, rfl, by simp, by simp, hk, h1, hH.app h3 k⟩
/-- the last row that is open comes to be filled -/
theorem hH.fill {w : World} {g n cap : Nat} {dc : UD} {e : TypeId} {zs : List Value} {T : List Nat} {M : List HL} (hown : w.ownsRow 0 e 5 (.slice (some ⟨g, 0, none⟩) n cap) n zs) (hc : hH w dc zs T M) :
    ∀ (d : UD) (xs : List Value) (S : List Nat) (L : List HL) (L' : List HL), hH w d xs S L → L = L' ++ [⟨g, n, dc, cap⟩] → ∃ S', hH w d xs S' (L' ++ M) ∧ S'.Perm (S ++ g :: T)
  | .nil, _, _, L, L', h, hL => by rw [h.2.2] at hL; simp at hL
  | .p v r, _, S, L, L', ⟨ys, e, h⟩, hL => by
    obtain ⟨S', h1, h2⟩ := hH.fill hown hc r ys S L L' h hL
    exact ⟨S', ⟨ys, e, h1⟩, h2⟩
  | .l k m cs r, _, _, _, L', ⟨c, ys, S1, S2, L1, L2, e', eS, eL, hk, h1, h2⟩, hL => by
    subst eS eL e'
    rcases List.eq_nil_or_concat L2 with rfl | ⟨L2', b, rfl⟩
    · rw [List.append_nil] at hL
      rcases h1 with ⟨t, xs1, S0, rfl, g1, g2⟩ | ⟨rfl, rfl, g', cap', rfl, rfl⟩
      · obtain ⟨S', h3, h4⟩ := hH.fill hown hc cs xs1 S0 L1 L' g2 hL
        refine ⟨(blkOf c ++ S') ++ S2, ⟨c, ys, blkOf c ++ S', S2, L' ++ M, [], rfl, rfl, by simp, hk, .inl ⟨t, xs1, S', rfl, g1, h3⟩, h2⟩, ?_⟩
        have e1 : ((blkOf c ++ S') ++ S2).Perm ((blkOf c ++ (S0 ++ g :: T)) ++ S2) := ((h4.append_left _).append_right _)
        refine e1.trans ?_
        simp only [List.append_assoc]
        exact (((List.perm_append_comm (l₁ := g :: T) (l₂ := S2)).append_left S0).append_left (blkOf c))
      · have e1 : L' = [] ∧ (⟨g', m, cs, cap'⟩ : HL) = ⟨g, n, dc, cap⟩ := by
          cases L' with
          | nil => exact ⟨rfl, by simpa using hL⟩
          | cons a b => simp at hL
        obtain ⟨rfl, e2⟩ := e1
        cases e2
        refine ⟨([g] ++ T) ++ S2, ⟨_, ys, [g] ++ T, S2, M, [], rfl, rfl, by simp, hk, .inl ⟨e, zs, T, rfl, hown, hc⟩, h2⟩, ?_⟩
        rw [List.nil_append]
        exact List.perm_append_comm
    · rw [List.concat_eq_append, ← List.append_assoc] at hL
      have e1 := List.append_inj_right' hL rfl
      have e2 := List.append_inj_left' hL rfl
      obtain ⟨S', h3, h4⟩ := hH.fill hown hc r ys S2 (L2' ++ [b]) L2' (by rw [← List.concat_eq_append]; exact h2) (by rw [e1])
      refine ⟨S1 ++ S', ⟨c, ys, S1, S', L1, L2' ++ M, rfl, rfl, by rw [← e2]; simp, hk, h1, h3⟩, ?_⟩
      rw [List.append_assoc]
      exact h4.append_left _
/-- the rows that are left: each in a block of its own, what stands in it is still another one's -/
def Srcs (w : World) (T : TypeId) (H : Nat) : List HL → List Nat → Prop
  | [], S => S = []
  | h :: L, S => ∃ zs S1 S2, S = S1 ++ S2 ∧ 0 < h.n ∧ tyS 5 h.n h.cs 6 ∧ w.ownsRow H T 5 h.v h.n zs ∧ oH w h.cs zs S1 ∧ Srcs w T H L S2
theorem Srcs.app {w : World} {T : TypeId} {H : Nat} : ∀ {L M : List HL} {S R : List Nat}, Srcs w T H L S → Srcs w T H M R → Srcs w T H (L ++ M) (S ++ R)
  | [], M, S, R, h, k => by rw [show S = [] from h]; exact k
  | h :: L, M, _, R, ⟨zs, S1, S2, e, h1, h2, h3, h4, h5⟩, k => by
    subst e
    exact ⟨zs, S1, S2 ++ R, by simp, h1, h2, h3, h4, Srcs.app h5 k⟩
theorem Srcs.split {w : World} {T : TypeId} {H : Nat} : ∀ {L M : List HL} {S : List Nat}, Srcs w T H (L ++ M) S → ∃ S1 S2, S = S1 ++ S2 ∧ Srcs w T H L S1 ∧ Srcs w T H M S2
  | [], M, S, h => ⟨[], S, rfl, rfl, h⟩
  | h :: L, M, _, ⟨zs, S1, S2, e, h1, h2, h3, h4, h5⟩ => by
    subst e
    obtain ⟨R1, R2, rfl, k1, k2⟩ := Srcs.split h5
    exact ⟨S1 ++ R1, R2, by simp, ⟨zs, S1, R1, rfl, h1, h2, h3, h4, k1⟩, k2⟩
theorem Srcs.frame {w w' : World} {T : TypeId} {H : Nat} : ∀ {L : List HL} {S : List Nat}, Srcs w T H L S → (∀ g ∈ S, w'.heap[g]? = w.heap[g]?) → (∀ h ∈ L, w'.heap[h.g]? = w.heap[h.g]?) → Srcs w' T H L S
  | [], S, h, _, _ => h
  | h :: L, _, ⟨zs, S1, S2, e, h1, h2, h3, h4, h5⟩, hS, hL => by
    subst e
    refine ⟨zs, S1, S2, rfl, h1, h2, uowns_frame h3 (fun g hg => ?_), h4.frame _ _ _ (fun g hg => hS g (by simp [hg])), Srcs.frame h5 (fun g hg => hS g (by simp [hg])) (fun x hx => hL x (by simp [hx]))⟩
    have e : g = h.g := by simpa [HL.v, blkOf, Value.ownBlock] using hg
    subst e
    exact hL h (by simp)
theorem Srcs.lt {w : World} {T : TypeId} {H : Nat} : ∀ {L : List HL} {S : List Nat}, Srcs w T H L S → (∀ g ∈ S, g < w.heap.size) ∧ ∀ h ∈ L, H ≤ h.g ∧ h.g < w.heap.size
  | [], S, h => by rw [show S = [] from h]; exact ⟨fun g hg => (by cases hg), fun g hg => (by cases hg)⟩
  | h :: L, _, ⟨zs, S1, S2, e, h1, h2, h3, h4, h5⟩ => by
    subst e
    obtain ⟨k1, k2⟩ := Srcs.lt h5
    refine ⟨fun g hg => ?_, fun x hx => ?_⟩
    · rcases List.mem_append.1 hg with hg | hg
      · exact h4.lt _ _ _ g hg
      · exact k1 g hg
    · rcases List.mem_cons.1 hx with rfl | hx
      · exact ublk_lt h3 x.g (by simp [HL.v, blkOf, Value.ownBlock])
      · exact k2 x hx
def hWt (L : List HL) : Nat := (L.map fun r => uszD r.cs).sum
theorem hWt_nil : hWt [] = 0 := rfl
theorem hWt_app (L M : List HL) : hWt (L ++ M) = hWt L + hWt M := by simp [hWt]
theorem hWt_one (h : HL) : hWt [h] = uszD h.cs := by simp [hWt]
theorem Srcs.count {w : World} {T : TypeId} {H : Nat} : ∀ {L : List HL} {S : List Nat}, Srcs w T H L S → L.length ≤ hWt L
  | [], _, _ => Nat.le_refl _
  | h :: L, _, ⟨zs, S1, S2, e, h1, h2, h3, h4, h5⟩ => by
    have := Srcs.count h5
    have e := uszD_len h.cs
    rw [h2.2.2.2.1] at e
    rw [show h :: L = [h] ++ L from rfl, hWt_app, hWt_one, List.length_append, List.length_singleton]; omega
end Go.Proofs.YtamlgjmboljcdaaGreat
