/- Queues: what FnDelayed asks, of the plain functions. -/
import Derived.Test.YtpmhmcekkppbhaaQdE
namespace Go.Proofs.Ytpmhmcekkppbhaa
open Go.RowKit Go.BigFrame
set_option linter.unusedVariables false

theorem fndI_last {L : List It} {x : It} (h : x.1 ∉ L.map (fun x => x.1)) : fndI (L ++ [x]) x.1 = L.length := by
  have hl : L.length < (L ++ [x]).length := by rw [List.length_append, List.length_singleton]; omega
  refine (fndI_at hl).2 ⟨by rw [List.getElem_append_right (by omega)]; simp, fun j hj he => h ?_⟩
  rw [List.getElem_append_left hj] at he
  exact List.mem_map.2 ⟨_, List.getElem_mem hj, he⟩
theorem dropAt_last {α : Type} (L : List α) (x : α) : dropAt (L ++ [x]) L.length = L := by
  unfold dropAt
  rw [List.take_left, List.drop_eq_nil_of_le (by rw [List.length_append, List.length_singleton]; omega), List.append_nil]
theorem dlyN_pos (F : Nat) : 1 ≤ dlyN F := by
  unfold dlyN
  have := Nat.pow_pos (n := F - 1) (show 0 < 2 by omega)
  omega
/-- what is taken out of a drawn queue, and how it comes again -/
theorem delayed_facts {Q : Qu} (h : drQ Q 40) (hk : rdyN Q.I Q.now < Q.I.length) :
    ∃ (s : ByteArray) (f : Nat), f ≤ 40 ∧ takeC Q = ({ Q with I := dropAt Q.I (rdyN Q.I Q.now), D := Q.D ++ [(s, 0, (f : Int))] }, s, true) ∧
      ∀ well, doneC { Q with I := dropAt Q.I (rdyN Q.I Q.now), D := Q.D ++ [(s, 0, (f : Int))] } s well = (if well = true then { Q with I := dropAt Q.I (rdyN Q.I Q.now), A := Q.A.filter (fun t => decide (t ≠ s)) } else { Q with I := dropAt Q.I (rdyN Q.I Q.now) ++ [(s, Q.now + (dlyN (f + 1) : Nat), ((f + 1 : Nat) : Int))], A := Q.A.filter (fun t => decide (t ≠ s)) }, true) := by
  obtain ⟨hok, ⟨p1, p2, p3, p4, p5, p6, p7, p8⟩, hc, hf, _⟩ := h
  have hp : qOkP Q := ⟨p1, p2, p3, p4, p5, p6, p7, p8⟩
  unfold cntQ at hc
  have hx := p4 _ (List.mem_append_left _ (List.getElem_mem hk))
  have hfx := hf _ (List.mem_append_left _ (List.getElem_mem hk))
  have htk : takeC Q = ({ Q with I := dropAt Q.I (rdyN Q.I Q.now), D := Q.D ++ [((Q.I[rdyN Q.I Q.now]).1, 0, (Q.I[rdyN Q.I Q.now]).2.2)] }, (Q.I[rdyN Q.I Q.now]).1, true) := by
    unfold takeC
    rw [dif_pos hk, if_neg (by omega)]
  have hlen := len_dropAt Q.I _ hk
  have hnd : (Q.I[rdyN Q.I Q.now]).1 ∉ Q.D.map (fun x => x.1) := fun hm => by
    have hpm : (Q.I ++ Q.D).Perm (Q.I[rdyN Q.I Q.now] :: (dropAt Q.I (rdyN Q.I Q.now) ++ Q.D)) := (perm_dropAt Q.I _ hk).append_right Q.D
    rw [(hpm.map (fun x => x.1)).nodup_iff, List.map_cons, List.nodup_cons] at p6
    exact p6.1 (by rw [List.map_append]; exact List.mem_append_right _ hm)
  generalize rdyN Q.I Q.now = k at *
  obtain ⟨f, hff⟩ : ∃ f : Nat, (Q.I[k]).2.2 = (f : Int) := ⟨((Q.I[k]).2.2).toNat, by have := hx.2.2; omega⟩
  rw [hff] at htk hfx
  generalize (Q.I[k]).1 = s at *
  refine ⟨s, f, by omega, htk, fun well => ?_⟩
  have hfd : fndI (Q.D ++ [(s, (0 : Int), (f : Int))]) s = Q.D.length := fndI_last (x := (s, 0, (f : Int))) hnd
  have hD : fndI (Q.D ++ [(s, (0 : Int), (f : Int))]) s < (Q.D ++ [(s, (0 : Int), (f : Int))]).length := by rw [hfd, List.length_append, List.length_singleton]; omega
  have hg : ((Q.D ++ [(s, (0 : Int), (f : Int))])[fndI (Q.D ++ [(s, (0 : Int), (f : Int))]) s]'hD).2.2 = (f : Int) := by
    have : ∀ i (hi : i < (Q.D ++ [(s, (0 : Int), (f : Int))]).length), i = Q.D.length → ((Q.D ++ [(s, (0 : Int), (f : Int))])[i]'hi).2.2 = (f : Int) := fun i hi e => by
      subst e
      rw [List.getElem_append_right (by omega)]
      simp
    exact this _ hD hfd
  have hdc := doneC_at (Q := { Q with I := dropAt Q.I k, D := Q.D ++ [(s, 0, (f : Int))] }) well hD (F := f + 1) (by show min (((Q.D ++ [(s, (0 : Int), (f : Int))])[fndI (Q.D ++ [(s, (0 : Int), (f : Int))]) s]'hD).2.2 + 1) 1000 = ((f + 1 : Nat) : Int); rw [hg]; omega)
  rw [hdc]
  have ho : outD { Q with I := dropAt Q.I k, D := Q.D ++ [(s, 0, (f : Int))] } (fndI (Q.D ++ [(s, (0 : Int), (f : Int))]) s) s = { Q with I := dropAt Q.I k, A := Q.A.filter (fun t => decide (t ≠ s)) } := by
    unfold outD
    rw [hfd, dropAt_last]
  have hna : inA Q.A s = false := by
    cases hA : inA Q.A s with
    | false => rfl
    | true => exact (hnd (p8 s (inA_iff.1 hA))).elim
  show (_, true) = (_, true)
  rw [ho]
  congr 1
  cases well with
  | true =>
    show (if inA Q.A s = true then _ else _) = _
    rw [hna]
    rfl
  | false =>
    show addQ _ _ = _
    unfold addQ
    rw [if_neg (by show ¬ (dropAt Q.I k).length = 60; omega)]
    rfl
end Go.Proofs.Ytpmhmcekkppbhaa
