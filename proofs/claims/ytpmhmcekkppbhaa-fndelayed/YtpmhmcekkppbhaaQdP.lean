/- Queues: what is right stays right. -/
import Derived.Test.YtpmhmcekkppbhaaQdA
namespace Go.Proofs.Ytpmhmcekkppbhaa
open Go.RowKit
set_option linter.unusedVariables false

theorem perm_dropAt {α : Type} (L : List α) (k : Nat) (h : k < L.length) : L.Perm (L[k] :: dropAt L k) := by
  have e : L = L.take k ++ L[k] :: L.drop (k + 1) := by rw [← List.drop_eq_getElem_cons h, List.take_append_drop]
  exact (List.Perm.of_eq e).trans List.perm_middle
theorem mem_dropAt {α : Type} {L : List α} {k : Nat} {x : α} (h : x ∈ dropAt L k) : x ∈ L := by
  rcases List.mem_append.1 h with h | h
  · exact List.mem_of_mem_take h
  · exact List.mem_of_mem_drop h
theorem len_dropAt {α : Type} (L : List α) (k : Nat) (h : k < L.length) : (dropAt L k).length + 1 = L.length := by
  have := (perm_dropAt L k h).length_eq
  rw [List.length_cons] at this
  omega
def nm (L : List It) : List ByteArray := L.map (fun x => x.1)
theorem qOkP_add {R : Qu} {x : It} (h : qOkP R) (hx : itOk x) (hn : x.1 ∉ (R.I ++ R.D).map (fun x => x.1)) : qOkP (addQ R x) := by
  unfold addQ
  split
  · exact h
  · obtain ⟨p1, p2, p3, p4, p5, p6, p7, p8⟩ := h
    refine ⟨?_, p2, p3, fun y hy => ?_, p5, ?_, p7, p8⟩
    · show (R.I ++ [x]).length ≤ 60
      rw [List.length_append, List.length_singleton]
      omega
    · have hy' : y ∈ (R.I ++ [x]) ++ R.D := hy
      rw [List.mem_append, List.mem_append, List.mem_singleton] at hy'
      rcases hy' with (hy | rfl) | hy
      · exact p4 y (List.mem_append_left _ hy)
      · exact hx
      · exact p4 y (List.mem_append_right _ hy)
    · show (((R.I ++ [x]) ++ R.D).map (fun x => x.1)).Nodup
      have hp : ((R.I ++ [x]) ++ R.D).Perm (x :: (R.I ++ R.D)) := by
        rw [List.append_assoc]
        exact List.perm_middle
      rw [(hp.map (fun x => x.1)).nodup_iff, List.map_cons, List.nodup_cons]
      exact ⟨hn, p6⟩
theorem qOkP_out {Q : Qu} {s : ByteArray} (h : qOkP Q) (hD : fndI Q.D s < Q.D.length) : qOkP (outD Q (fndI Q.D s) s) ∧ s ∉ ((outD Q (fndI Q.D s) s).I ++ (outD Q (fndI Q.D s) s).D).map (fun x => x.1) := by
  obtain ⟨p1, p2, p3, p4, p5, p6, p7, p8⟩ := h
  have hs := fndI_lt hD
  generalize fndI Q.D s = k at *
  have hp : (Q.I ++ Q.D).Perm (Q.D[k] :: (Q.I ++ dropAt Q.D k)) := ((perm_dropAt Q.D k hD).append_left Q.I).trans List.perm_middle
  have h6 := p6
  rw [(hp.map (fun x => x.1)).nodup_iff, List.map_cons, List.nodup_cons, hs] at h6
  refine ⟨⟨p1, ?_, p3, fun y hy => ?_, fun y hy => p5 y (mem_dropAt hy), h6.2, p7.filter _, fun t ht => ?_⟩, h6.1⟩
  · show (dropAt Q.D k).length ≤ 60
    have := len_dropAt Q.D k hD
    omega
  · rcases List.mem_append.1 hy with hy | hy
    · exact p4 y (List.mem_append_left _ hy)
    · exact p4 y (List.mem_append_right _ (mem_dropAt hy))
  · have ht' : t ∈ Q.A.filter (fun t => decide (t ≠ s)) := ht
    rw [List.mem_filter] at ht'
    obtain ⟨h1, h2⟩ := ht'
    have h3 := p8 t h1
    rw [((perm_dropAt Q.D k hD).map (fun x => x.1)).mem_iff, List.map_cons, List.mem_cons, hs] at h3
    rcases h3 with h3 | h3
    · simp at h2; exact (h2 h3).elim
    · exact h3
theorem qOkP_done {Q : Qu} {s : ByteArray} {well : Bool} (h : qOkP Q) : qOkP (doneC Q s well).1 := by
  by_cases hD : fndI Q.D s < Q.D.length
  · obtain ⟨p1, p2, p3, p4, p5, p6, p7, p8⟩ := h
    have h : qOkP Q := ⟨p1, p2, p3, p4, p5, p6, p7, p8⟩
    have hk := p4 _ (List.mem_append_right _ (List.getElem_mem hD))
    obtain ⟨F, hF⟩ : ∃ F : Nat, min ((Q.D[fndI Q.D s]'hD).2.2 + 1) 1000 = (F : Int) := ⟨(min ((Q.D[fndI Q.D s]'hD).2.2 + 1) 1000).toNat, by have := hk.2.2; omega⟩
    have hdl : dlyN F ≤ 64 := Nat.min_le_right _ _
    have hn : nameB s = true := by have := hk.1; rwa [fndI_lt hD] at this
    obtain ⟨h1, h2⟩ := qOkP_out h hD
    rw [doneC_at well hD hF]
    have h0 := hk.2.2
    cases well with
    | true =>
      cases inA Q.A s with
      | true => exact qOkP_add h1 ⟨hn, ⟨p3.1, by show Q.now ≤ _; omega⟩, ⟨Int.le_refl 0, by show (0 : Int) ≤ 1000; omega⟩⟩ h2
      | false => exact h1
    | false => exact qOkP_add h1 ⟨hn, ⟨by show 0 ≤ Q.now + (dlyN F : Nat); omega, by show Q.now + (dlyN F : Nat) ≤ 1000064; omega⟩, ⟨by show 0 ≤ (F : Int); omega, by show (F : Int) ≤ 1000; omega⟩⟩ h2
  · rw [doneC_no well hD]
    exact h
theorem qOkP_take {Q : Qu} (h : qOkP Q) : qOkP (takeC Q).1 := by
  unfold takeC
  split
  · rename_i hk
    split
    · exact h
    · rename_i h60
      obtain ⟨p1, p2, p3, p4, p5, p6, p7, p8⟩ := h
      generalize rdyN Q.I Q.now = k at *
      have hx := p4 _ (List.mem_append_left _ (List.getElem_mem hk))
      refine ⟨?_, ?_, p3, fun y hy => ?_, fun y hy => ?_, ?_, p7, fun t ht => ?_⟩
      · show (dropAt Q.I k).length ≤ 60
        have := len_dropAt Q.I k hk
        omega
      · show (Q.D ++ [_]).length ≤ 60
        rw [List.length_append, List.length_singleton]
        omega
      · have hy' : y ∈ dropAt Q.I k ++ (Q.D ++ [((Q.I[k]).1, (0 : Int), (Q.I[k]).2.2)]) := hy
        rw [List.mem_append, List.mem_append, List.mem_singleton] at hy'
        rcases hy' with hy | hy | rfl
        · exact p4 y (List.mem_append_left _ (mem_dropAt hy))
        · exact p4 y (List.mem_append_right _ hy)
        · exact ⟨hx.1, ⟨Int.le_refl 0, by show (0 : Int) ≤ 1000064; omega⟩, hx.2.2⟩
      · have hy' : y ∈ Q.D ++ [((Q.I[k]).1, (0 : Int), (Q.I[k]).2.2)] := hy
        rw [List.mem_append, List.mem_singleton] at hy'
        rcases hy' with hy | rfl
        · exact p5 y hy
        · rfl
      · show ((dropAt Q.I k ++ (Q.D ++ [((Q.I[k]).1, (0 : Int), (Q.I[k]).2.2)])).map (fun x => x.1)).Nodup
        have h1 : (dropAt Q.I k ++ (Q.D ++ [((Q.I[k]).1, (0 : Int), (Q.I[k]).2.2)])).Perm (((Q.I[k]).1, (0 : Int), (Q.I[k]).2.2) :: (dropAt Q.I k ++ Q.D)) := by
          rw [← List.append_assoc]
          exact List.perm_append_singleton _ _
        have h2 : (Q.I ++ Q.D).Perm (Q.I[k] :: (dropAt Q.I k ++ Q.D)) := (perm_dropAt Q.I k hk).append_right Q.D
        rw [(h1.map (fun x => x.1)).nodup_iff]
        rw [(h2.map (fun x => x.1)).nodup_iff] at p6
        exact p6
      · have := p8 t ht
        show t ∈ List.map (fun x : It => x.1) (Q.D ++ [_])
        rw [List.map_append]
        exact List.mem_append_left _ this
  · exact h
theorem qOkP_put {Q : Qu} {s : ByteArray} (h : qOkP Q) (hs : nameB s = true) : qOkP (putC Q s).1 := by
  obtain ⟨p1, p2, p3, p4, p5, p6, p7, p8⟩ := h
  have h : qOkP Q := ⟨p1, p2, p3, p4, p5, p6, p7, p8⟩
  unfold putC
  split
  · rename_i hD
    cases hA : inA Q.A s with
    | true => exact h
    | false =>
      refine ⟨p1, p2, p3, p4, p5, p6, ?_, fun t ht => ?_⟩
      · show (Q.A ++ [s]).Nodup
        rw [(List.perm_append_singleton s Q.A).nodup_iff, List.nodup_cons]
        exact ⟨(fun hm => by rw [inA_iff.2 hm] at hA; cases hA), p7⟩
      · have ht' : t ∈ Q.A ++ [s] := ht
        rw [List.mem_append, List.mem_singleton] at ht'
        rcases ht' with ht | rfl
        · exact p8 t ht
        · exact fndI_mem.1 hD
  · rename_i hD
    split
    · rename_i hI
      generalize fndI Q.I s = k at *
      have hx := p4 _ (List.mem_append_left _ (List.getElem_mem hI))
      have hmap : (Q.I.set k ((Q.I[k]).1, min (Q.I[k]).2.1 Q.now, (Q.I[k]).2.2)).map (fun x => x.1) = Q.I.map (fun x => x.1) := by
        rw [List.map_set]
        have : (Q.I[k]).1 = (Q.I.map (fun x => x.1))[k]'(by rw [List.length_map]; exact hI) := by rw [List.getElem_map]
        show (Q.I.map (fun x => x.1)).set k (Q.I[k]).1 = _
        rw [this, List.set_getElem_self]
      refine ⟨by show (Q.I.set _ _).length ≤ 60; rw [List.length_set]; exact p1, p2, p3, fun y hy => ?_, p5, ?_, p7, p8⟩
      · have hy' : y ∈ Q.I.set k ((Q.I[k]).1, min (Q.I[k]).2.1 Q.now, (Q.I[k]).2.2) ++ Q.D := hy
        rw [List.mem_append] at hy'
        rcases hy' with hy | hy
        · rcases List.mem_or_eq_of_mem_set hy with hy | rfl
          · exact p4 y (List.mem_append_left _ hy)
          · exact ⟨hx.1, ⟨by show 0 ≤ min _ _; have := hx.2.1; omega, by show min _ _ ≤ (1000064 : Int); have := hx.2.1; omega⟩, hx.2.2⟩
        · exact p4 y (List.mem_append_right _ hy)
      · show ((Q.I.set _ _ ++ Q.D).map (fun x => x.1)).Nodup
        rw [List.map_append, hmap, ← List.map_append]
        exact p6
    · rename_i hI
      have hn : s ∉ (Q.I ++ Q.D).map (fun x => x.1) := fun hm => by
        rw [List.map_append, List.mem_append] at hm
        rcases hm with hm | hm
        · exact hI (fndI_mem.2 hm)
        · exact hD (fndI_mem.2 hm)
      have ha := qOkP_add (x := (s, Q.now, 0)) h ⟨hs, ⟨p3.1, by show Q.now ≤ 1000064; omega⟩, ⟨Int.le_refl 0, by show (0 : Int) ≤ 1000; omega⟩⟩ hn
      unfold addQ at ha
      split
      · exact h
      · rename_i h60
        rw [if_neg h60] at ha
        exact ha
theorem qOkP_pass {Q : Qu} {z : Int} (h : qOkP Q) : qOkP (passQ Q z) := by
  unfold passQ
  split
  · rename_i hc
    obtain ⟨p1, p2, p3, p4, p5, p6, p7, p8⟩ := h
    exact ⟨p1, p2, ⟨by show 0 ≤ z; omega, by show z ≤ 1000000; omega⟩, p4, p5, p6, p7, p8⟩
  · exact h
/-- how many names there are -/
def cntQ (Q : Qu) : Nat := Q.I.length + Q.D.length
theorem cntQ_put (Q : Qu) (s : ByteArray) : cntQ (putC Q s).1 ≤ cntQ Q + 1 := by
  unfold putC cntQ
  split
  · split <;> simp <;> omega
  · split
    · simp
    · split
      · simp
      · simp; omega
theorem cntQ_take (Q : Qu) : cntQ (takeC Q).1 = cntQ Q := by
  unfold takeC cntQ
  split
  · rename_i hk
    split
    · rfl
    · have := len_dropAt Q.I _ hk
      show (dropAt Q.I _).length + (Q.D ++ [_]).length = _
      rw [List.length_append, List.length_singleton]
      omega
  · rfl
theorem cntQ_pass (Q : Qu) (z : Int) : cntQ (passQ Q z) = cntQ Q := by
  unfold passQ cntQ
  split <;> rfl
theorem cntQ_add (R : Qu) (x : It) : cntQ (addQ R x) ≤ cntQ R + 1 := by
  unfold addQ cntQ
  split
  · omega
  · show (R.I ++ [x]).length + R.D.length ≤ _
    rw [List.length_append, List.length_singleton]
    omega
theorem cntQ_done {Q : Qu} {s : ByteArray} {well : Bool} (h : qOkP Q) : cntQ (doneC Q s well).1 ≤ cntQ Q := by
  by_cases hD : fndI Q.D s < Q.D.length
  · obtain ⟨p1, p2, p3, p4, -⟩ := h
    have hk := (p4 _ (List.mem_append_right _ (List.getElem_mem hD))).2.2
    obtain ⟨F, hF⟩ : ∃ F : Nat, min ((Q.D[fndI Q.D s]'hD).2.2 + 1) 1000 = (F : Int) := ⟨(min ((Q.D[fndI Q.D s]'hD).2.2 + 1) 1000).toNat, by omega⟩
    rw [doneC_at well hD hF]
    have hl := len_dropAt Q.D _ hD
    have ho : cntQ (outD Q (fndI Q.D s) s) + 1 = cntQ Q := by
      show Q.I.length + (dropAt Q.D _).length + 1 = Q.I.length + Q.D.length
      omega
    cases well with
    | true =>
      cases inA Q.A s with
      | true => have := cntQ_add (outD Q (fndI Q.D s) s) (s, Q.now, 0); show cntQ (addQ _ _) ≤ _; omega
      | false => show cntQ (outD _ _ _) ≤ _; omega
    | false => have := cntQ_add (outD Q (fndI Q.D s) s) (s, Q.now + (dlyN F : Nat), (F : Int)); show cntQ (addQ _ _) ≤ _; omega
  · rw [doneC_no well hD]
    exact Nat.le_refl _
end Go.Proofs.Ytpmhmcekkppbhaa
