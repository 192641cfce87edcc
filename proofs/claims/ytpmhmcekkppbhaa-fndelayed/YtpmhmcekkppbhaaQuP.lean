/- Queues: what is right, and what each call makes of one, as plain functions. -/
import Derived.Test.YtpmhmcekkppbhaaQuT
import Derived.Test.YtpmhmcekkppbhaaBas
namespace Go.Proofs.Ytpmhmcekkppbhaa
open Go.RowKit
set_option linter.unusedVariables false

def itOk (x : It) : Prop := nameB x.1 = true ∧ (0 ≤ x.2.1 ∧ x.2.1 ≤ 1000064) ∧ (0 ≤ x.2.2 ∧ x.2.2 ≤ 1000)
def qOkP (Q : Qu) : Prop := Q.I.length ≤ 60 ∧ Q.D.length ≤ 60 ∧ (0 ≤ Q.now ∧ Q.now ≤ 1000000) ∧ (∀ x ∈ Q.I ++ Q.D, itOk x) ∧ (∀ x ∈ Q.D, x.2.1 = 0) ∧ ((Q.I ++ Q.D).map (fun x => x.1)).Nodup ∧ Q.A.Nodup ∧ ∀ s ∈ Q.A, s ∈ Q.D.map (fun x => x.1)
noncomputable def qOk (Q : Qu) : Bool := @decide (qOkP Q) (Classical.propDecidable _)
theorem qOk_true {Q : Qu} (h : qOkP Q) : qOk Q = true := @decide_eq_true _ (Classical.propDecidable _) h
theorem qOk_false {Q : Qu} (h : ¬ qOkP Q) : qOk Q = false := @decide_eq_false _ (Classical.propDecidable _) h
theorem qOk_iff {Q : Qu} : qOk Q = true ↔ qOkP Q := @decide_eq_true_iff _ (Classical.propDecidable _)
/-- the first place of a name -/
def fndI (L : List It) (s : ByteArray) : Nat := L.findIdx (fun x => decide (x.1 = s))
def plcI (L : List It) (s : ByteArray) : Int := if fndI L s < L.length then (fndI L s : Int) else -1
theorem fndI_le (L : List It) (s : ByteArray) : fndI L s ≤ L.length := List.findIdx_le_length
theorem fndI_at {L : List It} {s : ByteArray} {i : Nat} (h : i < L.length) : fndI L s = i ↔ (L[i].1 = s ∧ ∀ j (hj : j < i), (L[j]'(by omega)).1 ≠ s) := by
  unfold fndI
  rw [List.findIdx_eq h]
  simp
theorem fndI_none {L : List It} {s : ByteArray} (h : ∀ x ∈ L, x.1 ≠ s) : fndI L s = L.length := by
  unfold fndI
  rw [List.findIdx_eq_length]
  intro x hx
  simpa using h x hx
theorem fndI_hit {L : List It} {s : ByteArray} {i : Nat} (h : i < L.length) (he : L[i].1 = s) (hj : ∀ j (hj : j < i), (L[j]'(by omega)).1 ≠ s) : plcI L s = (i : Int) := by
  have := (fndI_at h).2 ⟨he, hj⟩
  unfold plcI
  rw [this, if_pos h]
theorem fndI_miss {L : List It} {s : ByteArray} (h : ∀ j (hj : j < L.length), (L[j]'hj).1 ≠ s) : plcI L s = -1 := by
  have : fndI L s = L.length := fndI_none (fun x hx => by obtain ⟨j, hj, rfl⟩ := List.mem_iff_getElem.1 hx; exact h j hj)
  unfold plcI
  rw [this, if_neg (by omega)]
theorem fndI_lt {L : List It} {s : ByteArray} (h : fndI L s < L.length) : (L[fndI L s]'h).1 = s := ((fndI_at h).1 rfl).1
theorem fndI_mem {L : List It} {s : ByteArray} : fndI L s < L.length ↔ s ∈ L.map (fun x => x.1) := by
  constructor
  · intro h
    have := fndI_lt h
    exact List.mem_map.2 ⟨_, List.getElem_mem h, this⟩
  · intro h
    obtain ⟨x, hx, rfl⟩ := List.mem_map.1 h
    unfold fndI
    rw [List.findIdx_lt_length]
    exact ⟨x, hx, by simp⟩
theorem nodup_fnd {L : List It} : (L.map (fun x => x.1)).Nodup ↔ ∀ i (h : i < L.length), plcI L (L[i].1) = (i : Int) := by
  constructor
  · intro hn i h
    refine fndI_hit h rfl (fun j hj e => ?_)
    have h1 : (L.map (fun x => x.1))[j]'(by rw [List.length_map]; omega) = (L.map (fun x => x.1))[i]'(by rw [List.length_map]; exact h) := by rw [List.getElem_map, List.getElem_map]; exact e
    have := (List.getElem_inj hn).1 h1
    omega
  · intro hp
    rw [List.nodup_iff_pairwise_ne, List.pairwise_iff_getElem]
    intro i j hi hj hij e
    rw [List.length_map] at hi hj
    rw [List.getElem_map, List.getElem_map] at e
    have h1 := hp i hi
    have h2 := hp j hj
    rw [← e, h1] at h2
    omega
/-- the first that may be taken -/
def rdyN (L : List It) (now : Int) : Nat := L.findIdx (fun x => decide (x.2.1 ≤ now))
theorem rdy_at {L : List It} {now : Int} {i : Nat} (h : i < L.length) : rdyN L now = i ↔ (L[i].2.1 ≤ now ∧ ∀ j (hj : j < i), ¬ (L[j]'(by omega)).2.1 ≤ now) := by
  unfold rdyN
  rw [List.findIdx_eq h]
  simp
theorem rdy_none {L : List It} {now : Int} (h : ∀ j (hj : j < L.length), ¬ (L[j]'hj).2.1 ≤ now) : rdyN L now = L.length := by
  unfold rdyN
  rw [List.findIdx_eq_length]
  intro x hx
  obtain ⟨j, hj, rfl⟩ := List.mem_iff_getElem.1 hx
  simpa using h j hj
theorem rdy_le (L : List It) (now : Int) : rdyN L now ≤ L.length := List.findIdx_le_length
def dropAt {α : Type} (L : List α) (i : Nat) : List α := L.take i ++ L.drop (i + 1)
def inA (A : List ByteArray) (s : ByteArray) : Bool := A.any (fun t => decide (t = s))
theorem inA_iff {A : List ByteArray} {s : ByteArray} : inA A s = true ↔ s ∈ A := by
  unfold inA
  rw [List.any_eq_true]
  exact ⟨fun ⟨t, h1, h2⟩ => by simp at h2; exact h2 ▸ h1, fun h => ⟨s, h, by simp⟩⟩
/-- put, of a right queue and a name -/
def addQ (Q : Qu) (x : It) : Qu := if Q.I.length = 60 then Q else { Q with I := Q.I ++ [x] }
def putC (Q : Qu) (s : ByteArray) : Qu × Bool :=
  if fndI Q.D s < Q.D.length then (if inA Q.A s = true then Q else { Q with A := Q.A ++ [s] }, true)
  else if h : fndI Q.I s < Q.I.length then ({ Q with I := Q.I.set (fndI Q.I s) ((Q.I[fndI Q.I s]).1, min (Q.I[fndI Q.I s]).2.1 Q.now, (Q.I[fndI Q.I s]).2.2) }, true)
  else if Q.I.length = 60 then (Q, false)
  else ({ Q with I := Q.I ++ [(s, Q.now, 0)] }, true)
noncomputable def putQ (Q : Qu) (s : ByteArray) : Qu × Bool := if qOk Q = true ∧ nameB s = true then putC Q s else (Q, false)
def takeC (Q : Qu) : Qu × ByteArray × Bool :=
  if h : rdyN Q.I Q.now < Q.I.length then
    (if Q.D.length = 60 then (Q, ⟨#[]⟩, false)
     else ({ Q with I := dropAt Q.I (rdyN Q.I Q.now), D := Q.D ++ [((Q.I[rdyN Q.I Q.now]).1, 0, (Q.I[rdyN Q.I Q.now]).2.2)] }, (Q.I[rdyN Q.I Q.now]).1, true))
  else (Q, ⟨#[]⟩, false)
noncomputable def takeQ (Q : Qu) : Qu × ByteArray × Bool := if qOk Q = true then takeC Q else (Q, ⟨#[]⟩, false)
def dlyN (f : Nat) : Nat := min (2 ^ (f - 1)) 64
def doneC (Q : Qu) (s : ByteArray) (well : Bool) : Qu × Bool :=
  if h : fndI Q.D s < Q.D.length then
    (let f : Int := min ((Q.D[fndI Q.D s]).2.2 + 1) 1000
     let R : Qu := { Q with D := dropAt Q.D (fndI Q.D s), A := Q.A.filter (fun t => decide (t ≠ s)) }
     (if well = true then (if inA Q.A s = true then addQ R (s, Q.now, 0) else R) else addQ R (s, Q.now + dlyN f.toNat, f), true))
  else (Q, false)
noncomputable def doneQ (Q : Qu) (s : ByteArray) (well : Bool) : Qu × Bool := if qOk Q = true then doneC Q s well else (Q, false)
noncomputable def passQ (Q : Qu) (z : Int) : Qu := if qOk Q = true ∧ z > Q.now ∧ z ≤ 1000000 then { Q with now := z } else Q
end Go.Proofs.Ytpmhmcekkppbhaa
