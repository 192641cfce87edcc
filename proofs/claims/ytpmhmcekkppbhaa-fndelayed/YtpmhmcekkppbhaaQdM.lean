/- Queues: what FnDelayed asks, in letters. -/
import Derived.Test.YtpmhmcekkppbhaaQdL
import Derived.Test.YtpmhmcekkppbhaaQfW
import Derived.Test.YtpmhmcekkppbhaaQfY
import Derived.Test.YtpmhmcekkppbhaaQdB
import Derived.Test.YtpmhmcekkppbhaaQfP
import Derived.Test.YtpmhmcekkppbhaaQdN
import Derived.Test.YtpmhmcekkppbhaaQfH
namespace Go.Proofs.Ytpmhmcekkppbhaa
open Go.RowKit Go.BigFrame
set_option linter.unusedVariables false

structure DlyF (Q T D1 W1 : Qu) (s : ByteArray) (Zf R : Int) : Prop where
  take : takeQ Q = (T, s, true)
  bad : doneQ T s false = (D1, true)
  well : doneQ T s true = (W1, true)
  okT : okQ T
  okD : okQ D1
  okP : okQ (passQ D1 R)
  gud : qOkP D1
  size : s.size ≤ maxLen
  inR : inK .i64 R
  tpos : 0 < T.D.length
  tlen : T.D.length ≤ 60
  tat : ∀ h : T.D.length - 1 < T.D.length, (T.D[T.D.length - 1]'h).2.2 = Zf
  dpos : 0 < D1.I.length
  dlen : D1.I.length ≤ 60
  dat : ∀ h : D1.I.length - 1 < D1.I.length, D1.I[D1.I.length - 1]'h = (s, R, Zf + 1)
  z0 : 0 ≤ Zf ∧ Zf ≤ 40
  now0 : 0 ≤ D1.now ∧ D1.now ≤ 1000000
  r0 : D1.now < R
  r1 : R ≤ D1.now + 64
  wlen : W1.D.length + 1 = T.D.length
  pass : (passQ D1 R).now = R
  rmax : R ≤ 1000000
  next : ∀ r, nxtP D1 r → r ≤ R
theorem dly_cases {Q : Qu} (h : drQ Q 40) : takeQ Q = (Q, ⟨#[]⟩, false) ∨ ∃ (T D1 W1 : Qu) (s : ByteArray) (Zf R : Int), DlyF Q T D1 W1 s Zf R := by
  have hok := h.1
  have hp := h.2.1
  have hcn := h.2.2.1
  have hnw := h.2.2.2.2
  have htq : takeQ Q = takeC Q := if_pos (qOk_true hp)
  by_cases hk : rdyN Q.I Q.now < Q.I.length
  rotate_left
  · left
    rw [htq]; unfold takeC; rw [dif_neg hk]
  right
  obtain ⟨s, f, hf, htk, hd⟩ := delayed_facts h hk
  have hT := qOkP_take hp
  have hTo := (okQ_take hok)
  rw [htq] at hTo
  rw [htk] at hT hTo
  have hd0 := hd false
  have hd1 := hd true
  rw [if_neg (by decide)] at hd0
  rw [if_pos rfl] at hd1
  have hD := qOkP_done (s := s) (well := false) hT
  rw [hd0] at hD
  have hlen := len_dropAt Q.I _ hk
  have hdl : 1 ≤ dlyN (f + 1) ∧ dlyN (f + 1) ≤ 64 := ⟨dlyN_pos _, Nat.min_le_right _ _⟩
  have hnow := hp.2.2.1
  unfold cntQ at hcn
  have hsz : s.size ≤ maxLen := hTo.2
  have e0 : doneQ { Q with I := dropAt Q.I (rdyN Q.I Q.now), D := Q.D ++ [(s, 0, (f : Int))] } s false = _ := (if_pos (qOk_true hT)).trans hd0
  have e1 : doneQ { Q with I := dropAt Q.I (rdyN Q.I Q.now), D := Q.D ++ [(s, 0, (f : Int))] } s true = _ := (if_pos (qOk_true hT)).trans hd1
  have hoD := okQ_done hTo.1 hsz false
  rw [e0] at hoD
  generalize rdyN Q.I Q.now = k at *
  generalize dropAt Q.I k = I' at *
  have hR : inK .i64 (Q.now + (dlyN (f + 1) : Nat)) := ⟨by omega, by omega⟩
  refine ⟨_, _, _, s, (f : Int), Q.now + (dlyN (f + 1) : Nat), htq.trans htk, e0, e1, hTo.1, hoD, okQ_pass hoD hR, hD, hsz, hR, ?_, ?_, ?_, ?_, ?_, ?_, ⟨by omega, by omega⟩, hnow, ?_, ?_, ?_, ?_, ?_, ?_⟩
  · show 0 < (Q.D ++ [(s, (0 : Int), (f : Int))]).length; rw [List.length_append, List.length_singleton]; omega
  · show (Q.D ++ [(s, (0 : Int), (f : Int))]).length ≤ 60; rw [List.length_append, List.length_singleton]; omega
  · intro hh
    have : ∀ i (hi : i < (Q.D ++ [(s, (0 : Int), (f : Int))]).length), i = Q.D.length → ((Q.D ++ [(s, (0 : Int), (f : Int))])[i]'hi).2.2 = (f : Int) := fun i hi e => by
      subst e; rw [List.getElem_append_right (by omega)]; simp
    exact this _ hh (by show (Q.D ++ [(s, (0 : Int), (f : Int))]).length - 1 = _; rw [List.length_append, List.length_singleton]; omega)
  · show 0 < (I' ++ [(s, Q.now + (dlyN (f + 1) : Nat), ((f + 1 : Nat) : Int))]).length; rw [List.length_append, List.length_singleton]; omega
  · show (I' ++ [(s, Q.now + (dlyN (f + 1) : Nat), ((f + 1 : Nat) : Int))]).length ≤ 60; rw [List.length_append, List.length_singleton]; omega
  · intro hh
    have : ∀ i (hi : i < (I' ++ [(s, Q.now + (dlyN (f + 1) : Nat), ((f + 1 : Nat) : Int))]).length), i = I'.length → (I' ++ [(s, Q.now + (dlyN (f + 1) : Nat), ((f + 1 : Nat) : Int))])[i]'hi = (s, Q.now + (dlyN (f + 1) : Nat), (f : Int) + 1) := fun i hi e => by
      subst e; rw [List.getElem_append_right (by omega)]; simp
    exact this _ hh (by show (I' ++ [(s, Q.now + (dlyN (f + 1) : Nat), ((f + 1 : Nat) : Int))]).length - 1 = _; rw [List.length_append, List.length_singleton]; omega)
  · show Q.now < Q.now + _; omega
  · show Q.now + _ ≤ Q.now + 64; omega
  · show Q.D.length + 1 = (Q.D ++ [(s, (0 : Int), (f : Int))]).length; rw [List.length_append, List.length_singleton]
  · unfold passQ
    rw [if_pos ⟨qOk_true hD, by show Q.now + _ > Q.now; omega, by omega⟩]
  · omega
  · intro r hr
    rcases hr with ⟨h0, _⟩ | ⟨m, ⟨_, hm⟩, rfl⟩
    · have : (I' ++ [(s, Q.now + (dlyN (f + 1) : Nat), ((f + 1 : Nat) : Int))]).length = 0 := h0
      rw [List.length_append, List.length_singleton] at this; omega
    · have hmm : m ≤ Q.now + (dlyN (f + 1) : Nat) := by
        have hl : I'.length < (I' ++ [(s, Q.now + (dlyN (f + 1) : Nat), ((f + 1 : Nat) : Int))]).length := by rw [List.length_append, List.length_singleton]; omega
        have := hm I'.length hl hl
        have e : ∀ i (hi : i < (I' ++ [(s, Q.now + (dlyN (f + 1) : Nat), ((f + 1 : Nat) : Int))]).length), i = I'.length → ((I' ++ [(s, Q.now + (dlyN (f + 1) : Nat), ((f + 1 : Nat) : Int))])[i]'hi).2.1 = Q.now + (dlyN (f + 1) : Nat) := fun i hi e => by
          subst e; rw [List.getElem_append_right (by omega)]; simp
        rw [show ∀ (X : Int), m ≤ X ↔ m ≤ X from fun _ => Iff.rfl]
        rw [← e _ hl rfl]; exact this
      show max m Q.now ≤ _
      omega
theorem QO.rdS {w : World} {base : Nat} {tI tS : TypeId} {Q : Qu} {vI vD vA : Value} (h : QO w base tI tS Q vI vD vA) : ∃ aI pI aD pD aA pA, (vI = .slice aI Q.I.length pI ∧ vD = .slice aD Q.D.length pD ∧ vA = .slice aA Q.A.length pA) ∧ rdQ w Q [.slice aI Q.I.length pI, .slice aD Q.D.length pD, .slice aA Q.A.length pA, .int .i64 Q.now] := by
  have hr := h.rd
  obtain ⟨aI, pI, e1⟩ := h.i.slice
  obtain ⟨aD, pD, e2⟩ := h.d.slice
  obtain ⟨aA, pA, e3⟩ := h.a.slice
  rw [List.length_map] at e1 e2 e3
  subst e1 e2 e3
  exact ⟨aI, pI, aD, pD, aA, pA, ⟨rfl, rfl, rfl⟩, hr⟩
end Go.Proofs.Ytpmhmcekkppbhaa
