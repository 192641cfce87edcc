/- A region that draws its order and makes memory: one fact an operation, whatever the order. -/
import Derived.Test.YtpmhmcekkppbhaaU5
import Derived.RegionTactic
import Derived.Deep.RegionLaw
namespace Go.Proofs.Ytpmhmcekkppbhaa
open Go.RowKit
set_option linter.unusedVariables false

section
variable {P : Program} {ops : Array Oper} {Q : Exit → Act → World → Prop}
def dstAt (ops : Array Oper) (i : Nat) : Option Tmp := match ops[i]? with | some o => o.dst | none => none
theorem dstAt_eq {ops : Array Oper} {i : Nat} {o : Oper} (h : ops[i]? = some o) : dstAt ops i = o.dst := by unfold dstAt; rw [h]
/-- what lies in an operation's slot -/
def slotV (ops : Array Oper) (i : Nat) (a : Act) : Value := match dstAt ops i with | some d => a.tmps.getD d undef | none => undef
/-- w' is w but for the blocks T and new ones; who owns an old block is as it was -/
structure Fr (T : World → World → Prop) (γ : Nat → Nat) (w : World) (γ' : Nat → Nat) (w' : World) : Prop where
  out : T w w'
  own : ∀ g, g < w.heap.size → γ' g = γ g
theorem Fr.same {T : World → World → Prop} {γ : Nat → Nat} {w : World} (h : T w w) : Fr T γ w γ w := ⟨h, fun _ _ => rfl⟩
/-- the slots that the region does not write -/
def Kept (ops : Array Oper) (a0 a : Act) : Prop := a.defers = a0.defers ∧ a.tmps.size = a0.tmps.size ∧ ∀ k, (∀ (i : Nat) (o : Oper), ops[i]? = some o → o.dst ≠ some k) → a.tmps.getD k undef = a0.tmps.getD k undef
/-- whether k waits for i -/
def depOn (ops : Array Oper) (k i : Nat) : Bool := match ops[k]? with | some o => o.after.any (fun e => Region.binds .any e && e.on == i) | none => false
/-- whether k waits for i, or for what waits for i -/
def depTr (ops : Array Oper) : Nat → Nat → Nat → Bool
  | 0, k, i => depOn ops k i
  | n + 1, k, i => depOn ops k i || (match ops[k]? with | some o => o.after.any (fun e => Region.binds .any e && depTr ops n e.on i) | none => false)
structure RInv (ops : Array Oper) (sp : Nat → Option Nat) (k0 : Nat) (G : Bool → World → Prop) (F : Nat → (Nat → Nat) → Value → World → Prop) (a0 : Act) (listed : Array Bool) (a : Act) (w : World) (γ : Nat → Nat) : Prop where
  size : listed.size = ops.size
  g : G (listed.getD k0 false) w
  b : Kept ops a0 a
  cl : ∀ k i, listed.getD k false = true → depOn ops k i = true → listed.getD i false = true
  f : ∀ i, listed.getD i false = true → (∀ k, sp i = some k → listed.getD k false = false) → F i γ (slotV ops i a) w
theorem RInv.clTr {ops : Array Oper} {sp : Nat → Option Nat} {k0 : Nat} {G : Bool → World → Prop} {F : Nat → (Nat → Nat) → Value → World → Prop} {a0 : Act} {listed : Array Bool} {a : Act} {w : World} {γ : Nat → Nat} (h : RInv ops sp k0 G F a0 listed a w γ) : ∀ (n k i : Nat), listed.getD k false = true → depTr ops n k i = true → listed.getD i false = true
  | 0, k, i, hk, hd => h.cl k i hk hd
  | n + 1, k, i, hk, hd => by
    unfold depTr at hd
    rw [Bool.or_eq_true] at hd
    rcases hd with hd | hd
    · exact h.cl k i hk hd
    · cases ho : ops[k]? with
      | none => rw [ho] at hd; cases hd
      | some o =>
        rw [ho] at hd
        simp only [Array.any_eq_true, Bool.and_eq_true] at hd
        obtain ⟨q, hq, hb, ht⟩ := hd
        refine RInv.clTr h n _ i (h.cl k _ hk ?_) ht
        unfold depOn
        rw [ho]
        simp only [Array.any_eq_true, Bool.and_eq_true, beq_iff_eq]
        exact ⟨q, hq, hb, rfl⟩
/-- an operation's own duty -/
def StepOk2 (P : Program) (ops : Array Oper) (Q : Exit → Act → World → Prop) (T : Nat → World → World → Prop) (sp : Nat → Option Nat) (k0 : Nat) (G : Bool → World → Prop) (F : Nat → (Nat → Nat) → Value → World → Prop) (a0 : Act) (i : Nat) (o : Oper) : Prop :=
  ∀ (c : Bool) (a : Act) (w : World) (γ : Nat → Nat), (depTr ops ops.size k0 i = true ∨ i = k0 → c = false) → (depOn ops i k0 = true → c = true) → G c w → Kept ops a0 a → (∀ (q : Nat) (hq : q < o.after.size), Region.binds .any (o.after[q]'hq) = true → (sp (o.after[q]'hq).on = none ∨ sp (o.after[q]'hq).on = some i ∨ ∃ k, sp (o.after[q]'hq).on = some k ∧ depOn ops k i = true) → F (o.after[q]'hq).on γ (slotV ops (o.after[q]'hq).on a) w) →
    ∀ K : Act → World → Prop, (∀ v w' γ', G (if i = k0 then true else c) w' → Fr (T i) γ w γ' w' → F i γ' v w' → K (a.put o.dst v) w') → Oper.wp P o a w K Q
/-- the slots are in range and no two alike -/
def slotsOk (ops : Array Oper) (n : Nat) : Bool := ((List.range ops.size).filterMap (dstAt ops)).all (fun d => decide (d < n)) && decide ((List.range ops.size).filterMap (dstAt ops)).Nodup && ops.all (fun o => o.guard.isNone)
theorem getD_set_same (x : Array Value) (d : Nat) (v : Value) (h : d < x.size) : (x.setIfInBounds d v).getD d undef = v := by simp [Array.getD, h]
theorem getD_set_ne (x : Array Value) (d k : Nat) (v : Value) (h : d ≠ k) : (x.setIfInBounds d v).getD k undef = x.getD k undef := by
  rw [Array.getD_eq_getD_getElem?, Array.getD_eq_getD_getElem?, Array.getElem?_setIfInBounds_ne h]
theorem slot_other {i j d : Nat} {o o' : Oper} (hn : ((List.range ops.size).filterMap (dstAt ops)).Nodup) (hi : ops[i]? = some o) (hj : ops[j]? = some o') (hd : o.dst = some d) (hd' : o'.dst = some d) : i = j := by
  have li := (Array.getElem?_eq_some_iff.1 hi).1
  have lj := (Array.getElem?_eq_some_iff.1 hj).1
  have key : ∀ (L : List Nat), L.Nodup → (L.filterMap (dstAt ops)).Nodup → i ∈ L → j ∈ L → i = j := by
    intro L
    induction L with
    | nil => intro _ _ h; cases h
    | cons x L ih =>
      intro hL h mi mj
      have hL' := List.nodup_cons.1 hL
      by_cases ex : i = x
      · by_cases ey : j = x
        · rw [ex, ey]
        · have mj' : j ∈ L := (List.mem_cons.1 mj).resolve_left ey
          subst ex
          rw [List.filterMap_cons_some (b := d) (by rw [dstAt_eq hi]; exact hd)] at h
          have := (List.nodup_cons.1 h).1
          exact (this (List.mem_filterMap.2 ⟨j, mj', by rw [dstAt_eq hj]; exact hd'⟩)).elim
      · have mi' : i ∈ L := (List.mem_cons.1 mi).resolve_left ex
        by_cases ey : j = x
        · subst ey
          rw [List.filterMap_cons_some (b := d) (by rw [dstAt_eq hj]; exact hd')] at h
          have := (List.nodup_cons.1 h).1
          exact (this (List.mem_filterMap.2 ⟨i, mi', by rw [dstAt_eq hi]; exact hd⟩)).elim
        · have mj' : j ∈ L := (List.mem_cons.1 mj).resolve_left ey
          refine ih hL'.2 ?_ mi' mj'
          cases hb : dstAt ops x with
          | none => rw [List.filterMap_cons_none hb] at h; exact h
          | some b => rw [List.filterMap_cons_some hb] at h; exact (List.nodup_cons.1 h).2
  exact key (List.range ops.size) List.nodup_range hn (by simpa using li) (by simpa using lj)
theorem Kept.put {a0 a : Act} (h : Kept ops a0 a) {i : Nat} {o : Oper} (hi : ops[i]? = some o) (v : Value) : Kept ops a0 (a.put o.dst v) := by
  obtain ⟨h1, h2, h3⟩ := h
  cases hd : o.dst with
  | none => exact ⟨h1, h2, h3⟩
  | some d =>
    refine ⟨h1, by simpa [Act.put] using h2, fun k hk => ?_⟩
    show (a.tmps.setIfInBounds d v).getD k undef = _
    rw [getD_set_ne _ _ _ _ (fun e => hk i o hi (by rw [hd, e]))]
    exact h3 k hk
theorem slotV_put_same {a : Act} {i : Nat} {o : Oper} (hi : ops[i]? = some o) (v : Value) (hv : o.dst = none → v = undef) (hs : ∀ d, o.dst = some d → d < a.tmps.size) : slotV ops i (a.put o.dst v) = v := by
  unfold slotV
  rw [dstAt_eq hi]
  cases hd : o.dst with
  | none => exact (hv hd).symm
  | some d => exact getD_set_same _ _ _ (hs d hd)
theorem slotV_put_other {a : Act} {i j : Nat} {o : Oper} (hn : ((List.range ops.size).filterMap (dstAt ops)).Nodup) (hi : ops[i]? = some o) (v : Value) (hne : i ≠ j) : slotV ops j (a.put o.dst v) = slotV ops j a := by
  unfold slotV
  cases hd' : dstAt ops j with
  | none => rfl
  | some d' =>
    cases hd : o.dst with
    | none => rfl
    | some d =>
      refine getD_set_ne _ _ _ _ (fun e => hne ?_)
      subst e
      cases hj : ops[j]? with
      | none => unfold dstAt at hd'; rw [hj] at hd'; cases hd'
      | some o' => rw [dstAt_eq hj] at hd'; exact slot_other hn hi hj hd hd'
def cntF (l : Array Bool) : Nat := (l.toList.filter (fun b => !b)).length
theorem cntL_set : ∀ (x : List Bool) (i : Nat), x[i]? = some false → ((x.set i true).filter (fun b => !b)).length + 1 = (x.filter (fun b => !b)).length
  | [], i, h => by simp at h
  | b :: x, 0, h => by
    have : b = false := by simpa using h
    subst this
    simp
  | b :: x, i + 1, h => by
    have := cntL_set x i (by simpa using h)
    simp only [List.set_cons_succ, List.filter_cons]
    split <;> simp_all
theorem cntF_set {l : Array Bool} {i : Nat} (hi : i < l.size) (hf : l[i] = false) : cntF (l.setIfInBounds i true) + 1 = cntF l := by
  unfold cntF
  rw [Array.toList_setIfInBounds]
  exact cntL_set _ _ (by rw [Array.getElem?_toList, Array.getElem?_eq_getElem hi, hf])
theorem wpAny_inv {T : Nat → World → World → Prop} {sp : Nat → Option Nat} {k0 : Nat} (hk0 : k0 < ops.size) {G : Bool → World → Prop} {F : Nat → (Nat → Nat) → Value → World → Prop} {a0 : Act} (hs : slotsOk ops a0.tmps.size = true)
    (hF : ∀ i j γ γ' v w w', i ≠ j → sp j ≠ some i → depOn ops j i = false → (∀ k, sp j = some k → depOn ops i k = false) → F j γ v w → Fr (T i) γ w γ' w' → F j γ' v w') (hU : ∀ (i : Nat) (o : Oper), ops[i]? = some o → o.dst = none → ∀ γ v w, F i γ v w → F i γ undef w)
    (hstep : ∀ i o, ops[i]? = some o → StepOk2 P ops Q T sp k0 G F a0 i o)
    (hend : ∀ a w γ, RInv ops sp k0 G F a0 (Array.replicate ops.size true) a w γ → Q .normal a w) :
    ∀ (fuel : Nat) (listed : Array Bool) (a : Act) (w : World) (γ : Nat → Nat), RInv ops sp k0 G F a0 listed a w γ → cntF listed ≤ fuel → (Region.ready .any ops listed = [] → cntF listed = 0) → (∀ l : Array Bool, l.size = ops.size → Region.ready .any ops l = [] → cntF l = 0) → wpAny P .any ops Q fuel listed a w := by
  unfold slotsOk at hs
  simp only [Bool.and_eq_true, decide_eq_true_eq, List.all_eq_true, Array.all_eq_true] at hs
  obtain ⟨⟨hs1, hs2⟩, hs3⟩ := hs
  have full : ∀ (l : Array Bool), cntF l = 0 → l.size = ops.size → l = Array.replicate ops.size true := by
    intro l h0 hl
    apply Array.ext
    · simp [hl]
    · intro i h1 h2
      rw [Array.getElem_replicate]
      unfold cntF at h0
      have h3 := List.length_eq_zero_iff.1 h0
      rw [List.filter_eq_nil_iff] at h3
      have := h3 l[i] (by simp)
      simpa using this
  intro fuel
  induction fuel with
  | zero =>
    intro listed a w γ h hc hr _
    have h0 : cntF listed = 0 := by omega
    have e := full listed h0 h.size
    refine ⟨?_, hend a w γ (e ▸ h)⟩
    rw [e]
    unfold Region.ready
    rw [List.filter_eq_nil_iff]
    intro i hi
    rw [List.mem_range] at hi
    simp [Array.getD, hi]
  | succ fuel ih =>
    intro listed a w γ h hc hr hall
    refine ⟨fun h0 => hend a w γ ((full listed (hr h0) h.size) ▸ h), fun i hi => ?_⟩
    unfold Region.ready at hi
    rw [List.mem_filter, List.mem_range] at hi
    obtain ⟨hlt, hi⟩ := hi
    have ho : ops[i]? = some ops[i] := Array.getElem?_eq_getElem hlt
    rw [ho] at hi
    simp only [Option.map_some, Option.getD_some, Bool.and_eq_true, Bool.not_eq_true', Array.all_eq_true, Bool.or_eq_true] at hi
    obtain ⟨hl, hd⟩ := hi
    have hls : i < listed.size := by rw [h.size]; exact hlt
    have hl' : listed[i] = false := by simpa [Array.getD, hls] using hl
    have hdst : ∀ d, (ops[i]).dst = some d → d < a.tmps.size := fun d hd => by
      rw [h.b.2.1]
      have := hs1 d (List.mem_filterMap.2 ⟨i, by simpa using hlt, by rw [dstAt_eq ho]; exact hd⟩)
      simpa using this
    refine wpOp_step ho (fun K hK => ?_)
    have hg : (ops[i]).guard = none := by
      have := hs3 i hlt
      simpa using this
    rw [if_pos (by simp [Region.wanted, hg])]
    refine hstep i ops[i] ho _ a w γ ?hc0 ?hc1 h.g h.b (fun q he hb hsp => ?_) K (fun v w' γ' hG hFr hFi => hK _ _ ?_)
    case hc0 =>
      rintro (hc | rfl)
      · cases hx : listed.getD k0 false with
        | false => rfl
        | true =>
          have := h.clTr _ k0 i hx hc
          simp [Array.getD, hls, hl'] at this
      · simp [Array.getD, hls, hl']
    case hc1 =>
      intro hc
      unfold depOn at hc
      rw [ho] at hc
      simp only [Array.any_eq_true, Bool.and_eq_true, beq_iff_eq] at hc
      obtain ⟨q, hq, hb, rfl⟩ := hc
      rcases hd q hq with h1 | h1
      · rw [hb] at h1; cases h1
      · exact h1
    · have := hd q he
      rcases this with h1 | h1
      · rw [hb] at h1; cases h1
      · refine h.f _ h1 (fun k hk => ?_)
        rcases hsp with hsp | hsp | ⟨k', hsp, hdk⟩
        · rw [hsp] at hk; cases hk
        · rw [hsp] at hk; cases hk
          simpa [Array.getD, hls] using hl'
        · rw [hsp] at hk; cases hk
          cases hc : listed.getD k false with
          | false => rfl
          | true =>
            have := h.cl k i hc hdk
            simp [Array.getD, hls, hl'] at this
    · have hc' := cntF_set hls hl'
      refine ih _ _ _ γ' ⟨by rw [Array.size_setIfInBounds]; exact h.size, ?hgg, h.b.put ho v, fun k i' hk hd' => ?_, fun j hj hjs => ?_⟩ (by omega) (hall _ (by rw [Array.size_setIfInBounds]; exact h.size)) hall
      case hgg =>
        by_cases ek0 : i = k0
        · subst ek0
          rw [if_pos rfl] at hG
          have : (listed.setIfInBounds i true).getD i false = true := by simp [Array.getD, hls]
          rw [this]; exact hG
        · rw [if_neg ek0] at hG
          rw [Array.getD_eq_getD_getElem?, Array.getElem?_setIfInBounds_ne ek0, ← Array.getD_eq_getD_getElem?]
          exact hG
      · by_cases ek : i = i'
        · subst ek
          simp [Array.getD, hls]
        · rw [Array.getD_eq_getD_getElem?, Array.getElem?_setIfInBounds_ne ek, ← Array.getD_eq_getD_getElem?]
          by_cases ek' : i = k
          · subst ek'
            unfold depOn at hd'
            rw [ho] at hd'
            simp only [Array.any_eq_true, Bool.and_eq_true, beq_iff_eq] at hd'
            obtain ⟨q, hq, hb, rfl⟩ := hd'
            have := hd q hq
            rcases this with h1 | h1
            · rw [hb] at h1; cases h1
            · exact h1
          · rw [Array.getD_eq_getD_getElem?, Array.getElem?_setIfInBounds_ne ek', ← Array.getD_eq_getD_getElem?] at hk
            exact h.cl k i' hk hd'
      by_cases e : i = j
      · subst e
        cases hdd : (ops[i]).dst with
        | none =>
          have : slotV ops i (a.put none v) = undef := by unfold slotV; rw [dstAt_eq ho, hdd]
          rw [this]
          exact hU i _ ho hdd _ _ _ hFi
        | some d =>
          have := slotV_put_same (a := a) ho v (fun hn => by rw [hdd] at hn; cases hn) hdst
          rw [hdd] at this
          rw [this]
          exact hFi
      · rw [slotV_put_other hs2 ho v e]
        have hset : ∀ k, i ≠ k → (listed.setIfInBounds i true).getD k false = listed.getD k false := fun k hk => by
          rw [Array.getD_eq_getD_getElem?, Array.getD_eq_getD_getElem?, Array.getElem?_setIfInBounds_ne hk]
        have hni : sp j ≠ some i := fun hh => by
          have := hjs i hh
          simp [Array.getD, hls] at this
        have hnd : depOn ops j i = false := by
          cases hc : depOn ops j i with
          | false => rfl
          | true =>
            have h1 : listed.getD j false = true := by rw [← hset j e]; exact hj
            have := h.cl j i h1 hc
            simp [Array.getD, hls, hl'] at this
        have hsd : ∀ k, sp j = some k → depOn ops i k = false := fun k hk => by
          cases hc : depOn ops i k with
          | false => rfl
          | true =>
            exfalso
            have h1 := hjs k hk
            have hki : i ≠ k := fun ee => hni (by rw [ee]; exact hk)
            rw [hset k hki] at h1
            unfold depOn at hc
            rw [ho] at hc
            simp only [Array.any_eq_true, Bool.and_eq_true, beq_iff_eq] at hc
            obtain ⟨q, hq, hb, rfl⟩ := hc
            rcases hd q hq with h2 | h2
            · rw [hb] at h2; cases h2
            · rw [h2] at h1; cases h1
        refine hF i j γ γ' _ w w' e hni hnd hsd (h.f j ?_ (fun k hk => by
          have := hjs k hk
          rwa [hset k (fun ee => hni (by rw [ee]; exact hk))] at this)) hFr
        have : (listed.setIfInBounds i true).getD j false = listed.getD j false := by
          rw [Array.getD_eq_getD_getElem?, Array.getD_eq_getD_getElem?, Array.getElem?_setIfInBounds_ne e]
        rw [← this]; exact hj
/-- no operation waits for a later one -/
def earlier (ops : Array Oper) : Bool := (List.range ops.size).all fun i => match ops[i]? with | some o => o.after.all (fun e => !Region.binds .any e || decide (e.on < i)) | none => true
theorem ready_all (he : earlier ops = true) (l : Array Bool) (hl : l.size = ops.size) (h : Region.ready .any ops l = []) : cntF l = 0 := by
  have key : ∀ i, i < ops.size → l.getD i false = true := by
    intro i
    induction i using Nat.strongRecOn with
    | ind i ih =>
      intro hi
      have ho : ops[i]? = some ops[i] := Array.getElem?_eq_getElem hi
      unfold Region.ready at h
      rw [List.filter_eq_nil_iff] at h
      have h1 := h i (by simpa using hi)
      rw [ho] at h1
      have hall : (ops[i]).after.all (fun e => !Region.binds .any e || l.getD e.on false) = true := by
        rw [Array.all_eq_true]
        intro q hq
        unfold earlier at he
        rw [List.all_eq_true] at he
        have h2 := he i (by simpa using hi)
        rw [ho] at h2
        simp only [Array.all_eq_true] at h2
        have h3 := h2 q hq
        cases hb : Region.binds .any (ops[i]).after[q] with
        | false => simp
        | true =>
          rw [hb] at h3
          have h4 : ((ops[i]).after[q]).on < i := by simpa using h3
          rw [ih _ h4 (by omega)]
          simp
      simp only [Option.map_some, Option.getD_some, hall, Bool.and_true] at h1
      have hls : i < l.size := by omega
      simpa [Array.getD, hls] using h1
  unfold cntF
  rw [List.length_eq_zero_iff, List.filter_eq_nil_iff]
  intro b hb
  obtain ⟨i, hi, rfl⟩ := List.mem_iff_getElem.1 hb
  have hi' : i < l.size := by simpa using hi
  have := key i (by omega)
  simpa [Array.getD, hi'] using this
def putAll : List Oper → Nat → (Nat → Value) → Act → Act
  | [], _, _, a => a
  | o :: r, k, x, a => putAll r (k + 1) x (a.put o.dst (x k))
theorem putAll_defers : ∀ (L : List Oper) (m : Nat) (x : Nat → Value) (a : Act), (putAll L m x a).defers = a.defers
  | [], _, _, _ => rfl
  | o :: r, m, x, a => by
    rw [putAll, putAll_defers]
    cases o.dst <;> rfl
theorem putAll_size : ∀ (L : List Oper) (m : Nat) (x : Nat → Value) (a : Act), (putAll L m x a).tmps.size = a.tmps.size
  | [], _, _, _ => rfl
  | o :: r, m, x, a => by
    rw [putAll, putAll_size]
    cases o.dst <;> simp [Act.put]
theorem putAll_other : ∀ (L : List Oper) (m : Nat) (x : Nat → Value) (a : Act) (k : Nat), (∀ o ∈ L, o.dst ≠ some k) → (putAll L m x a).tmps.getD k undef = a.tmps.getD k undef
  | [], _, _, _, _, _ => rfl
  | o :: r, m, x, a, k, h => by
    rw [putAll, putAll_other r _ _ _ _ (fun q hq => h q (.tail _ hq))]
    cases hd : o.dst with
    | none => rfl
    | some d => exact getD_set_ne _ _ _ _ (fun e => h o (.head _) (by rw [hd, e]))
theorem putAll_hit : ∀ (L : List Oper) (m : Nat) (x : Nat → Value) (a : Act) (i k : Nat) (o : Oper), L[i]? = some o → o.dst = some k → (∀ j o', L[j]? = some o' → o'.dst = some k → j = i) → k < a.tmps.size → (putAll L m x a).tmps.getD k undef = x (m + i)
  | [], _, _, _, _, _, _, h, _, _, _ => by simp at h
  | p :: r, m, x, a, 0, k, o, h, hd, hu, hk => by
    have : p = o := by simpa using h
    subst this
    rw [putAll, putAll_other]
    · rw [hd]; exact getD_set_same _ _ _ hk
    · intro q hq e
      obtain ⟨j, hj⟩ := List.mem_iff_getElem?.1 hq
      have := hu (j + 1) q (by simpa using hj) e
      omega
  | p :: r, m, x, a, i + 1, k, o, h, hd, hu, hk => by
    rw [putAll, putAll_hit r (m + 1) x _ i k o (by simpa using h) hd (fun j o' hj e => by have := hu (j + 1) o' (by simpa using hj) e; omega) (by cases p.dst <;> simpa [Act.put] using hk)]
    congr 1; omega
/-- THE LAW: a region that draws its order, one fact an operation -/
theorem wp_region_inv2 {id : Nat} (T : Nat → World → World → Prop) (sp : Nat → Option Nat) (k0 : Nat) (hk0 : k0 < ops.size) (G : Bool → World → Prop) (F : Nat → (Nat → Nat) → Value → World → Prop) {a0 : Act} {w : World} (hm : P.follows .mixedOrders = true) (hs : slotsOk ops a0.tmps.size = true) (he : earlier ops = true)
    (hF : ∀ i j γ γ' v w w', i ≠ j → sp j ≠ some i → depOn ops j i = false → (∀ k, sp j = some k → depOn ops i k = false) → F j γ v w → Fr (T i) γ w γ' w' → F j γ' v w') (hU : ∀ (i : Nat) (o : Oper), ops[i]? = some o → o.dst = none → ∀ γ v w, F i γ v w → F i γ undef w)
    (hG : G false w.drew) (hstep : ∀ i o, ops[i]? = some o → StepOk2 P ops Q T sp k0 G F a0 i o)
    (hend : ∀ (x : Nat → Value) (w' : World) (γ : Nat → Nat), G true w' → (∀ i, i < ops.size → sp i = none → F i γ (x i) w') → Q .normal (putAll ops.toList 0 x a0) w') : (Code.region id ops true).wp P Q a0 w := by
  refine wp_region_any hm ?_
  have hs' := hs
  unfold slotsOk at hs'
  simp only [Bool.and_eq_true, decide_eq_true_eq, List.all_eq_true, Array.all_eq_true] at hs'
  obtain ⟨⟨hs1, hs2⟩, hs3⟩ := hs'
  refine wpAny_inv (T := T) (sp := sp) (k0 := k0) hk0 (G := G) (F := F) (a0 := a0) hs hF hU hstep (fun a w' γ h => ?_) ops.size _ a0 _ (fun _ => 0) ⟨by simp, by simpa [Array.getD, hk0] using hG, ⟨rfl, rfl, fun _ _ => rfl⟩, fun k i hk => ?_, fun i hi _ => ?_⟩ ?_ (fun h => ready_all he _ (by simp) h) (fun l hl h => ready_all he l hl h)
  · have e : a = putAll ops.toList 0 (fun i => slotV ops i a) a0 := by
      obtain ⟨k1, k2, k3⟩ := h.b
      have e1 : a.tmps = (putAll ops.toList 0 (fun i => slotV ops i a) a0).tmps := by
        apply Array.ext
        · rw [putAll_size, k2]
        · intro k h1 h2
          have g1 : a.tmps.getD k undef = a.tmps[k] := by simp [Array.getD, h1]
          have g2 : (putAll ops.toList 0 (fun i => slotV ops i a) a0).tmps.getD k undef = (putAll ops.toList 0 (fun i => slotV ops i a) a0).tmps[k] := by simp only [Array.getD, h2]; rfl
          rw [← g1, ← g2]
          by_cases hx : ∃ (i : Nat) (o : Oper), ops[i]? = some o ∧ o.dst = some k
          · obtain ⟨i, o, hi, hd⟩ := hx
            rw [putAll_hit ops.toList 0 _ a0 i k o (by rw [Array.getElem?_toList]; exact hi) hd (fun j o' hj hd' => slot_other hs2 (by rw [Array.getElem?_toList] at hj; exact hj) hi hd' hd) (by omega)]
            rw [Nat.zero_add]
            unfold slotV
            rw [dstAt_eq hi, hd]
          · rw [putAll_other]
            · exact k3 k (fun i o hi hd => hx ⟨i, o, hi, hd⟩)
            · intro o ho hd
              obtain ⟨i, hi⟩ := List.mem_iff_getElem?.1 ho
              exact hx ⟨i, o, by rw [← Array.getElem?_toList]; exact hi, hd⟩
      have e2 : a.defers = (putAll ops.toList 0 (fun i => slotV ops i a) a0).defers := by rw [putAll_defers, k1]
      generalize putAll ops.toList 0 (fun i => slotV ops i a) a0 = b at e1 e2
      cases a; cases b
      simp_all
    rw [e]
    refine hend _ w' γ (by have := h.g; simpa [Array.getD, hk0] using this) (fun i hi hsp => h.f i (by simp [Array.getD, hi]) (fun k hk => by rw [hsp] at hk; cases hk))
  · exfalso
    simp only [Array.getD, Array.size_replicate] at hk
    split at hk
    · simp at hk
    · cases hk
  · exfalso
    simp only [Array.getD, Array.size_replicate] at hi
    split at hi
    · simp at hi
    · cases hi
  · unfold cntF
    exact Nat.le_trans (List.length_filter_le _ _) (by simp)
/-- an operation's own duty, where what holds throughout is one and the same -/
def StepOk (P : Program) (ops : Array Oper) (Q : Exit → Act → World → Prop) (T : Nat → World → World → Prop) (sp : Nat → Option Nat) (G : World → Prop) (F : Nat → (Nat → Nat) → Value → World → Prop) (a0 : Act) (i : Nat) (o : Oper) : Prop :=
  ∀ (a : Act) (w : World) (γ : Nat → Nat), G w → Kept ops a0 a → (∀ (q : Nat) (hq : q < o.after.size), Region.binds .any (o.after[q]'hq) = true → (sp (o.after[q]'hq).on = none ∨ sp (o.after[q]'hq).on = some i ∨ ∃ k, sp (o.after[q]'hq).on = some k ∧ depOn ops k i = true) → F (o.after[q]'hq).on γ (slotV ops (o.after[q]'hq).on a) w) →
    ∀ K : Act → World → Prop, (∀ v w' γ', G w' → Fr (T i) γ w γ' w' → F i γ' v w' → K (a.put o.dst v) w') → Oper.wp P o a w K Q
theorem wp_region_inv {id : Nat} (T : Nat → World → World → Prop) (sp : Nat → Option Nat) (G : World → Prop) (F : Nat → (Nat → Nat) → Value → World → Prop) {a0 : Act} {w : World} (hm : P.follows .mixedOrders = true) (hs : slotsOk ops a0.tmps.size = true) (he : earlier ops = true)
    (hF : ∀ i j γ γ' v w w', i ≠ j → sp j ≠ some i → depOn ops j i = false → (∀ k, sp j = some k → depOn ops i k = false) → F j γ v w → Fr (T i) γ w γ' w' → F j γ' v w') (hU : ∀ (i : Nat) (o : Oper), ops[i]? = some o → o.dst = none → ∀ γ v w, F i γ v w → F i γ undef w)
    (hG : G w.drew) (hstep : ∀ i o, ops[i]? = some o → StepOk P ops Q T sp G F a0 i o)
    (hend : ∀ (x : Nat → Value) (w' : World) (γ : Nat → Nat), G w' → (∀ i, i < ops.size → sp i = none → F i γ (x i) w') → Q .normal (putAll ops.toList 0 x a0) w') (h0 : 0 < ops.size := by decide) : (Code.region id ops true).wp P Q a0 w :=
  wp_region_inv2 T sp 0 h0 (fun _ => G) F hm hs he hF hU hG (fun i o hi c a w γ _ _ => hstep i o hi a w γ) hend
end
theorem wp_pure {P : Program} {o : Oper} {a : Act} {w : World} {K : Act → World → Prop} {Q : Exit → Act → World → Prop} (v : Value) (h : (execOp a.eval o).run P w = .ok (.value v) w) (hK : K (a.put o.dst v) w) : Oper.wp P o a w K Q := by
  unfold Oper.wp
  rw [h]
  exact hK
theorem wp_val {P : Program} {o : Oper} {a : Act} {w w' : World} {K : Act → World → Prop} {Q : Exit → Act → World → Prop} (v : Value) (h : (execOp a.eval o).run P w = .ok (.value v) w') (hK : K (a.put o.dst v) w') : Oper.wp P o a w K Q := by
  unfold Oper.wp
  rw [h]
  exact hK
theorem wp_skip {P : Program} {o : Oper} {a : Act} {w w' : World} {K : Act → World → Prop} {Q : Exit → Act → World → Prop} (h : (execOp a.eval o).run P w = .ok .skip w') (hK : K (a.put o.dst undef) w') : Oper.wp P o a w K Q := by
  unfold Oper.wp
  rw [h]
  exact hK
theorem append_run {P : Program} {o : Oper} {a : Act} {w w' : World} (s x : Operand) (t : TypeId) (ho : o.op = .call { callee := .builtin .append, args := #[s, x], argTypes := #[t, t] }) {v xv v' : Value} (hs : a.eval s = v) (hx : a.eval x = xv) (hr : (Builtin.append_ #[t, t] o.type #[v, xv]).run P w = .ok v' w') : (execOp a.eval o).run P w = .ok (.value v') w' := by
  unfold execOp
  simp only [ho, resolve, invoke, builtin, Sem.run_bind, Sem.run_pure, Result.andThen_ok, List.map_toArray, List.map_cons, List.map_nil, hs, hx, hr]
def noDst (ops : Array Oper) (k : Nat) : Bool := ops.all (fun o => o.dst != some k)
theorem Kept.at {ops : Array Oper} {a0 a : Act} (h : Kept ops a0 a) (k : Nat) (hc : noDst ops k = true) : a.tmps.getD k undef = a0.tmps.getD k undef := by
  refine h.2.2 k (fun i o hi hd => ?_)
  unfold noDst at hc
  rw [Array.all_eq_true] at hc
  obtain ⟨hlt, rfl⟩ := Array.getElem?_eq_some_iff.1 hi
  have := hc i hlt
  rw [hd] at this
  simp at this
theorem Fr.below {T : World → World → Prop} (γ : Nat → Nat) {w w' : World} (ht : T w w') (c : Nat) : Fr T γ w (fun x => if x = w.heap.size then c else γ x) w' := ⟨ht, fun g hg => if_neg (by omega)⟩
theorem below_alloc (w : World) (o : Obj) : Below w.heap.size w (w.alloc o) := (Below.refl _ _).alloc (Nat.le_refl _) _
theorem store_run {P : Program} {o : Oper} {a : Act} {w : World} (t : TypeId) (x y : Operand) (ho : o.op = .store t x y) {b j : Nat} (hx : a.eval x = .pointer (some ⟨b, j, none⟩)) {v : Value} (hy : a.eval y = v) (ys : List Value) (hv : v.cells = ys.toArray) (h1 : ∀ u ∈ ys, u.oneCell' = true) (hi : (P.info? t).map (·.size) = some ys.length) (ht : w.there b j ys.length) :
    (execOp a.eval o).run P w = .ok .skip (w.setCells b j ys) := by
  unfold execOp
  simp only [ho, hx, hy, Sem.run_bind, run_storeAt_cells hv h1 hi ht, Result.andThen_ok, Sem.run_pure]
end Go.Proofs.Ytpmhmcekkppbhaa
