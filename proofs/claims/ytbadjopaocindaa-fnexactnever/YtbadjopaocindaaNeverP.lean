/- When a selector holds for no labels: plain; what spec asks and what impl asks is the same. -/
import Derived.Test.YtbadjopaocindaaMatch1
namespace Go.Proofs.Ytbadjopaocindaa
set_option linter.unusedVariables false

def zed (i : Nat) : ByteArray := ⟨#[122, UInt8.ofNat (48 + i / 10), UInt8.ofNat (48 + i % 10)]⟩
def zeds (n : Nat) : List ByteArray := (List.range n).map zed
def about (ts : List TD) (key : ByteArray) : List TD := ts.filter fun t => decide (t.2.1 = key)
def valsOf (ts : List TD) (key : ByteArray) : List ByteArray := (about ts key).flatMap fun t => t.2.2
def allB (ts : List TD) (key v : ByteArray) (has : Bool) : Bool := ts.all fun t => !decide (t.2.1 = key) || holdsB t v has
def aloneB (ts : List TD) (key : ByteArray) : Bool := !allB ts key ⟨#[]⟩ false && (zeds 60 ++ valsOf ts key).all fun v => !allB ts key v true
def askOf (t : TD) : List ByteArray := if t.1 = 1 then [ssAt t.2.2 0] else if t.1 = 3 then t.2.2 else []
def holdAll (fs : List TD) (v : ByteArray) (has : Bool) : Bool := fs.all fun t => holdsB t v has
def canB (fs : List TD) : Bool := holdAll fs ⟨#[]⟩ false || holdAll fs ⟨#[]⟩ true || fs.any fun t => (askOf t).any fun v => holdAll fs v true
def neverB (ts : List TD) : Bool := selB ts && ts.any fun t => aloneB ts t.2.1

theorem allB_about (ts : List TD) (key v : ByteArray) (has : Bool) : allB ts key v has = holdAll (about ts key) v has := by
  unfold allB holdAll about
  induction ts with
  | nil => rfl
  | cons t r ih =>
    rw [List.all_cons, ih]
    by_cases h : t.2.1 = key
    · rw [List.filter_cons_of_pos (by simpa using h), List.all_cons, decide_eq_true h]; rfl
    · rw [List.filter_cons_of_neg (by simpa using h), decide_eq_false h]; rfl
theorem holdAll_iff {fs : List TD} {v : ByteArray} {has : Bool} : holdAll fs v has = true ↔ ∀ t ∈ fs, holdsB t v has = true := by
  unfold holdAll; rw [List.all_eq_true]
theorem zed_inj {i j : Nat} (hi : i < 60) (hj : j < 60) (h : zed i = zed j) : i = j := by
  unfold zed at h
  have h1 := congrArg (fun b : ByteArray => b.data.toList) h
  simp only [List.cons.injEq, and_true] at h1
  obtain ⟨_, h2, h3⟩ := h1
  have e2 := congrArg UInt8.toNat h2
  have e3 := congrArg UInt8.toNat h3
  rw [UInt8.toNat_ofNat', UInt8.toNat_ofNat'] at e2 e3
  omega
theorem pigeon : ∀ (n : Nat) (L : List ByteArray) (f : Nat → ByteArray), (∀ i j, i < n → j < n → f i = f j → i = j) → (∀ i, i < n → f i ∈ L) → n ≤ L.length
  | 0, L, f, _, _ => Nat.zero_le _
  | n + 1, L, f, hf, hm => by
    have h := pigeon n (L.filter fun x => decide (x ≠ f n)) f (fun i j hi hj e => hf i j (by omega) (by omega) e) (fun i hi => by
      rw [List.mem_filter]
      refine ⟨hm i (by omega), ?_⟩
      rw [decide_eq_true_eq]
      intro e
      have := hf i n (by omega) (by omega) e
      omega)
    have hlt : (L.filter fun x => decide (x ≠ f n)).length < L.length := by
      rcases Nat.lt_or_ge (L.filter fun x => decide (x ≠ f n)).length L.length with h' | h'
      · exact h'
      · have hall := List.length_filter_eq_length_iff.1 (Nat.le_antisymm (List.length_filter_le _ _) h')
        have := hall _ (hm n (by omega))
        simp at this
    omega
theorem spare (L : List ByteArray) (h : L.length < 60) : ∃ z ∈ zeds 60, z ∉ L := by
  by_cases hc : ∀ i, i < 60 → zed i ∈ L
  · have := pigeon 60 L zed (fun i j hi hj e => zed_inj hi hj e) hc
    omega
  · have : ∃ i, i < 60 ∧ zed i ∉ L := by
      apply Classical.byContradiction
      intro hn
      exact hc fun i hi => Classical.byContradiction fun hni => hn ⟨i, hi, hni⟩
    obtain ⟨i, hi, hz⟩ := this
    exact ⟨zed i, List.mem_map.2 ⟨i, List.mem_range.2 hi, rfl⟩, hz⟩
theorem flat_len : ∀ (fs : List TD), (∀ t ∈ fs, t.2.2.length ≤ 6) → (fs.flatMap fun t => t.2.2).length ≤ 6 * fs.length
  | [], _ => by simp
  | t :: r, h => by
    have := flat_len r (fun x hx => h x (by simp [hx]))
    have := h t (by simp)
    simp only [List.flatMap_cons, List.length_append, List.length_cons]
    omega
theorem empty_no : nameB ⟨#[]⟩ = false := nameB_none rfl
theorem vals_names {t : TD} (h : termB t = true) {v : ByteArray} (hv : v ∈ t.2.2) : nameB v = true := by
  have h' : (valsB t.2.2 && nameB t.2.1 && kindB t.1 t.2.2.length) = true := h
  rw [Bool.and_eq_true, Bool.and_eq_true] at h'
  have hv' := h'.1.1
  unfold valsB at hv'
  rw [decide_eq_true_eq] at hv'
  obtain ⟨i, hi, rfl⟩ := List.getElem_of_mem hv
  have := (hv' i hi).1
  rwa [ssAt_get hi] at this
theorem kindB_parts {t : TD} (h : termB t = true) : ((t.1 = 1 ∨ t.1 = 2) ∧ t.2.2.length = 1) ∨ (t.1 = 3 ∧ 1 ≤ t.2.2.length ∧ t.2.2.length ≤ 6) ∨ ((t.1 = 4 ∨ t.1 = 5) ∧ t.2.2.length = 0) := by
  have h' : (valsB t.2.2 && nameB t.2.1 && kindB t.1 t.2.2.length) = true := h
  rw [Bool.and_eq_true] at h'
  have hk := h'.2
  unfold kindB at hk
  rwa [decide_eq_true_eq] at hk
theorem amongB_empty {t : TD} (h : termB t = true) : amongB t.2.2 ⟨#[]⟩ = false := by
  rw [← Bool.not_eq_true, amongB_iff]
  intro hm
  have := vals_names h hm
  rw [empty_no] at this; cases this
/-- a value that no asked one is holds for a term just as the empty one -/
theorem holds_spare {t : TD} (h : termB t = true) {v : ByteArray} (hv : v ∉ t.2.2) : holdsB t v true = holdsB t ⟨#[]⟩ true := by
  have h1 : amongB t.2.2 v = false := by rw [← Bool.not_eq_true, amongB_iff]; exact hv
  unfold holdsB
  rw [h1, amongB_empty h]
theorem sel_alone {fs : List TD} (hl : fs.length ≤ 8) (hf : ∀ t ∈ fs, termB t = true) :
    (∃ v ∈ zeds 60 ++ fs.flatMap (fun t => t.2.2), holdAll fs v true = true) ↔ (holdAll fs ⟨#[]⟩ true = true ∨ ∃ t ∈ fs, ∃ v ∈ askOf t, holdAll fs v true = true) := by
  have h6 : ∀ t ∈ fs, t.2.2.length ≤ 6 := fun t ht => by have := kindB_parts (hf t ht); omega
  constructor
  · rintro ⟨v, hv, hh⟩
    by_cases ha : ∃ t ∈ fs, v ∈ t.2.2
    · obtain ⟨t, ht, hvt⟩ := ha
      right
      have hht := holdAll_iff.1 hh t ht
      have hm : amongB t.2.2 v = true := amongB_iff.2 hvt
      rcases kindB_parts (hf t ht) with ⟨h1 | h2, hn⟩ | ⟨h3, -, -⟩ | ⟨-, hn⟩
      · refine ⟨t, ht, v, ?_, hh⟩
        unfold askOf
        rw [if_pos h1]
        obtain ⟨i, hi, e⟩ := List.getElem_of_mem hvt
        have : i = 0 := by omega
        subst this
        rw [ssAt_get hi, e]; simp
      · exfalso
        unfold holdsB at hht
        rw [if_neg (by omega), if_pos h2, hm] at hht
        cases hht
      · refine ⟨t, ht, v, ?_, hh⟩
        unfold askOf
        rw [if_neg (by omega), if_pos h3]; exact hvt
      · have : t.2.2 = [] := List.eq_nil_of_length_eq_zero hn
        rw [this] at hvt; simp at hvt
    · left
      rw [holdAll_iff]
      intro t ht
      rw [← holds_spare (hf t ht) (fun hm => ha ⟨t, ht, hm⟩)]
      exact holdAll_iff.1 hh t ht
  · rintro (hh | ⟨t, ht, v, hv, hh⟩)
    · obtain ⟨z, hz, hn⟩ := spare (fs.flatMap fun t => t.2.2) (by have := flat_len fs h6; omega)
      refine ⟨z, List.mem_append_left _ hz, ?_⟩
      rw [holdAll_iff]
      intro t ht
      rw [holds_spare (hf t ht) (fun hm => hn (List.mem_flatMap.2 ⟨t, ht, hm⟩))]
      exact holdAll_iff.1 hh t ht
    · refine ⟨v, List.mem_append_right _ (List.mem_flatMap.2 ⟨t, ht, ?_⟩), hh⟩
      unfold askOf at hv
      split at hv
      · rename_i h1
        rcases kindB_parts (hf t ht) with ⟨-, hn⟩ | h | h
        · simp only [List.mem_singleton] at hv
          rw [hv, ssAt_get (by omega)]; exact List.getElem_mem _
        · omega
        · omega
      · split at hv
        · exact hv
        · simp at hv
theorem alone_can {ts : List TD} (hs : selB ts = true) (key : ByteArray) : aloneB ts key = !canB (about ts key) := by
  have hs' := hs
  unfold selB at hs'
  rw [decide_eq_true_eq] at hs'
  have hl : (about ts key).length ≤ 8 := Nat.le_trans (List.length_filter_le _ _) hs'.1
  have hf : ∀ t ∈ about ts key, termB t = true := fun t ht => hs'.2 t (List.mem_filter.1 ht).1
  have h := sel_alone hl hf
  generalize hfs : about ts key = fs at *
  have ha : ∀ v has, allB ts key v has = holdAll fs v has := fun v has => by rw [allB_about, hfs]
  unfold aloneB valsOf canB
  rw [hfs]
  simp only [ha]
  rw [Bool.eq_iff_iff]
  simp only [Bool.and_eq_true, Bool.not_eq_true', List.all_eq_true, Bool.or_eq_false_iff, List.any_eq_false]
  constructor
  · rintro ⟨h1, h2⟩
    have hn : ¬ ∃ v ∈ zeds 60 ++ fs.flatMap (fun t => t.2.2), holdAll fs v true = true := by
      rintro ⟨v, hv, e⟩
      have := h2 v hv
      rw [e] at this; cases this
    rw [h] at hn
    refine ⟨⟨h1, ?_⟩, ?_⟩
    · cases e : holdAll fs ⟨#[]⟩ true
      · rfl
      · exact absurd (.inl e) hn
    · intro t ht
      rw [Bool.not_eq_true, List.any_eq_false]
      intro v hv e
      exact hn (.inr ⟨t, ht, v, hv, e⟩)
  · rintro ⟨⟨h1, h2⟩, h3⟩
    refine ⟨h1, fun v hv => ?_⟩
    cases e : holdAll fs v true
    · rfl
    · exfalso
      rcases h.1 ⟨v, hv, e⟩ with h4 | ⟨t, ht, u, hu, h4⟩
      · rw [h4] at h2; cases h2
      · have := h3 t ht
        rw [Bool.not_eq_true, List.any_eq_false] at this
        exact this u hu h4
end Go.Proofs.Ytbadjopaocindaa
