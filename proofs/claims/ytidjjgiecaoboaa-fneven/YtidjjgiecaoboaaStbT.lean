/- A stable sort that merges in place: plain arrays. -/
import Derived.Sort.LotA
namespace Go.Proofs.Ytidjjgiecaoboaa
open Go.Sort
set_option linter.unusedVariables false
/-- less, or alike and earlier -/
def stT {α : Type} (lt : α → α → Bool) (pos : α → Nat) (x y : α) : Bool := lt x y || (!lt y x && decide (pos x < pos y))
theorem stT_iff {α : Type} {lt : α → α → Bool} {pos : α → Nat} {x y : α} : stT lt pos x y = true ↔ lt x y = true ∨ (lt y x = false ∧ pos x < pos y) := by
  unfold stT; simp
theorem stT_not {α : Type} {lt : α → α → Bool} {pos : α → Nat} {x y : α} : stT lt pos x y = false ↔ lt x y = false ∧ (lt y x = true ∨ pos y ≤ pos x) := by
  unfold stT
  cases lt x y <;> cases lt y x <;> simp
theorem stT_late {α : Type} {lt : α → α → Bool} {pos : α → Nat} {x y : α} (h : pos y < pos x) : stT lt pos x y = lt x y := by
  unfold stT; rw [decide_eq_false (by omega)]; simp
theorem stT_swo {α : Type} {lt : α → α → Bool} {pos : α → Nat} (h : SWO lt) : SWO (stT lt pos) where
  irrefl x := by rw [stT_not]; exact ⟨h.irrefl x, .inr (Nat.le_refl _)⟩
  trans x y z h1 h2 := by
    rw [stT_iff] at *
    rcases h1 with h1 | ⟨h1, p1⟩ <;> rcases h2 with h2 | ⟨h2, p2⟩
    · exact .inl (h.trans _ _ _ h1 h2)
    · left
      cases e : lt x z
      · have := h.ntrans _ _ _ e h2; rw [h1] at this; cases this
      · rfl
    · left
      cases e : lt x z
      · have := h.ntrans _ _ _ h1 e; rw [h2] at this; cases this
      · rfl
    · exact .inr ⟨h.ntrans _ _ _ h2 h1, by omega⟩
  ntrans x y z h1 h2 := by
    rw [stT_not] at *
    obtain ⟨h1, p1⟩ := h1
    obtain ⟨h2, p2⟩ := h2
    refine ⟨h.ntrans _ _ _ h1 h2, ?_⟩
    cases e : lt z x
    · right
      have q1 : pos y ≤ pos x := by
        rcases p1 with p1 | p1
        · have := h.ntrans _ _ _ h2 e; rw [p1] at this; cases this
        · exact p1
      have q2 : pos z ≤ pos y := by
        rcases p2 with p2 | p2
        · have := h.ntrans _ _ _ e h1; rw [p2] at this; cases this
        · exact p2
      omega
    · exact .inl rfl

section
variable {α : Type} [Inhabited α]

/-- two parts, each sorted, all of the first earlier -/
def Mrg (T : α → α → Bool) (pos : α → Nat) (a m b : Nat) (d : Array α) : Prop :=
  SortedIn T a m d ∧ SortedIn T m b d ∧ ∀ i j, a ≤ i → i < m → m ≤ j → j < b → pos d[i]! < pos d[j]!
theorem Mrg.congr {T : α → α → Bool} {pos : α → Nat} {a m b : Nat} {d d' : Array α} (h : Mrg T pos a m b d) (he : ∀ i, a ≤ i → i < b → d'[i]! = d[i]!) (ham : a ≤ m) (hmb : m ≤ b) : Mrg T pos a m b d' := by
  refine ⟨fun i j h1 h2 h3 => ?_, fun i j h1 h2 h3 => ?_, fun i j h1 h2 h3 h4 => ?_⟩
  · rw [he i (by omega) (by omega), he j (by omega) (by omega)]; exact h.1 i j h1 h2 h3
  · rw [he i (by omega) (by omega), he j (by omega) (by omega)]; exact h.2.1 i j h1 h2 h3
  · rw [he i (by omega) (by omega), he j (by omega) (by omega)]; exact h.2.2 i j h1 h2 h3 h4
/-- d' is d with s .. m and m .. e in each other's place -/
structure RotP (d : Array α) (s m e : Nat) (d' : Array α) : Prop where
  perm : PermIn s e d d'
  fst : ∀ k, k < e - m → d'[s + k]! = d[m + k]!
  snd : ∀ k, k < m - s → d'[s + (e - m) + k]! = d[s + k]!
theorem RotP.none {d : Array α} {s m e : Nat} (h : s = m ∨ m = e) (h1 : s ≤ m) (h2 : m ≤ e) : RotP d s m e d := by
  refine ⟨permIn_refl _ _ _, fun k hk => ?_, fun k hk => ?_⟩
  · rw [show s + k = m + k by omega]
  · rw [show s + (e - m) + k = s + k by omega]
theorem RotP.lo {d d' : Array α} {s m e : Nat} (h : RotP d s m e d') {i : Nat} (hi : i < s) : d'[i]! = d[i]! := h.perm.2.1 i (.inl hi)
theorem RotP.hi {d d' : Array α} {s m e : Nat} (h : RotP d s m e d') {i : Nat} (hi : e ≤ i) : d'[i]! = d[i]! := h.perm.2.1 i (.inr hi)
theorem RotP.one {d d' : Array α} {s m e : Nat} (h : RotP d s m e d') {i : Nat} (h1 : s ≤ i) (h2 : i < s + (e - m)) : d'[i]! = d[i - s + m]! := by
  have := h.fst (i - s) (by omega)
  rw [show s + (i - s) = i by omega, Nat.add_comm] at this
  exact this
theorem RotP.two {d d' : Array α} {s m e : Nat} (h : RotP d s m e d') {i : Nat} (h1 : s + (e - m) ≤ i) (h2 : i < e) (hs : s ≤ m) : d'[i]! = d[i - (e - m)]! := by
  have := h.snd (i - (s + (e - m))) (by omega)
  rw [show s + (e - m) + (i - (s + (e - m))) = i by omega, show s + (i - (s + (e - m))) = i - (e - m) by omega] at this
  exact this
theorem RotP.split {T : α → α → Bool} {pos : α → Nat} (hS : SWO T) {a s m e b : Nat} {d d1 : Array α} (hp : Mrg T pos a m b d) (ha : a ≤ s) (hs : s ≤ m) (hm : m ≤ e) (he : e ≤ b)
    (c1 : a < s → e < b → T d[e]! d[s - 1]! = false) (c2 : s < m → m < e → T d[e - 1]! d[s]! = true) (hr : RotP d s m e d1) :
    Mrg T pos a s (s + (e - m)) d1 ∧ Mrg T pos (s + (e - m)) e b d1 ∧ ∀ i j, a ≤ i → i < s + (e - m) → s + (e - m) ≤ j → j < b → T d1[j]! d1[i]! = false := by
  obtain ⟨p1, p2, p3⟩ := hp
  have l1 : ∀ i j, a ≤ i → i ≤ j → j < m → T d[j]! d[i]! = false := fun i j h1 h2 h3 => by
    by_cases e : i = j
    · subst e; exact hS.irrefl _
    · exact p1 i j h1 (by omega) h3
  have l2 : ∀ i j, m ≤ i → i ≤ j → j < b → T d[j]! d[i]! = false := fun i j h1 h2 h3 => by
    by_cases e : i = j
    · subst e; exact hS.irrefl _
    · exact p2 i j h1 (by omega) h3
  have hAD : ∀ i j, a ≤ i → i < s → e ≤ j → j < b → T d[j]! d[i]! = false := fun i j h1 h2 h3 h4 =>
    hS.ntrans _ _ _ (hS.ntrans _ _ _ (l2 e j (by omega) (by omega) h4) (c1 (by omega) (by omega))) (l1 i (s - 1) h1 (by omega) (by omega))
  have hCB : ∀ i j, m ≤ i → i < e → s ≤ j → j < m → T d[j]! d[i]! = false := fun i j h1 h2 h3 h4 =>
    hS.ntrans _ _ _ (hS.ntrans _ _ _ (l1 s j (by omega) (by omega) h4) (SWO.asymmA hS (c2 (by omega) (by omega)))) (l2 i (e - 1) h1 (by omega) (by omega))
  refine ⟨⟨fun i j h1 h2 h3 => ?_, fun i j h1 h2 h3 => ?_, fun i j h1 h2 h3 h4 => ?_⟩, ⟨fun i j h1 h2 h3 => ?_, fun i j h1 h2 h3 => ?_, fun i j h1 h2 h3 h4 => ?_⟩, fun i j h1 h2 h3 h4 => ?_⟩
  · rw [hr.lo (i := i) (by omega), hr.lo (i := j) (by omega)]; exact l1 _ _ h1 (by omega) (by omega)
  · rw [hr.one (i := i) (by omega) (by omega), hr.one (i := j) (by omega) (by omega)]; exact l2 _ _ (by omega) (by omega) (by omega)
  · rw [hr.lo (i := i) (by omega), hr.one (i := j) (by omega) (by omega)]; exact p3 _ _ h1 (by omega) (by omega) (by omega)
  · rw [hr.two (i := i) (by omega) (by omega) hs, hr.two (i := j) (by omega) (by omega) hs]; exact l1 _ _ (by omega) (by omega) (by omega)
  · rw [hr.hi (i := i) (by omega), hr.hi (i := j) (by omega)]; exact l2 _ _ (by omega) (by omega) (by omega)
  · rw [hr.two (i := i) (by omega) (by omega) hs, hr.hi (i := j) (by omega)]; exact p3 _ _ (by omega) (by omega) (by omega) (by omega)
  · by_cases hi : i < s <;> by_cases hj : j < e
    · rw [hr.lo hi, hr.two (i := j) h3 hj hs]; exact l1 _ _ h1 (by omega) (by omega)
    · rw [hr.lo hi, hr.hi (i := j) (by omega)]; exact hAD _ _ h1 hi (by omega) h4
    · rw [hr.one (i := i) (by omega) h2, hr.two (i := j) h3 hj hs]; exact hCB _ _ (by omega) (by omega) (by omega) (by omega)
    · rw [hr.one (i := i) (by omega) h2, hr.hi (i := j) (by omega)]; exact l2 _ _ (by omega) (by omega) (by omega)
theorem sorted_join {T : α → α → Bool} {a mid b : Nat} {d : Array α} (h1 : SortedIn T a mid d) (h2 : SortedIn T mid b d) (h3 : ∀ i j, a ≤ i → i < mid → mid ≤ j → j < b → T d[j]! d[i]! = false) : SortedIn T a b d := fun i j g1 g2 g3 => by
  by_cases hj : j < mid
  · exact h1 i j g1 g2 hj
  · by_cases hi : i < mid
    · exact h3 i j g1 hi (by omega) g3
    · exact h2 i j (by omega) g2 g3
theorem merge_join {T : α → α → Bool} {a mid b : Nat} {d d1 d2 d3 : Array α} (hab : PermIn a b d d1) (ha : a ≤ mid) (hmb : mid ≤ b) (hb : b ≤ d.size) (h2 : PermIn a mid d1 d2) (s2 : SortedIn T a mid d2) (h3 : PermIn mid b d2 d3) (s3 : SortedIn T mid b d3)
    (hc : ∀ i j, a ≤ i → i < mid → mid ≤ j → j < b → T d1[j]! d1[i]! = false) : PermIn a b d d3 ∧ SortedIn T a b d3 := by
  have e1 : d1.size = d.size := hab.1
  have e2 : d2.size = d.size := h2.1.trans e1
  refine ⟨permIn_trans _ _ _ _ _ hab (permIn_trans _ _ _ _ _ (permIn_mono _ _ _ _ _ _ (Nat.le_refl _) hmb (by omega) h2) (permIn_mono _ _ _ _ _ _ ha (Nat.le_refl _) (by omega) h3)), ?_⟩
  refine sorted_join (mid := mid) (fun i j g1 g2 g3 => by rw [h3.2.1 i (.inl (by omega)), h3.2.1 j (.inl (by omega))]; exact s2 i j g1 g2 g3) s3 (fun i j g1 g2 g3 g4 => ?_)
  rw [h3.2.1 i (.inl g2)]
  refine permIn_all d2 d3 mid b (fun x => T x d2[i]! = false) (by omega) h3 (fun k q1 q2 => ?_) j g3 g4
  rw [h2.2.1 k (.inr q1)]
  exact permIn_all d1 d2 a mid (fun x => T d1[k]! x = false) (by omega) h2 (fun l r1 r2 => hc l k r1 r2 q1 q2) i g1 g2
/-- one is put in among those behind it -/
theorem RotP.up {d dk : Array α} {a k : Nat} (h : RotP d a (a + 1) (k + 1) dk) (ha : a ≤ k) (hk : k + 1 < d.size) : RotP d a (a + 1) (k + 2) (swp dk k (k + 1)) := by
  have hs : dk.size = d.size := h.perm.1
  refine ⟨permIn_trans _ _ _ _ _ (permIn_mono _ _ _ _ _ _ (Nat.le_refl _) (by omega) (by omega) h.perm) (swp_permIn _ _ _ _ _ (by omega) (by omega) (by omega) (by omega) (by omega)), fun q hq => ?_, fun q hq => ?_⟩
  · by_cases e : a + q = k
    · rw [e, swp_left _ _ _ (by omega) (by omega), h.hi (by omega)]
      congr 1; omega
    · rw [swp_other _ _ _ _ e (by omega)]
      exact h.fst q (by omega)
  · have e : q = 0 := by omega
    subst e
    have := h.snd 0 (by omega)
    rw [show a + (k + 1 - (a + 1)) + 0 = k by omega] at this
    rw [show a + (k + 2 - (a + 1)) + 0 = k + 1 by omega, swp_right _ _ _ (by omega)]
    exact this
/-- one is put in among those ahead of it -/
theorem RotP.down {d dk : Array α} {m k : Nat} (h : RotP d (k + 1) m (m + 1) dk) (hk : k + 1 ≤ m) (hm : m < d.size) : RotP d k m (m + 1) (swp dk (k + 1) k) := by
  have hs : dk.size = d.size := h.perm.1
  refine ⟨permIn_trans _ _ _ _ _ (permIn_mono _ _ _ _ _ _ (by omega) (Nat.le_refl _) (by omega) h.perm) (swp_permIn _ _ _ _ _ (by omega) (by omega) (by omega) (by omega) (by omega)), fun q hq => ?_, fun q hq => ?_⟩
  · have e : q = 0 := by omega
    subst e
    have := h.fst 0 (by omega)
    simp only [Nat.add_zero] at this ⊢
    rw [swp_right _ _ _ (by omega)]
    exact this
  · by_cases e : q = 0
    · subst e
      rw [show k + (m + 1 - m) + 0 = k + 1 by omega, Nat.add_zero, swp_left _ _ _ (by omega) (by omega)]
      exact h.lo (by omega)
    · rw [swp_other _ _ _ _ (by omega) (by omega)]
      have := h.snd (q - 1) (by omega)
      rw [show k + 1 + (m + 1 - m) + (q - 1) = k + (m + 1 - m) + q by omega, show k + 1 + (q - 1) = k + q by omega] at this
      exact this
/-- two rows of n in each other's place -/
structure SwR (d : Array α) (a b n : Nat) (d' : Array α) : Prop where
  perm : PermIn a (b + n) d d'
  fst : ∀ k, k < n → d'[a + k]! = d[b + k]!
  snd : ∀ k, k < n → d'[b + k]! = d[a + k]!
  oth : ∀ i, (i < a ∨ a + n ≤ i) → (i < b ∨ b + n ≤ i) → d'[i]! = d[i]!
theorem SwR.zero (d : Array α) (a b : Nat) : SwR d a b 0 d := ⟨permIn_refl _ _ _, fun k h => by omega, fun k h => by omega, fun i _ _ => rfl⟩
theorem SwR.succ {d dk : Array α} {a b n : Nat} (h : SwR d a b n dk) (hab : a + n < b) (hb : b + n < d.size) : SwR d a b (n + 1) (swp dk (a + n) (b + n)) := by
  have hs : dk.size = d.size := h.perm.1
  refine ⟨permIn_trans _ _ _ _ _ (permIn_mono _ _ _ _ _ _ (Nat.le_refl _) (by omega) (by omega) h.perm) (swp_permIn _ _ _ _ _ (by omega) (by omega) (by omega) (by omega) (by omega)), fun k hk => ?_, fun k hk => ?_, fun i h1 h2 => ?_⟩
  · by_cases e : k = n
    · subst e; rw [swp_left _ _ _ (by omega) (by omega)]; exact h.oth _ (by omega) (by omega)
    · rw [swp_other _ _ _ _ (by omega) (by omega)]; exact h.fst k (by omega)
  · by_cases e : k = n
    · subst e; rw [swp_right _ _ _ (by omega)]; exact h.oth _ (by omega) (by omega)
    · rw [swp_other _ _ _ _ (by omega) (by omega)]; exact h.snd k (by omega)
  · rw [swp_other _ _ _ _ (by omega) (by omega)]; exact h.oth i (by omega) (by omega)
theorem rot_gt {d d2 d' : Array α} {m i j : Nat} (hij : j < i) (him : i ≤ m) (hs : m + j ≤ d.size) (h : SwR d (m - i) m j d2) (hr : RotP d2 (m - (i - j)) m (m + j) d') : RotP d (m - i) m (m + j) d' := by
  have e2 : d2.size = d.size := h.perm.1
  refine ⟨permIn_trans _ _ _ _ _ h.perm (permIn_mono _ _ _ _ _ _ (by omega) (Nat.le_refl _) (by omega) hr.perm), fun k hk => ?_, fun k hk => ?_⟩
  · rw [hr.lo (by omega)]; exact h.fst k (by omega)
  · by_cases e : k < j
    · have h1 := hr.fst k (by omega)
      rw [h.snd k e] at h1
      rw [show m - i + (m + j - m) + k = m - (i - j) + k by omega]; exact h1
    · have h1 := hr.snd (k - j) (by omega)
      rw [h.oth (m - (i - j) + (k - j)) (by omega) (by omega)] at h1
      rw [show m - i + (m + j - m) + k = m - (i - j) + (m + j - m) + (k - j) by omega, show m - i + k = m - (i - j) + (k - j) by omega]; exact h1
theorem rot_lt {d d2 d' : Array α} {m i j : Nat} (hij : i < j) (him : i ≤ m) (hs : m + j ≤ d.size) (h : SwR d (m - i) (m + j - i) i d2) (hr : RotP d2 (m - i) m (m + (j - i)) d') : RotP d (m - i) m (m + j) d' := by
  have e2 : d2.size = d.size := h.perm.1
  have hp := h.perm
  rw [show m + j - i + i = m + j by omega] at hp
  refine ⟨permIn_trans _ _ _ _ _ hp (permIn_mono _ _ _ _ _ _ (Nat.le_refl _) (by omega) (by omega) hr.perm), fun k hk => ?_, fun k hk => ?_⟩
  · by_cases e : k < j - i
    · have h1 := hr.fst k (by omega)
      rw [h.oth (m + k) (by omega) (by omega)] at h1
      exact h1
    · have h1 := hr.snd (k - (j - i)) (by omega)
      rw [h.fst (k - (j - i)) (by omega)] at h1
      rw [show m - i + k = m - i + (m + (j - i) - m) + (k - (j - i)) by omega, show m + k = m + j - i + (k - (j - i)) by omega]; exact h1
  · have h1 := h.snd k (by omega)
    rw [show m - i + (m + j - m) + k = m + j - i + k by omega, hr.hi (by omega)]; exact h1
theorem rot_eq {d d2 : Array α} {m i : Nat} (him : i ≤ m) (h : SwR d (m - i) m i d2) : RotP d (m - i) m (m + i) d2 :=
  ⟨h.perm, fun k hk => h.fst k (by omega), fun k hk => by rw [show m - i + (m + i - m) + k = m + k by omega]; exact h.snd k (by omega)⟩

/-- the first alone is put in its place -/
theorem merge_left {T : α → α → Bool} {pos : α → Nat} (hS : SWO T) {a i b : Nat} {d d1 : Array α} (hp : Mrg T pos a (a + 1) b d) (h1 : a + 1 ≤ i) (h2 : i ≤ b) (hb : b ≤ d.size) (c1 : i = a + 1 ∨ T d[i - 1]! d[a]! = true) (c2 : i = b ∨ T d[i]! d[a]! = false) (hr : RotP d a (a + 1) i d1) : PermIn a b d d1 ∧ SortedIn T a b d1 := by
  obtain ⟨g1, g2, g3⟩ := hr.split hS hp (Nat.le_refl _) (by omega) h1 h2 (fun h => by omega) (fun _ h => c1.elim (fun e => by omega) id)
  refine ⟨permIn_mono _ _ _ _ _ _ (Nat.le_refl _) h2 hb hr.perm, sorted_join g1.2.1 (fun x y q1 q2 q3 => ?_) g3⟩
  by_cases hx : x < i
  · rw [hr.two (i := x) q1 hx (by omega), hr.hi (i := y) (by omega), show x - (i - (a + 1)) = a by omega]
    rcases c2 with c2 | c2
    · omega
    · by_cases e : y = i
      · subst e; exact c2
      · exact hS.ntrans _ _ _ (hp.2.1 i y h1 (by omega) q3) c2
  · rw [hr.hi (i := x) (by omega), hr.hi (i := y) (by omega)]
    exact hp.2.1 x y (by omega) q2 q3
/-- the last alone is put in its place -/
theorem merge_right {T : α → α → Bool} {pos : α → Nat} (hS : SWO T) {a i m : Nat} {d d1 : Array α} (hp : Mrg T pos a m (m + 1) d) (h1 : a ≤ i) (h2 : i ≤ m) (hb : m + 1 ≤ d.size) (c1 : i = a ∨ T d[m]! d[i - 1]! = false) (c2 : i = m ∨ T d[m]! d[i]! = true) (hr : RotP d i m (m + 1) d1) : PermIn a (m + 1) d d1 ∧ SortedIn T a (m + 1) d1 := by
  obtain ⟨g1, g2, g3⟩ := hr.split hS hp h1 h2 (by omega) (Nat.le_refl _) (fun _ h => by omega) (fun h _ => c2.elim (fun e => by omega) id)
  refine ⟨permIn_mono _ _ _ _ _ _ h1 (Nat.le_refl _) hb hr.perm, sorted_join (fun x y q1 q2 q3 => ?_) g2.1 g3⟩
  by_cases hy : y < i
  · rw [hr.lo hy, hr.lo (i := x) (by omega)]
    exact hp.1 x y q1 q2 (by omega)
  · rw [hr.lo (i := x) (by omega), hr.one (i := y) (by omega) q3, show y - i + m = m by omega]
    rcases c1 with c1 | c1
    · omega
    · by_cases e : x = i - 1
      · subst e; exact c1
      · exact hS.ntrans _ _ _ c1 (hp.1 x (i - 1) q1 (by omega) (by omega))

theorem Mrg.flat {T : α → α → Bool} {pos : α → Nat} {a m b : Nat} {d : Array α} (h : Mrg T pos a m b d) (he : a = m ∨ m = b) : PermIn a b d d ∧ SortedIn T a b d := by
  refine ⟨permIn_refl _ _ _, ?_⟩
  rcases he with rfl | rfl
  · exact h.2.1
  · exact h.1
/-- the two halves, each merged by itself -/
theorem merge_tail {T : α → α → Bool} {pos : α → Nat} (hS : SWO T) {a s m e b M : Nat} {d : Array α} (hp : Mrg T pos a m b d) (ha : a ≤ s) (hs : s ≤ m) (hm : m ≤ e) (he : e ≤ b) (hb : b ≤ d.size) (hM : M = s + (e - m))
    (c1 : a < s → e < b → T d[e]! d[s - 1]! = false) (c2 : s < m → m < e → T d[e - 1]! d[s]! = true) :
    (∀ d1, RotP d s m e d1 → Mrg T pos a s M d1) ∧ (∀ d1 d2, RotP d s m e d1 → PermIn a M d1 d2 → Mrg T pos M e b d2) ∧
    ∀ d1 d2 d3, RotP d s m e d1 → PermIn a M d1 d2 ∧ SortedIn T a M d2 → PermIn M b d2 d3 ∧ SortedIn T M b d3 → PermIn a b d d3 ∧ SortedIn T a b d3 := by
  subst hM
  refine ⟨fun d1 hr => (hr.split hS hp ha hs hm he c1 c2).1, fun d1 d2 hr h2 => ?_, fun d1 d2 d3 hr h2 h3 => ?_⟩
  · exact (hr.split hS hp ha hs hm he c1 c2).2.1.congr (fun i h1 _ => h2.2.1 i (.inr h1)) (by omega) he
  · have hab := permIn_mono _ _ _ _ a b ha he hb hr.perm
    exact merge_join hab (by omega) (by omega) hb h2.1 h2.2 h3.1 h3.2 (hr.split hS hp ha hs hm he c1 c2).2.2

/-! the insertion sort is stable -/
theorem insInner_perm {T : α → α → Bool} {a : Nat} : ∀ (j : Nat) (d : Array α), a ≤ j → j < d.size → PermIn a (j + 1) d (insInner T a j d)
  | 0, d, _, _ => permIn_refl _ _ _
  | j + 1, d, ha, hj => by
    unfold insInner
    split
    · rename_i hc
      have hg : a ≤ j := by simp at hc; omega
      exact permIn_trans _ _ _ _ _ (swp_permIn d a (j + 1 + 1) (j + 1) j (by omega) (by omega) (by omega) (by omega) (by omega)) (permIn_mono _ _ _ _ _ _ (Nat.le_refl _) (by omega) (by rw [size_swp]; omega) (insInner_perm j _ hg (by rw [size_swp]; omega)))
    · exact permIn_refl _ _ _
theorem insInner_congr {lt T : α → α → Bool} {a : Nat} : ∀ (j : Nat) (d : Array α), j < d.size → (∀ k, a ≤ k → k < j → T d[j]! d[k]! = lt d[j]! d[k]!) → insInner lt a j d = insInner T a j d
  | 0, d, _, _ => rfl
  | j + 1, d, hj, h => by
    unfold insInner
    by_cases hg : j + 1 > a
    · rw [h j (by omega) (by omega)]
      split
      · refine insInner_congr j _ (by rw [size_swp]; omega) (fun k h1 h2 => ?_)
        rw [swp_right _ _ _ (by omega), swp_other _ _ _ _ (by omega) (by omega)]
        exact h k h1 (by omega)
      · rfl
    · simp [hg]
/-- each is later than those ahead of it -/
def AscP (pos : α → Nat) (a b : Nat) (d : Array α) : Prop := ∀ x y, a ≤ x → x < y → y < b → pos d[x]! < pos d[y]!
theorem insOuter_congr {lt : α → α → Bool} {pos : α → Nat} {a b : Nat} : ∀ (f i : Nat) (d : Array α), b - i ≤ f → a ≤ i → b ≤ d.size → (∀ x y, a ≤ x → x < y → y < b → i ≤ y → pos d[x]! < pos d[y]!) → insOuter lt a b i d = insOuter (stT lt pos) a b i d
  | f, i, d, hf, ha, hb, h => by
    unfold insOuter
    by_cases hi : i < b
    · rw [if_pos hi, if_pos hi]
      cases f with
      | zero => omega
      | succ f =>
        have e : insInner lt a i d = insInner (stT lt pos) a i d := insInner_congr i d (by omega) (fun k h1 h2 => stT_late (h k i h1 h2 hi (Nat.le_refl _)))
        rw [e]
        have hp := insInner_perm (T := stT lt pos) i d ha (by omega)
        refine insOuter_congr f (i + 1) _ (by omega) (by omega) (by rw [hp.1]; exact hb) (fun x y h1 h2 h3 h4 => ?_)
        rw [hp.2.1 y (.inr (by omega))]
        by_cases hx : x < i + 1
        · exact permIn_all d _ a (i + 1) (fun v => pos v < pos d[y]!) (by omega) hp (fun k q1 q2 => h k y q1 (by omega) h3 (by omega)) x h1 hx
        · rw [hp.2.1 x (.inr (by omega))]
          exact h x y h1 h2 h3 (by omega)
    · rw [if_neg hi, if_neg hi]
theorem ins_stable {lt : α → α → Bool} {pos : α → Nat} (hS : SWO lt) {a b : Nat} {d : Array α} (hab : a ≤ b) (hb : b ≤ d.size) (h : AscP pos a b d) : PermIn a b d (insertionSort lt d a b) ∧ SortedIn (stT lt pos) a b (insertionSort lt d a b) := by
  have e : insertionSort lt d a b = insertionSort (stT lt pos) d a b := insOuter_congr b (a + 1) d (by omega) (by omega) hb (fun x y h1 h2 h3 _ => h x y h1 h2 h3)
  rw [e]
  exact insertionSort_holds (stT_swo hS) d a b hab hb

/-! blocks -/
/-- all ahead of c are earlier than those from c on -/
def CrossP (pos : α → Nat) (n c : Nat) (d : Array α) : Prop := ∀ i j, i < c → c ≤ j → j < n → pos d[i]! < pos d[j]!
theorem CrossP.perm {pos : α → Nat} {n c a b : Nat} {d d' : Array α} (h : CrossP pos n c d) (hp : PermIn a b d d') (hc : c ≤ a ∨ b ≤ c) (hb : b ≤ n) (hn : n ≤ d.size) (hab : a ≤ b) : CrossP pos n c d' := by
  have key : ∀ i j, i < c → c ≤ j → j < n → pos d[i]! < pos d'[j]! := fun i j h1 h2 h3 => by
    by_cases hj : a ≤ j ∧ j < b
    · exact permIn_all d d' a b (fun v => pos d[i]! < pos v) (by omega) hp (fun k q1 q2 => h i k h1 (by omega) (by omega)) j hj.1 hj.2
    · rw [hp.2.1 j (by omega)]; exact h i j h1 h2 h3
  intro i j h1 h2 h3
  by_cases hi : a ≤ i ∧ i < b
  · exact permIn_all d d' a b (fun v => pos v < pos d'[j]!) (by omega) hp (fun k q1 q2 => key k j (by omega) h2 h3) i hi.1 hi.2
  · rw [hp.2.1 i (by omega)]; exact key i j h1 h2 h3
theorem SortedIn.keep {T : α → α → Bool} {a b x y : Nat} {d d' : Array α} (h : SortedIn T x y d) (hp : PermIn a b d d') (hd : y ≤ a ∨ b ≤ x) : SortedIn T x y d' := fun i j h1 h2 h3 => by
  rw [hp.2.1 i (by omega), hp.2.1 j (by omega)]; exact h i j h1 h2 h3
theorem SortedIn.shrink {T : α → α → Bool} {x y x' y' : Nat} {d : Array α} (h : SortedIn T x y d) (h1 : x ≤ x') (h2 : y' ≤ y) : SortedIn T x' y' d := fun i j g1 g2 g3 => h i j (by omega) g2 (by omega)
/-- the first loop: q blocks of 20 are sorted -/
structure BlkA (T : α → α → Bool) (pos : α → Nat) (d0 : Array α) (q : Nat) (d : Array α) : Prop where
  perm : PermIn 0 d0.size d0 d
  srt : ∀ r, r < q → SortedIn T (r * 20) (r * 20 + 20) d
  crs : ∀ r, CrossP pos d0.size (r * 20) d
  asc : AscP pos (q * 20) d0.size d
theorem BlkA.zero {T : α → α → Bool} {pos : α → Nat} {d0 : Array α} (h : AscP pos 0 d0.size d0) : BlkA T pos d0 0 d0 :=
  ⟨permIn_refl _ _ _, fun r hr => by omega, fun r i j h1 h2 h3 => h i j (Nat.zero_le _) (by omega) h3, by rw [Nat.zero_mul]; exact h⟩
theorem BlkA.succ {lt : α → α → Bool} {pos : α → Nat} (hS : SWO lt) {d0 d : Array α} {q : Nat} (h : BlkA (stT lt pos) pos d0 q d) (hb : q * 20 + 20 ≤ d0.size) : BlkA (stT lt pos) pos d0 (q + 1) (insertionSort lt d (q * 20) (q * 20 + 20)) := by
  have hs : d.size = d0.size := h.perm.1
  obtain ⟨h1, h2⟩ := ins_stable hS (a := q * 20) (b := q * 20 + 20) (d := d) (by omega) (by omega) (fun x y g1 g2 g3 => h.asc x y g1 g2 (by omega))
  refine ⟨permIn_trans _ _ _ _ _ h.perm (permIn_mono _ _ _ _ _ _ (Nat.zero_le _) hb (by omega) h1), fun r hr => ?_, fun r => (h.crs r).perm h1 (by omega) hb (by omega) (by omega), fun x y g1 g2 g3 => ?_⟩
  · by_cases e : r = q
    · subst e; exact h2
    · exact SortedIn.keep (h.srt r (by omega)) h1 (by omega)
  · rw [h1.2.1 x (by omega), h1.2.1 y (by omega)]; exact h.asc x y (by omega) g2 g3
/-- blocks of s are sorted, the first ones (up to a) of twice that -/
structure BlkB (T : α → α → Bool) (pos : α → Nat) (d0 : Array α) (s q : Nat) (d : Array α) : Prop where
  perm : PermIn 0 d0.size d0 d
  two : ∀ r, r < q → SortedIn T (r * (2 * s)) (min (r * (2 * s) + 2 * s) d0.size) d
  one : ∀ r, 2 * q ≤ r → SortedIn T (r * s) (min (r * s + s) d0.size) d
  crs2 : ∀ r, CrossP pos d0.size (r * (2 * s)) d
  crs1 : ∀ r, 2 * q ≤ r → CrossP pos d0.size (r * s) d
theorem BlkA.done {lt : α → α → Bool} {pos : α → Nat} (hS : SWO lt) {d0 d : Array α} {q : Nat} (h : BlkA (stT lt pos) pos d0 q d) (hq : q * 20 ≤ d0.size) (hb : d0.size < q * 20 + 20) : BlkB (stT lt pos) pos d0 20 0 (insertionSort lt d (q * 20) d0.size) := by
  have hs : d.size = d0.size := h.perm.1
  obtain ⟨h1, h2⟩ := ins_stable hS (a := q * 20) (b := d0.size) (d := d) hq (by omega) (fun x y g1 g2 g3 => h.asc x y g1 g2 (by omega))
  have hc : ∀ r, CrossP pos d0.size (r * 20) (insertionSort lt d (q * 20) d0.size) := fun r => by
    by_cases e : r * 20 ≤ d0.size
    · exact (h.crs r).perm h1 (by omega) (Nat.le_refl _) (by omega) hq
    · exact fun i j g1 g2 g3 => by omega
  refine ⟨permIn_trans _ _ _ _ _ h.perm (permIn_mono _ _ _ _ _ _ (Nat.zero_le _) (Nat.le_refl _) (by omega) h1), fun r hr => by omega, fun r _ => ?_, fun r => ?_, fun r _ => hc r⟩
  · by_cases e : r < q
    · exact SortedIn.keep (SortedIn.shrink (h.srt r e) (Nat.le_refl _) (by omega)) h1 (by omega)
    · by_cases e2 : r = q
      · subst e2; exact SortedIn.shrink h2 (Nat.le_refl _) (by omega)
      · exact fun i j g1 g2 g3 => by omega
  · have := hc (2 * r)
    rw [show 2 * r * 20 = r * (2 * 20) by omega] at this
    exact this
theorem mul2 (q s : Nat) : q * (2 * s) = 2 * q * s := by rw [← Nat.mul_assoc, Nat.mul_comm q 2]
theorem mul21 (q s : Nat) : (2 * q + 1) * s = 2 * q * s + s := Nat.succ_mul _ _
theorem BlkB.mrg {T : α → α → Bool} {pos : α → Nat} {d0 d : Array α} {s q b : Nat} (h : BlkB T pos d0 s q d) (hb : b ≤ q * (2 * s) + 2 * s) (hb2 : b ≤ d0.size) (hm : q * (2 * s) + s < b) (h0 : 0 < s) : Mrg T pos (q * (2 * s)) (q * (2 * s) + s) b d := by
  have e1 := mul2 q s
  have e2 := mul21 q s
  have h1 := h.one (2 * q) (Nat.le_refl _)
  have h2 := h.one (2 * q + 1) (by omega)
  have h3 := h.crs1 (2 * q + 1) (by omega)
  rw [e2, ← e1] at h2 h3
  rw [← e1] at h1
  exact ⟨SortedIn.shrink h1 (Nat.le_refl _) (by omega), SortedIn.shrink h2 (Nat.le_refl _) (by omega), fun i j g1 g2 g3 g4 => h3 i j g2 g3 (by omega)⟩
theorem mul_step (r q t : Nat) (h : r < q) : r * t + t ≤ q * t := by
  have := Nat.mul_le_mul_right t (show r + 1 ≤ q from h)
  rwa [Nat.succ_mul] at this
theorem BlkB.succ {T : α → α → Bool} {pos : α → Nat} {d0 d d' : Array α} {s q b : Nat} (h : BlkB T pos d0 s q d) (hb : b = min (q * (2 * s) + 2 * s) d0.size) (hm : q * (2 * s) ≤ b) (h0 : 0 < s) (hp : PermIn (q * (2 * s)) b d d') (hs : SortedIn T (q * (2 * s)) b d') : BlkB T pos d0 s (q + 1) d' := by
  have hsz : d.size = d0.size := h.perm.1
  have hbn : b ≤ d0.size := by omega
  refine ⟨permIn_trans _ _ _ _ _ h.perm (permIn_mono _ _ _ _ _ _ (Nat.zero_le _) hbn (by omega) hp), fun r hr => ?_, fun r hr => ?_, fun r => ?_, fun r hr => ?_⟩
  · by_cases e : r = q
    · subst e; rw [← hb]; exact hs
    · have := mul_step r q (2 * s) (by omega)
      exact SortedIn.keep (h.two r (by omega)) hp (.inl (by omega))
  · have e1 := mul2 (q + 1) s
    have e3 : (q + 1) * (2 * s) = q * (2 * s) + 2 * s := Nat.succ_mul q (2 * s)
    have e2 : 2 * (q + 1) * s ≤ r * s := Nat.mul_le_mul_right s hr
    exact SortedIn.keep (h.one r (by omega)) hp (.inr (by omega))
  · by_cases e : r ≤ q
    · exact (h.crs2 r).perm hp (.inl (Nat.mul_le_mul_right _ e)) hbn (by omega) hm
    · have := mul_step q r (2 * s) (by omega)
      exact (h.crs2 r).perm hp (.inr (by omega)) hbn (by omega) hm
  · have e1 := mul2 (q + 1) s
    have e3 : (q + 1) * (2 * s) = q * (2 * s) + 2 * s := Nat.succ_mul q (2 * s)
    have e2 : 2 * (q + 1) * s ≤ r * s := Nat.mul_le_mul_right s hr
    exact (h.crs1 r (by omega)).perm hp (.inr (by omega)) hbn (by omega) hm
/-- what is behind the last pair is one block, or nothing -/
theorem BlkB.done {T : α → α → Bool} {pos : α → Nat} {d0 d : Array α} {s q : Nat} (h : BlkB T pos d0 s q d) (hb : d0.size ≤ q * (2 * s) + s) (h0 : 0 < s) : BlkB T pos d0 (2 * s) 0 d := by
  have hsz : d.size = d0.size := h.perm.1
  refine ⟨h.perm, fun r hr => by omega, fun r _ => ?_, fun r => ?_, fun r _ => h.crs2 r⟩
  · by_cases e : r < q
    · exact h.two r e
    · by_cases e2 : r = q
      · subst e2
        have := h.one (2 * r) (Nat.le_refl _)
        rw [← mul2] at this
        exact SortedIn.shrink this (Nat.le_refl _) (by omega)
      · have := mul_step q r (2 * s) (by omega)
        exact fun i j g1 g2 g3 => by omega
  · have := h.crs2 (2 * r)
    rw [show 2 * r * (2 * s) = r * (2 * (2 * s)) by rw [mul2 r (2 * s)]] at this
    exact this
theorem BlkB.end {T : α → α → Bool} {pos : α → Nat} {d0 d : Array α} {s : Nat} (h : BlkB T pos d0 s 0 d) (hs : d0.size ≤ s) : PermIn 0 d0.size d0 d ∧ SortedIn T 0 d0.size d := by
  refine ⟨h.perm, ?_⟩
  have := h.one 0 (Nat.le_refl _)
  rw [Nat.zero_mul] at this
  exact SortedIn.shrink this (Nat.le_refl _) (by omega)
end
end Go.Proofs.Ytidjjgiecaoboaa
