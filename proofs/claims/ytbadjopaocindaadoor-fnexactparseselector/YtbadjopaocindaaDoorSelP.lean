/- The two readers of selectors, plain: piece by piece they take the same; what is read comes back as text. -/
import Derived.Test.YtbadjopaocindaaDoorPcs
import Derived.Test.YtbadjopaocindaaDoorSelTx0
import Derived.Lib.IndexMore
import Derived.Lib.IndexLaws
namespace Go.Proofs.YtbadjopaocindaaDoor
set_option linter.unusedVariables false

def pIn : List UInt8 := [32, 105, 110, 32, 40]
def cutI (p w : List UInt8) : Nat := (Lib.index p w).toNat
def hasI (p w : List UInt8) : Bool := decide (0 ≤ Lib.index p w)
def restOf (p : List UInt8) : List UInt8 := p.drop (cutI p pIn + 5)
def shutB (r : List UInt8) : Bool := decide (r.getLast? = some 41)
def notIn (p : List UInt8) : TD :=
  if hasI p [33, 61] then (2, ba (p.take (cutI p [33, 61])), [ba (p.drop (cutI p [33, 61] + 2))])
  else if hasI p [61] then (1, ba (p.take (cutI p [61])), [ba (p.drop (cutI p [61] + 1))])
  else if p.head? = some 33 then (5, ba p.tail, [])
  else (4, ba p, [])
def readS (p : List UInt8) : TD :=
  if hasI p pIn && shutB (restOf p) then (3, ba (p.take (cutI p pIn)), (pcs 32 (restOf p).dropLast).map ba) else notIn p
def inI (r : List UInt8) : List (List UInt8) := Lib.splitK [32] 0 (min 7 (r.dropLast.length + 1) - 1) r.dropLast
def readI (p : List UInt8) : TD :=
  if hasI p pIn then (if shutB (restOf p) then (3, ba (p.take (cutI p pIn)), (inI (restOf p)).map ba) else (0, ByteArray.empty, [])) else notIn p

theorem cut_parts {p w : List UInt8} (h : hasI p w = true) : p = p.take (cutI p w) ++ w ++ p.drop (cutI p w + w.length) := by
  unfold hasI at h
  rw [decide_eq_true_eq] at h
  unfold cutI
  rcases Lib.index_spec p w with ⟨h1, _⟩ | ⟨i, h1, h2, h3, _⟩
  · omega
  · rw [h1, Int.toNat_natCast]
    unfold Lib.occAt at h3
    obtain ⟨t, ht⟩ := List.isPrefixOf_iff_prefix.1 h3
    have e : p.drop (i + w.length) = t := by rw [← List.drop_drop, ← ht, List.drop_left]
    rw [e, List.append_assoc, ht, List.take_append_drop]
theorem shut_parts {r : List UInt8} (h : shutB r = true) : r = r.dropLast ++ [41] := by
  unfold shutB at h
  rw [decide_eq_true_eq] at h
  obtain ⟨ys, hy⟩ := List.getLast?_eq_some_iff.1 h
  rw [hy, List.dropLast_concat]
theorem pcs_join (c : UInt8) : ∀ l : List UInt8, Lib.join (pcs c l) [c] = l := by
  intro l
  induction hn : l.length using Nat.strongRecOn generalizing l with
  | ind n ih =>
    rcases cut_first c l with g | ⟨a, r, rfl, g⟩
    · rw [pcs_none l g, Lib.join_one]
    · rw [pcs_hit a r g]
      have hr := ih r.length (by rw [← hn]; simp; omega) r rfl
      cases hp : pcs c r with
      | nil =>
        rcases cut_first c r with g' | ⟨a', r', rfl, g'⟩
        · rw [pcs_none r g'] at hp; cases hp
        · rw [pcs_hit a' r' g'] at hp; cases hp
      | cons x y =>
        rw [hp] at hr
        rw [Lib.join_cons]
        rw [Lib.join_cons] at hr
        rw [← hr]
        unfold Lib.joinTail
        simp
theorem jn_pcs (c : UInt8) (l : List UInt8) : jn c ((pcs c l).map ba) = ba l := by
  apply bs_ext'
  show Lib.join _ _ = l
  rw [List.map_map]
  have : ((fun x : ByteArray => x.data.toList) ∘ ba) = id := rfl
  rw [this, List.map_id, pcs_join]
theorem ba_app (a b : List UInt8) : ba a ++ ba b = ba (a ++ b) := bs_ext' (by rw [bs_app]; rfl)
theorem notIn_text (p : List UInt8) : termTx (notIn p) = ba p := by
  unfold notIn
  split
  · rename_i h
    have hp := cut_parts h
    show (ba _ ++ ⟨#[33, 61]⟩) ++ ba _ = ba p
    rw [show (⟨#[33, 61]⟩ : ByteArray) = ba [33, 61] from rfl, ba_app, ba_app]
    exact congrArg ba hp.symm
  split
  · rename_i h
    have hp := cut_parts h
    show (ba _ ++ ⟨#[61]⟩) ++ ba _ = ba p
    rw [show (⟨#[61]⟩ : ByteArray) = ba [61] from rfl, ba_app, ba_app]
    exact congrArg ba hp.symm
  split
  · rename_i h
    show (⟨#[33]⟩ : ByteArray) ++ ba _ = ba p
    rw [show (⟨#[33]⟩ : ByteArray) = ba [33] from rfl, ba_app]
    cases p with
    | nil => simp at h
    | cons x t => simp at h; rw [h]; rfl
  · rfl
theorem readS_text (p : List UInt8) : termTx (readS p) = ba p := by
  unfold readS
  split
  · rename_i h
    rw [Bool.and_eq_true] at h
    have hp := cut_parts h.1
    have hr := shut_parts h.2
    show ((ba _ ++ ⟨#[32, 105, 110, 32, 40]⟩) ++ jn 32 _) ++ ⟨#[41]⟩ = ba p
    rw [jn_pcs, show (⟨#[32, 105, 110, 32, 40]⟩ : ByteArray) = ba pIn from rfl, show (⟨#[41]⟩ : ByteArray) = ba [41] from rfl, ba_app, ba_app, ba_app]
    have e : restOf p = p.drop (cutI p pIn + pIn.length) := rfl
    apply congrArg ba
    rw [List.append_assoc, ← hr, e, ← hp]
  · exact notIn_text p
theorem nameB_space (l : List UInt8) (h : (32 : UInt8) ∈ l) : nameB (ba l) = false := by
  obtain ⟨i, hi, e⟩ := List.getElem_of_mem h
  refine nameB_bad (k := i) hi ?_
  have : byt (ba l) i = 32 := by
    show (((l[i]?).getD 0).toNat : Int) = 32
    rw [List.getElem?_eq_getElem hi, e]; rfl
  rw [this]; decide
theorem termB_keyF {kd : Int} {key : ByteArray} {ss : List ByteArray} (h : nameB key = false) : termB (kd, key, ss) = false := by show (valsB ss && nameB key && kindB kd ss.length) = false; rw [h, Bool.and_false, Bool.false_and]
theorem termB_valF {kd : Int} {key v : ByteArray} (h : nameB v = false) : termB (kd, key, [v]) = false := by
  show (valsB [v] && nameB key && kindB kd 1) = false
  have : valsB [v] = false := valsB_bad (k := 0) (by simp) (fun g => by
    have := g.1
    have e : ssAt [v] 0 = v := rfl
    rw [e, h] at this; cases this)
  rw [this]; rfl
theorem notIn_space {p : List UInt8} (h : (32 : UInt8) ∈ p) : termB (notIn p) = false := by
  unfold notIn
  split
  · rename_i hh
    have hp := cut_parts hh
    rw [hp] at h
    simp only [List.mem_append] at h
    rcases h with (h | h) | h
    · exact termB_keyF (nameB_space _ h)
    · simp at h
    · exact termB_valF (nameB_space _ h)
  split
  · rename_i hh
    have hp := cut_parts hh
    rw [hp] at h
    simp only [List.mem_append] at h
    rcases h with (h | h) | h
    · exact termB_keyF (nameB_space _ h)
    · simp at h
    · exact termB_valF (nameB_space _ h)
  split
  · rename_i hh
    cases p with
    | nil => simp at hh
    | cons x t =>
      simp at hh
      subst hh
      rcases List.mem_cons.1 h with h | h
      · cases h
      · exact termB_keyF (nameB_space _ h)
  · exact termB_keyF (nameB_space _ h)
theorem termB_many {kd : Int} {key : ByteArray} {ss : List ByteArray} (h : 6 < ss.length) : termB (kd, key, ss) = false := by
  show (valsB ss && nameB key && kindB kd ss.length) = false
  cases hk : kindB kd ss.length
  · rw [Bool.and_false]
  · have := kindB_le hk; omega
theorem piece_same (p : List UInt8) : readI p = readS p ∨ (termB (readI p) = false ∧ termB (readS p) = false) := by
  unfold readI readS
  cases h1 : hasI p pIn
  · left; rfl
  · rw [if_pos rfl, Bool.true_and]
    cases h2 : shutB (restOf p)
    · right
      refine ⟨by rw [if_neg (by simp)]; exact termB_keyF (nameB_none rfl), ?_⟩
      have hp := cut_parts h1
      exact notIn_space (by rw [hp]; simp [pIn])
    · rw [if_pos rfl, if_pos rfl]
      generalize restOf p = r at *
      by_cases hl : (pcs 32 r.dropLast).length ≤ 7
      · left
        have : inI r = pcs 32 r.dropLast := by
          unfold inI
          rw [splitK_all]
          have := pcs_length_le (c := 32) r.dropLast
          omega
        rw [this]
      · right
        have hle := pcs_length_le (c := 32) r.dropLast
        have hk : (inI r).length = 7 := by
          unfold inI
          rw [show min 7 (r.dropLast.length + 1) - 1 = 6 from by omega]
          exact splitK_long 6 _ (by omega)
        exact ⟨termB_many (by rw [List.length_map]; omega), termB_many (by rw [List.length_map]; omega)⟩
def resT (ts : List TD) : List TD × Bool := if selB ts then (ts, true) else ([], false)
theorem selB_map_same : ∀ P : List (List UInt8), (P.map readI = P.map readS) ∨ ((P.map readI).any (fun t => !termB t) = true ∧ (P.map readS).any (fun t => !termB t) = true)
  | [] => .inl rfl
  | p :: r => by
    rcases piece_same p with h | ⟨h1, h2⟩
    · rcases selB_map_same r with g | ⟨g1, g2⟩
      · left; rw [List.map_cons, List.map_cons, h, g]
      · right; rw [List.map_cons, List.map_cons, List.any_cons, List.any_cons, g1, g2, Bool.or_true, Bool.or_true]; exact ⟨rfl, rfl⟩
    · right; rw [List.map_cons, List.map_cons, List.any_cons, List.any_cons, h1, h2]; exact ⟨rfl, rfl⟩
theorem selB_any {ts : List TD} (h : ts.any (fun t => !termB t) = true) : selB ts = false := by
  obtain ⟨t, ht, h2⟩ := List.any_eq_true.1 h
  unfold selB
  rw [decide_eq_false_iff_not]
  intro g
  have := g.2 t ht
  rw [this] at h2; cases h2
theorem res_map_same (P : List (List UInt8)) : resT (P.map readI) = resT (P.map readS) := by
  rcases selB_map_same P with h | ⟨h1, h2⟩
  · rw [h]
  · unfold resT; rw [selB_any h1, selB_any h2]; rfl
theorem resT_long {ts : List TD} (h : 8 < ts.length) : resT ts = ([], false) := by
  unfold resT
  have : selB ts = false := by unfold selB; rw [decide_eq_false_iff_not]; omega
  rw [this]; rfl
theorem readersT (s : List UInt8) : resT ((Lib.splitK [44] 0 (min 9 (s.length + 1) - 1) s).map readI) = resT ((pcs 44 s).map readS) := by
  have hs := pcs_length_le (c := 44) s
  by_cases h : (pcs 44 s).length ≤ 9
  · rw [splitK_all _ _ (by omega), res_map_same]
  · rw [show min 9 (s.length + 1) - 1 = 8 from by omega, resT_long (by rw [List.length_map, splitK_long 8 s (by omega)]; omega), resT_long (by rw [List.length_map]; omega)]
theorem text_back (s : List UInt8) : jn 44 (((pcs 44 s).map readS).map termTx) = ba s := by
  rw [List.map_map, show (termTx ∘ readS) = ba from funext readS_text, jn_pcs]
end Go.Proofs.YtbadjopaocindaaDoor
