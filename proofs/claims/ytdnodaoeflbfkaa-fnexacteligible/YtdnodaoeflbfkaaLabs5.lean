import Derived.Test.YtdnodaoeflbfkaaLabs4
import Derived.Deep.SlicePairs
import Derived.ProofKit
namespace Go.Proofs.Ytdnodaoeflbfkaa
open Go.RowKit Go.BigFrame
open Go.ChangeShapes Go.WideShapes Go.ChangeAt

theorem labsAt.below {w w' : World} {b off : Nat} {ls : List (ByteArray × ByteArray)} (h : labsAt w b off ls) (hb : Below w.heap.size w w') : labsAt w' b off ls := by
  intro i hi
  have h0 := (h i hi).1
  have hbb : b < w.heap.size := World.block_lt_of_cell? _ _ h0
  exact ⟨(hb.cell (p := ⟨b, off + i * 2, none⟩) hbb).trans h0, (hb.cell (p := ⟨b, off + i * 2 + 1, none⟩) hbb).trans (h i hi).2⟩
theorem rowOf.below {w w' : World} {a : Option Addr} {ls : List (ByteArray × ByteArray)} (h : rowOf w a ls) (hb : Below w.heap.size w w') : rowOf w' a ls := by
  intro hl
  obtain ⟨b, off, e, h⟩ := h hl
  exact ⟨b, off, e, h.below hb⟩
theorem row_of_owns {w : World} {base g n cap : Nat} {e : TypeId} {ls : List (ByteArray × ByteArray)} (h : w.ownsRow base e 2 (.slice (some ⟨g, 0, none⟩) n cap) n (flat ls)) : rowOf w (some ⟨g, 0, none⟩) ls := by
  intro _
  refine ⟨g, 0, rfl, fun i hi => ?_⟩
  have hn : n * 2 = ls.length * 2 := by rw [← flat_length, h.1]
  have hf := flat_get ls i hi
  rw [← hf.1, ← hf.2, Nat.zero_add]
  exact ⟨h.cellAt _ (by omega), h.cellAt _ (by omega)⟩
theorem toLabelS_row (a : Option Addr) (cap : Nat) (ls : List (ByteArray × ByteArray)) (w : World) (hl : ls.length ≤ 1048576) (hrow : rowOf w a ls) :
    Calls Try.prog 80 #[.slice a ls.length cap] w fun e w' => ∃ g, e = .returned (.slice (some ⟨g, 0, none⟩) ls.length ls.length) ∧ rowOf w' (some ⟨g, 0, none⟩) ls ∧ Below w.heap.size w w' :=
  (toLabelS_any a cap ls w hl hrow).mono fun _ _ ⟨g, h1, h2, h3⟩ => ⟨g, h1, row_of_owns h2, h3⟩

theorem open_labs {H : Type} {enc : TypeId × Value → H} {w : World} {base : Nat} {spare : Nat → Bool} {held : Bool} {a : Option Addr} {len cap : Nat} {fuel : Nat} {x : DataW H × List MemPlace}
    (h : DataW.trod enc Try.prog w base spare held fuel 47 [.slice a len cap] = some x) :
    ∃ ls : List (ByteArray × ByteArray), len = ls.length ∧ ls.length ≤ maxLen ∧ okSizes ls ∧ rowOf w a ls := by
  rcases Go.Deep.open_slice_pairs Try.underlying47 Try.underlying210 (by kernel_rfl) rfl rfl (by kernel_rfl) (by kernel_rfl) h with ⟨hcs, _⟩ | ⟨a', len', cap', m, n, V0, V1, D0, D1, P0, P1, hcs, _, hl, hm, hmm, _, hx⟩
  · simp at hcs
    obtain ⟨rfl, rfl, rfl⟩ := hcs
    exact ⟨[], rfl, Nat.zero_le _, fun p hp => by simp at hp, fun h => by simp at h⟩
  · simp at hcs
    obtain ⟨rfl, rfl, rfl⟩ := hcs
    have each : ∀ i, i < len → ∃ q : ByteArray × ByteArray, V0 i = .string q.1 ∧ V1 i = .string q.2 ∧ q.1.size ≤ maxLen ∧ q.2.size ≤ maxLen := fun i hi => by
      have hi' : i < m := by rw [hmm]; split <;> omega
      obtain ⟨s, h1, _, h3⟩ := DataW.trod_string Try.underlying9 (hx i hi').2.2.1
      obtain ⟨t, g1, _, g3⟩ := DataW.trod_string Try.underlying9 (hx i hi').2.2.2
      exact ⟨(s, t), by simpa using h1, by simpa using g1, h3, g3⟩
    obtain ⟨q, hq⟩ := Go.Deep.choose_lt each
    refine ⟨(List.range len).map q, by simp, by simp; omega, ?_, ?_⟩
    · intro p hp
      obtain ⟨i, hi, rfl⟩ := List.mem_map.1 hp
      exact (hq i (List.mem_range.1 hi)).2.2
    · intro h0
      simp only [List.length_map, List.length_range] at h0
      obtain ⟨b, off, spot⟩ := a'
      have hc := (hx 0 (by rw [hmm]; split <;> omega)).1
      have hspot : spot = none := by simpa [Addr.add] using World.cell?_spot hc
      subst hspot
      refine ⟨b, off, rfl, fun i hi => ?_⟩
      simp only [List.length_map, List.length_range] at hi
      have hi' : i < m := by rw [hmm]; split <;> omega
      have e0 := (hx i hi').1
      have e1 := (hx i hi').2.1
      rw [(hq i hi).1] at e0
      rw [(hq i hi).2.1] at e1
      simp only [List.getElem_map, List.getElem_range]
      rw [Go.WideShapes.add_plain] at e0 e1
      exact ⟨e0, by rw [Nat.add_assoc]; exact e1⟩

theorem szOne_ok {k v : Nat} {l : Int} (h : ¬ szOne k v l < 0) : szOne k v l = l - k - v := by
  unfold szOne at *
  split at h
  · omega
  · split at h
    · omega
    · rw [if_neg (by assumption), if_neg (by assumption)]
def lenSum (ls : List (ByteArray × ByteArray)) : Nat := (ls.map fun p => p.1.size + p.2.size).sum
theorem szAll_ok : ∀ (ls : List (ByteArray × ByteArray)) (l : Int), 0 ≤ l → ¬ szAll ls l < 0 → (lenSum ls : Int) ≤ l
  | [], l, h0, _ => by simpa [lenSum] using h0
  | p :: r, l, h0, h => by
    unfold szAll at h
    split at h
    · omega
    · rename_i hn
      have e := szOne_ok hn
      have := szAll_ok r _ (by omega) h
      have e2 : lenSum (p :: r) = p.1.size + p.2.size + lenSum r := by simp [lenSum]
      rw [e2, Int.natCast_add, Int.natCast_add]
      omega
theorem szS_ok {ls : List (ByteArray × ByteArray)} {left : Int} (h : ¬ szS ls left < 0) : (ls.length : Int) + lenSum ls ≤ left := by
  unfold szS at h
  split at h
  · omega
  · have := szAll_ok ls _ (by omega) h
    omega
theorem szS_len' {ls : List (ByteArray × ByteArray)} {l : Int} (h : ¬ szS ls l < 0) (hl : l ≤ 1048576) : ls.length ≤ 1048576 := by have := szS_ok h; omega
theorem szS_len {ls : List (ByteArray × ByteArray)} (h : ¬ szS ls 1048576 < 0) : ls.length ≤ 1048576 := szS_len' h (by omega)
theorem szAll_le : ∀ (ls : List (ByteArray × ByteArray)) (l : Int), szAll ls l ≤ l ∨ szAll ls l = -1
  | [], l => .inl (Int.le_refl _)
  | p :: r, l => by
    unfold szAll
    split
    · exact .inr rfl
    · rcases szAll_le r (szOne p.1.size p.2.size l) with h | h
      · rcases szOne_le p.1.size p.2.size l with h' | h'
        · left; omega
        · left; omega
      · exact .inr h
theorem szS_le (ls : List (ByteArray × ByteArray)) (l : Int) : szS ls l ≤ l ∨ szS ls l = -1 := by
  unfold szS
  split
  · exact .inr rfl
  · rcases szAll_le ls (l - ls.length) with h | h
    · left; omega
    · exact .inr h
end Go.Proofs.Ytdnodaoeflbfkaa
