/- Selectors and labels that are drawn: spec.DrawMatches. -/
import Derived.Test.YtbihhcbbjdjhcaaDrawX
import Derived.Test.YtbihhcbbjdjhcaaCode
import Derived.Test.YtbihhcbbjdjhcaaMchP
namespace Go.Proofs.Ytbihhcbbjdjhcaa
open Go.RowKit Go.BigFrame
set_option linter.unusedVariables false

def drawnM (w : World) (e : Ending) (w' : World) : Prop := ∃ (ts : List TD) (ls : List (ByteArray × ByteArray)) (g c g2 c2 : Nat), e = .returned (.tuple #[.slice (some ⟨g, 0, none⟩) ts.length c, .slice (some ⟨g2, 0, none⟩) ls.length c2]) ∧ Hid ((ts.length ≤ 9 ∧ goodAs ts) ∧ (ls.length ≤ 9 ∧ smallL ls)) ∧ Hid (termsOf w' (some ⟨g, 0, none⟩) ts) ∧ Hid (rowOf w' (some ⟨g2, 0, none⟩) ls) ∧ Hid (Below w.heap.size w w')
theorem termsOf_out {w w' : World} {lo g c d : Nat} {ts : List TD} (h : ownTs w lo g c ts) (ho : Out d (d + 1) w w') (hd : d < lo) : termsOf w' (some ⟨g, 0, none⟩) ts := by
  obtain ⟨xs, V, h1, h2, h3⟩ := h
  have hf : ∀ {v : Value} {n : Nat} {e : TypeId} {size : Nat} {ys : List Value}, w.ownsRow lo e size v n ys → w'.ownsRow lo e size v n ys := fun h => owns_out h ho (fun b hb => .inr (by have := (owns_blk h hb).1; omega))
  exact ownTs.row ⟨xs, V, hf h1, fun j hj => by obtain ⟨a0, a1, a2, a3, a4⟩ := h2 j hj; exact ⟨a0, a1, a2, hf a3, a4⟩, h3⟩
set_option maxRecDepth 20000 in
set_option maxHeartbeats 1600000 in
theorem drawMatches_any (n cap : Nat) (a : Option Addr) (w : World) (hn : n ≤ 1048576) (hc : codeAll w a n) :
    Calls Try.prog 5 #[.slice a n cap] w (drawnM w) := by
  have Hc := hide hc
  clear hc
  go_enter Try.func5, Try.ntmps5
  go_wp2_with fail
  refine (l1New_any n cap a _ hn Hc.out.at).mono ?_
  rintro e w1 ⟨d, hd, rfl, hc1, hb1⟩
  have B1 := hide hb1
  have HD := hide hd
  clear hb1 hd Hc
  go_wp2_with fail
  refine (l2Draw_any d n cap 3 a _ hn (by decide) (by decide) hc1.out).mono ?_
  rintro e w2 ⟨T, g, c, rfl, HT, HO, HC2, ho2⟩
  have hd1 : Hid (d < w1.heap.size) := hc1.out.lt
  have HTa : Hid (T.length ≤ 9 ∧ goodAs T) := ⟨by have := HT.out.1; omega, fun t ht => by
    obtain ⟨x1, x2, x3, x4, x5⟩ := HT.out.2 t ht
    exact ⟨by omega, by omega, x3, by omega, x5⟩⟩
  have B2 : Hid (Below w.heap.size w w2) := B1.out.trans (ho2.out.below HD.out B1.out.size)
  clear HT
  go_wp2_with fail
  refine (l1Once_any d n cap 8 a _ hn (by decide) HC2.out).mono ?_
  rintro e w3 ⟨o, rfl, HC3, ho3⟩
  have B3 : Hid (Below w.heap.size w w3) := B2.out.trans (ho3.below HD.out B2.out.size)
  have hd3 : Hid (d < w3.heap.size) := HC3.out.lt
  cases o
  · have O3 : Hid (ownTs w3 w1.heap.size g c T) := by
      obtain ⟨xs, V, h1, h2, h3⟩ := HO.out
      have hf : ∀ {v : Value} {n : Nat} {e : TypeId} {size : Nat} {ys : List Value}, w2.ownsRow w1.heap.size e size v n ys → w3.ownsRow w1.heap.size e size v n ys := fun h => owns_out h ho3 (fun b hb => .inr (by have := (owns_blk h hb).1; have := hd1.out; omega))
      exact ⟨xs, V, hf h1, fun j hj => by obtain ⟨a0, a1, a2, a3, a4⟩ := h2 j hj; exact ⟨a0, a1, a2, hf a3, a4⟩, h3⟩
    clear HO HC2 ho2 ho3 hc1 B1 B2
    go_wp2_with fail
    refine (l1DrawAny_any d n cap a _ hn HC3.out).mono ?_
    rintro e w4 ⟨ls, g2, c2, rfl, HS, HL, HC4, ho4⟩
    have HT4 := hide (termsOf_out O3.out ho4.out hd1.out)
    have HL4 : Hid (rowOf w4 (some ⟨g2, 0, none⟩) ls) := fun _ => ⟨g2, 0, rfl, labs_of_owns' HL.out⟩
    have B4 : Hid (Below w.heap.size w w4) := B3.out.trans (ho4.out.below HD.out B3.out.size)
    clear O3 HL HC4 ho4 HC3 B3
    go_wp2
    refine bodyPost_ret (v := .tuple #[.slice (some ⟨g, 0, none⟩) T.length c, .slice (some ⟨g2, 0, none⟩) ls.length c2]) (by simp [results, Try.results5, go_sem]) rfl ⟨T, ls, g, c, g2, c2, rfl, ⟨HTa.out, HS.out⟩, HT4, HL4, B4⟩
  · clear HO HC2 ho2 ho3 hc1 B1 B2 HTa
    go_wp2_with fail
    refine (l2DrawAny_any d n cap a _ hn HC3.out).mono ?_
    rintro e w4 ⟨T', g', c', rfl, HT', HO', HC4, ho4⟩
    have B4 : Hid (Below w.heap.size w w4) := B3.out.trans (ho4.out.below HD.out B3.out.size)
    clear ho4 HC3 B3
    go_wp2_with fail
    refine (l1DrawAny_any d n cap a _ hn HC4.out).mono ?_
    rintro e w5 ⟨ls, g2, c2, rfl, HS, HL, HC5, ho5⟩
    have HT5 := hide (termsOf_out HO'.out ho5.out hd3.out)
    have HL5 : Hid (rowOf w5 (some ⟨g2, 0, none⟩) ls) := fun _ => ⟨g2, 0, rfl, labs_of_owns' HL.out⟩
    have B5 : Hid (Below w.heap.size w w5) := B4.out.trans (ho5.out.below HD.out B4.out.size)
    clear HO' HL HC5 ho5 HC4 B4
    go_wp2
    refine bodyPost_ret (v := .tuple #[.slice (some ⟨g', 0, none⟩) T'.length c', .slice (some ⟨g2, 0, none⟩) ls.length c2]) (by simp [results, Try.results5, go_sem]) rfl ⟨T', ls, g', c', g2, c2, rfl, ⟨HT'.out, HS.out⟩, HT5, HL5, B5⟩
end Go.Proofs.Ytbihhcbbjdjhcaa
