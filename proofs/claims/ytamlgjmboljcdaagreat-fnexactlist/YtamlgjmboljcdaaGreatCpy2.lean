/- The copier of lists of values: what it answers. -/
import Derived.Test.YtamlgjmboljcdaaGreatCpy0
import Derived.Test.YtamlgjmboljcdaaGreatProg
namespace Go.Proofs.YtamlgjmboljcdaaGreat
open Go.RowKit Go.BigFrame Go.ChangeMaps Go.MapKept
set_option linter.unusedVariables false

theorem infoCpV : ∃ i, Tryz.prog.info? 31 = some i ∧ i.zero = some (.agg #[.int .i64 0, .string ByteArray.empty, .int .i64 0, .slice none 0 0, .slice none 0 0]) ∧ i.size = 5 ∧ i.bytes = 80 := by
  have h : (Tryz.prog.info? 31).map (fun i => (i.zero, i.size, i.bytes)) = some (some (.agg #[.int .i64 0, .string ByteArray.empty, .int .i64 0, .slice none 0 0, .slice none 0 0]), 5, 80) := by kernel_rfl
  cases e : Tryz.prog.info? 31 with
  | none => rw [e] at h; cases h
  | some i => rw [e] at h; simp at h; exact ⟨i, rfl, h.1, h.2.1, h.2.2⟩
def cpV0 : Field := ⟨"first", 226, 0, false, "", "loop.example/g00119/impl", 0⟩
def cpV1 : Field := ⟨"count", 3, 1, false, "", "loop.example/g00119/impl", 8⟩
theorem cpV_num : numFld Tryz.prog cpV1.type := ⟨.i64, by kernel_rfl⟩
theorem cpV_key : PKey Tryz.prog 228 cpV0 [cpV1] where
  under := ⟨_, by kernel_rfl, rfl⟩
  held := by kernel_rfl
  name := by decide
  off := rfl
  first := by
    obtain ⟨i, h1, _, h2, _⟩ := infoCpV
    exact ⟨_, i, by kernel_rfl, h1, by rw [h2]; decide⟩
  rest := fun f hf => by
    simp only [List.mem_cons, List.mem_nil_iff, or_false] at hf
    subst hf
    exact .inr cpV_num
theorem cpV_map : ∃ e, Tryz.prog.underlying 220 = some (.map 228 e) ∧ ∀ w, (zeroValue e).run Tryz.prog w = .ok (.slice none 0 0) w := ⟨29, by kernel_rfl, fun w => by kernel_rfl⟩
theorem cpV_cells (a : Addr) (n : Int) : keyCells [cpV1] a #[.pointer (some a), .int .i64 n] := ⟨rfl, fun f hf => by
  simp only [List.mem_cons, List.mem_nil_iff, or_false] at hf
  subst hf
  exact ⟨_, rfl⟩⟩
theorem cpV_row : (Tryz.prog.info? 228).map (·.size) = some 2 := by kernel_rfl
set_option maxRecDepth 20000 in
set_option maxHeartbeats 3200000 in
theorem cpyV_any (n : Nat) (zs : List Value) (a : Option Addr) (p : Nat) (z : Int) (bc bm : Nat) (ok : Addr → Prop) (e0 : TypeId) (w : World) (hz : w.ownsRow 0 e0 5 (.slice a n p) n zs) (h1 : ∀ u ∈ zs, u.oneCell' = true) (hc : objU w bc 222 [.int .i64 z, .map (some bm)])
    (hm : PMap w [cpV1] bm ok) (hcm : bc ≠ bm) (hok : ∀ g ∈ blkOf (.slice a n p), g ≠ bm ∧ g ≠ bc ∧ ∀ o, ¬ ok ⟨g, o, none⟩) (hokc : ∀ c, ok c → c.block ≠ bc ∧ c.block ≠ bm) (hn : n ≤ 100000000) :
    Calls Tryz.prog 181 #[.pointer (some ⟨bc, 0, none⟩), .slice a n p] w fun e w' => cpyAns w w' 31 222 cpV1 5 n zs bc bm ok a e := by
  by_cases h0 : n = 0
  · subst h0
    have cn : (((0 : Nat) : Int) == 0) = true := by simp
    have HC : Hid (cpyAns w w 31 222 cpV1 5 0 zs bc bm ok a (.returned (.tuple #[.slice none 0 0, .bool false]))) := cpyAns.mk' ⟨OutS.refl _ _, ⟨⟨z, hc⟩, hm.mono (fun c h => .inl h)⟩, .inl ⟨rfl, rfl, rfl⟩⟩
    clear hz h1 hc hm hcm hok hokc
    go_enter Tryz.func181, Tryz.ntmps181
    go_wp2
    go_ret2
    exact HC.out
  have hpos : 0 < n := Nat.pos_of_ne_zero h0
  have cn : ((n : Int) == 0) = false := by simp; omega
  obtain ⟨g, rfl⟩ : ∃ g, a = some ⟨g, 0, none⟩ := by
    rcases hz.2 with ⟨_, h⟩ | ⟨g, cap, cur, h, _⟩
    · omega
    · cases h; exact ⟨g, rfl⟩
  have hgl : g < w.heap.size := (ublk_lt hz g (by simp [blkOf, Value.ownBlock])).2
  obtain ⟨hgm, hgc, hgo⟩ := hok g (by simp [blkOf, Value.ownBlock])
  have Hop : Hid (openBlk w g) := by
    rcases hz.2 with ⟨h, _⟩ | ⟨g', cap, cur, h, _, hh, _⟩
    · cases h
    · cases h; exact ⟨_, _, hh⟩
  have hcl := hc.lt
  have hml := hm.lt
  have Hz := uhide hz
  have H1 := uhide h1
  have Hc := uhide hc
  have Hm := uhide hm
  have Hgo : Hid (¬ ok ⟨g, 0, none⟩) := hgo 0
  have Hokc := uhide hokc
  have HI : Hid ((Tryz.prog.info? 228).map (·.size) = some 2) := cpV_row
  clear hz h1 hc hm hok hgo hokc h0
  go_enter Tryz.func181, Tryz.ntmps181
  go_wp2_with fail
  have O1 : Hid (objU (w.alloc (.cells #[.pointer (some ⟨g, 0, none⟩), .int .i64 n] 228)) w.heap.size 228 [.pointer (some ⟨g, 0, none⟩), .int .i64 n]) := objU.new _ _ _
  have B1 : Hid (Below w.heap.size w (w.alloc (.cells #[.pointer (some ⟨g, 0, none⟩), .int .i64 n] 228))) := (Below.refl _ _).alloc (Nat.le_refl _) _
  generalize w.alloc (.cells #[.pointer (some ⟨g, 0, none⟩), .int .i64 n] 228) = w1 at *
  obtain ⟨eM, hme, hze⟩ := cpV_map
  refine wp_region_held_drew (S := fun w' => w'.cell? ⟨bc, 1, none⟩ = some (.map (some bm)) ∧ w'.rangeAt w.heap.size 0 [.pointer (some ⟨g, 0, none⟩), .int .i64 n] ∧ PMap w' [cpV1] bm ok ∧ openBlk w' g) (by kernel_rfl) ⟨cellB ((Hc.out.below B1.out).cell 1 _ rfl) (Below.drew (Below.refl _ _)), (World.rangeAt_drew _ _ _ _).2 (O1.out.range 0 _ (fun j v h => by rw [Nat.zero_add]; exact h)), (Hm.out.below B1.out).below (Below.drew (Below.refl _ _)), openBlkB (openBlkB Hop.out B1.out) (Below.drew (Below.refl _ _))⟩ (fun hHeld => ?_)
  refine wpAnyH_take (i := 0) (oi := ⟨some 18, .move (.tmp 0), _, _, _, _⟩) (v := .pointer (some ⟨bc, 0, none⟩)) rfl (by kernel_rfl) (by kernel_rfl) (by kernel_rfl) (fun _ _ _ h => h) (Or.inl ⟨by rfl, by intro w hSw; (try dsimp only at hSw); go_split_ands; go_simp⟩) hHeld ?_
  simp only [Act.put, List.setIfInBounds_toArray, List.set_cons_zero, List.set_cons_succ]
  refine wpAnyH_take (i := 1) (oi := ⟨some 19, .nilCheck (.tmp 18), _, _, _, _⟩) (v := .pointer (some ⟨bc, 0, none⟩)) rfl (by kernel_rfl) (by kernel_rfl) (by kernel_rfl) (fun _ _ _ h => h) (Or.inl ⟨by rfl, by intro w hSw; (try dsimp only at hSw); go_split_ands; go_simp⟩) hHeld ?_
  simp only [Act.put, List.setIfInBounds_toArray, List.set_cons_zero, List.set_cons_succ]
  refine wpAnyH_take (i := 2) (oi := ⟨some 20, .fieldAddr _ (.tmp 19) 1, _, _, _, _⟩) (v := .pointer (some ⟨bc, 1, none⟩)) rfl (by kernel_rfl) (by kernel_rfl) (by kernel_rfl) (fun _ _ _ h => h) (Or.inl ⟨by rfl, by intro w hSw; (try dsimp only at hSw); go_split_ands; go_simp⟩) hHeld ?_
  simp only [Act.put, List.setIfInBounds_toArray, List.set_cons_zero, List.set_cons_succ]
  refine wpAnyH_take (i := 3) (oi := ⟨some 21, .load _ (.tmp 20), _, _, _, _⟩) (v := .map (some bm)) rfl (by kernel_rfl) (by kernel_rfl) (by kernel_rfl) (fun _ _ _ h => h) (yields_cell (by rfl) _ _ rfl bc 1 rfl _ (fun w hS => hS.1) (by kernel_rfl)) hHeld ?_
  simp only [Act.put, List.setIfInBounds_toArray, List.set_cons_zero, List.set_cons_succ]
  refine wpAnyH_take (i := 4) (oi := ⟨some 22, .load _ (.tmp 6), _, _, _, _⟩) (v := .agg #[.pointer (some ⟨g, 0, none⟩), .int .i64 n]) rfl (by kernel_rfl) (by kernel_rfl) (by kernel_rfl) (fun _ _ _ h => h) (yieldsIf_load_row (by rfl) 228 _ rfl w.heap.size 0 rfl [.pointer (some ⟨g, 0, none⟩), .int .i64 n] (fun w hS => hS.2.1) (by kernel_rfl) HI.out) hHeld ?_
  simp only [Act.put, List.setIfInBounds_toArray, List.set_cons_zero, List.set_cons_succ]
  refine wpAnyH_take (i := 5) (oi := ⟨some 23, .lookup _ (.tmp 21) (.tmp 22) true, _, _, _, _⟩) (v := .tuple #[.slice none 0 0, .bool false]) rfl (by kernel_rfl) (by kernel_rfl) (by kernel_rfl) (fun _ _ _ h => h) (yieldsIf_lookup_none (by rfl) _ _ _ rfl eM cpV_key hme hze bm ok rfl ⟨g, 0, none⟩ _ rfl (cpV_cells _ _) Hgo.out (fun w hS => hS.2.2)) hHeld ?_
  simp only [Act.put, List.setIfInBounds_toArray, List.set_cons_zero, List.set_cons_succ]
  refine wpAnyH_take (i := 6) (oi := ⟨some 17, .move (.tmp 23), _, _, _, _⟩) (v := .tuple #[.slice none 0 0, .bool false]) rfl (by kernel_rfl) (by kernel_rfl) (by kernel_rfl) (fun _ _ _ h => h) (Or.inl ⟨by rfl, by intro w hSw; (try dsimp only at hSw); go_split_ands; go_simp⟩) hHeld ?_
  simp only [Act.put, List.setIfInBounds_toArray, List.set_cons_zero, List.set_cons_succ]
  refine wpAnyH_take (i := 7) (oi := ⟨some 24, .extract (.tmp 17) 0, _, _, _, _⟩) (v := .slice none 0 0) rfl (by kernel_rfl) (by kernel_rfl) (by kernel_rfl) (fun _ _ _ h => h) (Or.inl ⟨by rfl, by intro w hSw; (try dsimp only at hSw); go_split_ands; go_simp⟩) hHeld ?_
  simp only [Act.put, List.setIfInBounds_toArray, List.set_cons_zero, List.set_cons_succ]
  refine wpAnyH_take (i := 8) (oi := ⟨some 25, .extract (.tmp 17) 1, _, _, _, _⟩) (v := .bool false) rfl (by kernel_rfl) (by kernel_rfl) (by kernel_rfl) (fun _ _ _ h => h) (Or.inl ⟨by rfl, by intro w hSw; (try dsimp only at hSw); go_split_ands; go_simp⟩) hHeld ?_
  simp only [Act.put, List.setIfInBounds_toArray, List.set_cons_zero, List.set_cons_succ]
  refine wpAnyH_take (i := 9) (oi := ⟨some 7, .assign (.tmp 24), _, _, _, _⟩) (v := .slice none 0 0) rfl (by kernel_rfl) (by kernel_rfl) (by kernel_rfl) (fun _ _ _ h => h) (Or.inl ⟨by rfl, by intro w hSw; (try dsimp only at hSw); go_split_ands; go_simp⟩) hHeld ?_
  simp only [Act.put, List.setIfInBounds_toArray, List.set_cons_zero, List.set_cons_succ]
  refine wpAnyH_take (i := 10) (oi := ⟨some 8, .assign (.tmp 25), _, _, _, _⟩) (v := .bool false) rfl (by kernel_rfl) (by kernel_rfl) (by kernel_rfl) (fun _ _ _ h => h) (Or.inl ⟨by rfl, by intro w hSw; (try dsimp only at hSw); go_split_ands; go_simp⟩) hHeld ?_
  simp only [Act.put, List.setIfInBounds_toArray, List.set_cons_zero, List.set_cons_succ]
  refine wpAnyH_done (by kernel_rfl) ?_ _
  clear hHeld
  have B2 : Hid (Below w.heap.size w w1.drew) := Below.drew B1.out
  have O2 : Hid (objU w1.drew w.heap.size 228 [.pointer (some ⟨g, 0, none⟩), .int .i64 n]) := O1.out.below (Below.drew (Below.refl _ _))
  clear O1 B1
  generalize w1.drew = w2 at *
  have c0 := (Hc.out.below B2.out).cell 0 _ rfl
  have f0 := (Hc.out.below B2.out).fz 0
  go_wp2_with fail
  generalize wrap64 (z - (n : Int)) = zz
  have O3 : Hid (objU (w2.setCell ⟨bc, 0, none⟩ (.int .i64 zz)) bc 222 [.int .i64 zz, .map (some bm)]) := (Hc.out.below B2.out).set 0 _
  have E3 : Hid (OutS [bc] w2 (w2.setCell ⟨bc, 0, none⟩ (.int .i64 zz))) := (OutS.refl _ _).setCell (by simp) _
  generalize w2.setCell ⟨bc, 0, none⟩ (.int .i64 zz) = w3 at *
  have E3d : Hid (OutS [bc] w2 w3.drew) := E3.out.trans (OutS.drew _ _)
  have O3d : Hid (objU w3.drew bc 222 [.int .i64 zz, .map (some bm)]) := O3.out.below (Below.drew (Below.refl _ _))
  have hws : w.heap.size ≤ w3.drew.heap.size := Nat.le_trans B2.out.size E3d.out.size
  have hcw : bc ≠ w.heap.size := by omega
  have hmw : bm ≠ w.heap.size := by omega
  have Oh : Hid (objU w3.drew w.heap.size 228 [.pointer (some ⟨g, 0, none⟩), .int .i64 n]) := O2.out.outS E3d.out (by simp; omega)
  have Pd : Hid (PMap w3.drew [cpV1] bm ok) := (Hm.out.below B2.out).outS E3d.out (by simp; omega) (fun c h => by have := Hokc.out c h; simp; omega)
  have Gd : Hid (openBlk w3.drew g) := openBlkS (openBlkB Hop.out B2.out) E3d.out (by simp; omega)
  have Zd : Hid (w3.drew.ownsRow 0 e0 5 (.slice (some ⟨g, 0, none⟩) n p) n zs) := uowns_frame Hz.out (fun x hx => by
    have e : x = g := by simpa [blkOf, Value.ownBlock] using hx
    subst e
    exact (E3d.out.block x (by have := B2.out.size; omega) (by simp; omega)).trans (B2.out.block x hgl))
  have Ec : Hid (OutS [bc, bm] w w3.drew) := (OutS.of_below B2.out).trans (E3d.out.mono (fun t ht => by simp at ht; simp [ht]))
  clear O2 E3 O3 E3d c0 f0 B2
  refine wp_region_held_drew (S := fun w' => w'.cell? ⟨bc, 1, none⟩ = some (.map (some bm)) ∧ w'.rangeAt w.heap.size 0 [.pointer (some ⟨g, 0, none⟩), .int .i64 n] ∧ True) (by kernel_rfl) ⟨O3d.out.cell 1 _ rfl, Oh.out.range 0 _ (fun j v h => by rw [Nat.zero_add]; exact h), trivial⟩ (fun hHeld => ?_)
  refine wpAnyH_take (i := 0) (oi := ⟨some 44, .move (.tmp 0), _, _, _, _⟩) (v := .pointer (some ⟨bc, 0, none⟩)) rfl (by kernel_rfl) (by kernel_rfl) (by kernel_rfl) (fun _ _ _ h => h) (Or.inl ⟨by rfl, by intro w hSw; (try dsimp only at hSw); go_split_ands; go_simp⟩) hHeld ?_
  simp only [Act.put, List.setIfInBounds_toArray, List.set_cons_zero, List.set_cons_succ]
  refine wpAnyH_take (i := 1) (oi := ⟨some 45, .nilCheck (.tmp 44), _, _, _, _⟩) (v := .pointer (some ⟨bc, 0, none⟩)) rfl (by kernel_rfl) (by kernel_rfl) (by kernel_rfl) (fun _ _ _ h => h) (Or.inl ⟨by rfl, by intro w hSw; (try dsimp only at hSw); go_split_ands; go_simp⟩) hHeld ?_
  simp only [Act.put, List.setIfInBounds_toArray, List.set_cons_zero, List.set_cons_succ]
  refine wpAnyH_take (i := 2) (oi := ⟨some 46, .fieldAddr _ (.tmp 45) 1, _, _, _, _⟩) (v := .pointer (some ⟨bc, 1, none⟩)) rfl (by kernel_rfl) (by kernel_rfl) (by kernel_rfl) (fun _ _ _ h => h) (Or.inl ⟨by rfl, by intro w hSw; (try dsimp only at hSw); go_split_ands; go_simp⟩) hHeld ?_
  simp only [Act.put, List.setIfInBounds_toArray, List.set_cons_zero, List.set_cons_succ]
  refine wpAnyH_take (i := 3) (oi := ⟨some 47, .load _ (.tmp 46), _, _, _, _⟩) (v := .map (some bm)) rfl (by kernel_rfl) (by kernel_rfl) (by kernel_rfl) (fun _ _ _ h => h) (yields_cell (by rfl) _ _ rfl bc 1 rfl _ (fun w hS => hS.1) (by kernel_rfl)) hHeld ?_
  simp only [Act.put, List.setIfInBounds_toArray, List.set_cons_zero, List.set_cons_succ]
  refine wpAnyH_take (i := 4) (oi := ⟨some 48, .load _ (.tmp 6), _, _, _, _⟩) (v := .agg #[.pointer (some ⟨g, 0, none⟩), .int .i64 n]) rfl (by kernel_rfl) (by kernel_rfl) (by kernel_rfl) (fun _ _ _ h => h) (yieldsIf_load_row (by rfl) 228 _ rfl w.heap.size 0 rfl [.pointer (some ⟨g, 0, none⟩), .int .i64 n] (fun w hS => hS.2.1) (by kernel_rfl) HI.out) hHeld ?_
  simp only [Act.put, List.setIfInBounds_toArray, List.set_cons_zero, List.set_cons_succ]
  refine wpAnyH_take (i := 5) (oi := ⟨some 49, .move (.tmp 1), _, _, _, _⟩) (v := .slice (some ⟨g, 0, none⟩) n p) rfl (by kernel_rfl) (by kernel_rfl) (by kernel_rfl) (fun _ _ _ h => h) (Or.inl ⟨by rfl, by intro w hSw; (try dsimp only at hSw); go_split_ands; go_simp⟩) hHeld ?_
  simp only [Act.put, List.setIfInBounds_toArray, List.set_cons_zero, List.set_cons_succ]
  obtain ⟨i0, hi0, hi1, hi2, hi3⟩ := infoCpV
  refine wpAnyH_ready (rs := [6]) (by kernel_rfl) (by simp) (AllReadyH.cons (o := ⟨some 50, .call { callee := .builtin .append, args := #[.const (.slice none 0 0), .tmp 49], argTypes := #[29, 29] }, _, _, _, _⟩) rfl (fun K hK => ?_) AllReadyH.nil)
  refine step_append_rows rfl (.const (.slice none 0 0)) (.tmp 49) 29 rfl w.heap.size 31 i0 (.agg #[.int .i64 0, .string ByteArray.empty, .int .i64 0, .slice none 0 0, .slice none 0 0]) 5 80 (by kernel_rfl) hi0 hi1 hi2 hi3 (by decide) (by decide) (.slice none 0 0) 0 [] (by simp [Act.eval]) (World.ownsRow_nil _ _ _ _) (.slice (some ⟨g, 0, none⟩) n p) (by simp [Act.eval]) n zs Zd.out.1 H1.out (.inr ⟨⟨g, 0, none⟩, p, rfl, fun j u hj => ?cells⟩) (by unfold maxLen; omega) (by omega) hws ?_
  case cells =>
    have hj2 : j < n * 5 := by have := (List.getElem?_eq_some_iff.1 hj).1; rw [Zd.out.1] at this; exact this
    rw [Go.WideShapes.add_plain, Nat.zero_add, Zd.out.cellAt j hj2]; exact hj
  intro v4 w4 hown4 hgrow4 hat4
  rw [Nat.zero_add, List.nil_append] at hown4
  obtain ⟨cap4, rfl⟩ := new_row hown4 hpos hat4
  have E4 : Hid (OutS [] w3.drew w4) := OutS.grownNone hgrow4
  have R4 := uhide hown4
  clear hown4 hgrow4 hat4
  have O4 : Hid (objU w4 bc 222 [.int .i64 zz, .map (some bm)]) := O3d.out.outS E4.out (by simp)
  have Oh4 : Hid (objU w4 w.heap.size 228 [.pointer (some ⟨g, 0, none⟩), .int .i64 n]) := Oh.out.outS E4.out (by simp)
  have P4 : Hid (PMap w4 [cpV1] bm ok) := Pd.out.outS E4.out (by simp) (fun c h => by simp)
  have G4 : Hid (openBlk w4 g) := openBlkS Gd.out E4.out (by simp)
  have Ec4 : Hid (OutS [bc, bm] w w4) := Ec.out.trans (E4.out.mono (fun t ht => by cases ht))
  have hmN : bm < w3.drew.heap.size := by omega
  refine hK.out _ _ ⟨O4.out.cell 1 _ rfl, Oh4.out.range 0 _ (fun j v h => by rw [Nat.zero_add]; exact h), trivial⟩ (fun hHeld => ?_)
  clear hK K Pd Gd Zd Ec O3d Oh
  simp only [Act.put, List.setIfInBounds_toArray, List.set_cons_zero, List.set_cons_succ]
  generalize w3.drew.heap.size = N4 at *
  refine wpAnyH_ready (rs := [7]) (by kernel_rfl) (by simp) (AllReadyH.cons (o := ⟨none, .mapUpdate 220 (.tmp 47) (.tmp 48) (.tmp 50), _, _, _, _⟩) rfl (fun K hK => ?_) AllReadyH.nil)
  refine step_update_put (a := _) _ (by rfl) (.tmp 47) (.tmp 48) (.tmp 50) 220 rfl eM cpV_key rfl hme bm ok (by simp [Act.eval]) P4.out ⟨g, 0, none⟩ (n : Int) (by simp [Act.eval]) G4.out Hgo.out hgm ?_
  intro w5 hV hO5
  have V5 : Hid (PMapV w5 cpV1 bm ok ⟨g, 0, none⟩ n (.slice (some ⟨N4, 0, none⟩) n cap4)) := hV
  have O5 : Hid (objU w5 bc 222 [.int .i64 zz, .map (some bm)]) := O4.out.outS hO5 (by simp; omega)
  have Oh5 : Hid (objU w5 w.heap.size 228 [.pointer (some ⟨g, 0, none⟩), .int .i64 n]) := Oh4.out.outS hO5 (by simp; omega)
  have R5 : Hid (w5.ownsRow w.heap.size 31 5 (.slice (some ⟨N4, 0, none⟩) n cap4) n zs) := uowns_frame R4.out (fun x hx => hO5.block x (ublk_lt R4.out x hx).2 (by
    have e : x = N4 := by simpa [blkOf, Value.ownBlock] using hx
    subst e
    simp; omega))
  have Ec5 : Hid (OutS [bc, bm] w w5) := Ec4.out.trans (hO5.mono (fun t ht => by simp at ht; simp [ht]))
  refine hK.out _ _ ⟨O5.out.cell 1 _ rfl, Oh5.out.range 0 _ (fun j v h => by rw [Nat.zero_add]; exact h), trivial⟩ (fun hHeld => ?_)
  clear hK K hV hO5 O4 Oh4 R4 P4 G4 Ec4 E4
  simp only [Act.put]
  refine wpAnyH_done (by kernel_rfl) ?_ _
  clear hHeld
  go_wp2_with fail
  refine wp_region_held_drew (S := fun w' => w'.cell? ⟨bc, 1, none⟩ = some (.map (some bm)) ∧ w'.rangeAt w.heap.size 0 [.pointer (some ⟨g, 0, none⟩), .int .i64 n] ∧ PMapV w' cpV1 bm ok ⟨g, 0, none⟩ n (.slice (some ⟨N4, 0, none⟩) n cap4)) (by kernel_rfl) ⟨cellB (O5.out.cell 1 _ rfl) (Below.drew (Below.refl _ _)), (World.rangeAt_drew _ _ _ _).2 (Oh5.out.range 0 _ (fun j v h => by rw [Nat.zero_add]; exact h)), V5.out.below (Below.drew (Below.refl _ _))⟩ (fun hHeld => ?_)
  refine wpAnyH_take (i := 0) (oi := ⟨some 51, .move (.tmp 0), _, _, _, _⟩) (v := .pointer (some ⟨bc, 0, none⟩)) rfl (by kernel_rfl) (by kernel_rfl) (by kernel_rfl) (fun _ _ _ h => h) (Or.inl ⟨by rfl, by intro w hSw; (try dsimp only at hSw); go_split_ands; go_simp⟩) hHeld ?_
  simp only [Act.put, List.setIfInBounds_toArray, List.set_cons_zero, List.set_cons_succ]
  refine wpAnyH_take (i := 1) (oi := ⟨some 52, .nilCheck (.tmp 51), _, _, _, _⟩) (v := .pointer (some ⟨bc, 0, none⟩)) rfl (by kernel_rfl) (by kernel_rfl) (by kernel_rfl) (fun _ _ _ h => h) (Or.inl ⟨by rfl, by intro w hSw; (try dsimp only at hSw); go_split_ands; go_simp⟩) hHeld ?_
  simp only [Act.put, List.setIfInBounds_toArray, List.set_cons_zero, List.set_cons_succ]
  refine wpAnyH_take (i := 2) (oi := ⟨some 53, .fieldAddr _ (.tmp 52) 1, _, _, _, _⟩) (v := .pointer (some ⟨bc, 1, none⟩)) rfl (by kernel_rfl) (by kernel_rfl) (by kernel_rfl) (fun _ _ _ h => h) (Or.inl ⟨by rfl, by intro w hSw; (try dsimp only at hSw); go_split_ands; go_simp⟩) hHeld ?_
  simp only [Act.put, List.setIfInBounds_toArray, List.set_cons_zero, List.set_cons_succ]
  refine wpAnyH_take (i := 3) (oi := ⟨some 54, .load _ (.tmp 53), _, _, _, _⟩) (v := .map (some bm)) rfl (by kernel_rfl) (by kernel_rfl) (by kernel_rfl) (fun _ _ _ h => h) (yields_cell (by rfl) _ _ rfl bc 1 rfl _ (fun w hS => hS.1) (by kernel_rfl)) hHeld ?_
  simp only [Act.put, List.setIfInBounds_toArray, List.set_cons_zero, List.set_cons_succ]
  refine wpAnyH_take (i := 4) (oi := ⟨some 55, .load _ (.tmp 6), _, _, _, _⟩) (v := .agg #[.pointer (some ⟨g, 0, none⟩), .int .i64 n]) rfl (by kernel_rfl) (by kernel_rfl) (by kernel_rfl) (fun _ _ _ h => h) (yieldsIf_load_row (by rfl) 228 _ rfl w.heap.size 0 rfl [.pointer (some ⟨g, 0, none⟩), .int .i64 n] (fun w hS => hS.2.1) (by kernel_rfl) HI.out) hHeld ?_
  simp only [Act.put, List.setIfInBounds_toArray, List.set_cons_zero, List.set_cons_succ]
  refine wpAnyH_take (i := 5) (oi := ⟨some 56, .lookup _ (.tmp 54) (.tmp 55) false, _, _, _, _⟩) (v := .slice (some ⟨N4, 0, none⟩) n cap4) rfl (by kernel_rfl) (by kernel_rfl) (by kernel_rfl) (fun _ _ _ h => h) (yieldsIf_lookup_put (by rfl) _ _ _ rfl eM cpV_key cpV_num rfl (by decide) hme bm ok rfl ⟨g, 0, none⟩ n _ rfl (fun w hS => hS.2.2)) hHeld ?_
  simp only [Act.put, List.setIfInBounds_toArray, List.set_cons_zero, List.set_cons_succ]
  refine wpAnyH_take (i := 6) (oi := ⟨some 4, .assign (.tmp 56), _, _, _, _⟩) (v := .slice (some ⟨N4, 0, none⟩) n cap4) rfl (by kernel_rfl) (by kernel_rfl) (by kernel_rfl) (fun _ _ _ h => h) (Or.inl ⟨by rfl, by intro w hSw; (try dsimp only at hSw); go_split_ands; go_simp⟩) hHeld ?_
  simp only [Act.put, List.setIfInBounds_toArray, List.set_cons_zero, List.set_cons_succ]
  refine wpAnyH_take (i := 7) (oi := ⟨some 5, .assign (.const (.bool true)), _, _, _, _⟩) (v := .bool true) rfl (by kernel_rfl) (by kernel_rfl) (by kernel_rfl) (fun _ _ _ h => h) (Or.inl ⟨by rfl, by intro w hSw; (try dsimp only at hSw); go_split_ands; go_simp⟩) hHeld ?_
  simp only [Act.put, List.setIfInBounds_toArray, List.set_cons_zero, List.set_cons_succ]
  refine wpAnyH_done (by kernel_rfl) ?_ _
  clear hHeld
  have HF : Hid (cpyAns w w5.drew 31 222 cpV1 5 n zs bc bm ok (some ⟨g, 0, none⟩) (.returned (.tuple #[.slice (some ⟨N4, 0, none⟩) n cap4, .bool true]))) := cpyAns.mk' ⟨Ec5.out.trans (OutS.drew _ _), ⟨⟨zz, O5.out.below (Below.drew (Below.refl _ _))⟩, ((V5.out.below (Below.drew (Below.refl _ _))).map rfl).mono (fun c h => h.imp id (fun e => ⟨hpos, by rw [e]⟩))⟩, .inr ⟨hpos, rfl, N4, cap4, rfl, hws, uowns_frame R5.out (fun x hx => (Below.drew (Below.refl _ _)).block x (ublk_lt R5.out x hx).2)⟩⟩
  go_wp2
  go_ret2
  exact HF.out
end Go.Proofs.YtamlgjmboljcdaaGreat
