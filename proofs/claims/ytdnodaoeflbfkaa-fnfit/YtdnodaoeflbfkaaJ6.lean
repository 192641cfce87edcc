/- Texts of one claim, joined: each in its own section, in build order. -/
import Derived.Test.YtdnodaoeflbfkaaJ5
import Derived.Deep.Cut
import Derived.Deep.CutRange
import Derived.Test.YtdnodaoeflbfkaaJ2
import Derived.ChangeSlices
import Derived.Lib.LaidU8
import Derived.Lib.ItoaMem
import Derived.Test.YtdnodaoeflbfkaaJ3
import Derived.Test.YtdnodaoeflbfkaaJ1
import Derived.Test.YtdnodaoeflbfkaaJ4
/- Wants that are drawn. -/
namespace Go.Proofs.Ytdnodaoeflbfkaa
open Go.RowKit Go.BigFrame
set_option linter.unusedVariables false

theorem wp_callW {P : Program} {o : Oper} {a : Act} {w : World} {K : Act → World → Prop} {Q : Exit → Act → World → Prop} (f : FuncId) (args : Array Operand) (ts : Array TypeId)
    (ho : o.op = .call { callee := .value (.func f), args := args, argTypes := ts }) (hcf : ∀ xs w, (callFunc f xs).run P w = .ok (.enter f xs) w) (xs : Array Value) (hx : args.map a.eval = xs) {R : Ending → World → Prop} (hc : Calls P f xs w R) (h : ∀ e w', R e w' → ∃ v, e = .returned v ∧ K (a.put o.dst v) w') : Oper.wp P o a w K Q := by
  subst hx
  unfold Oper.wp execOp
  simp only [ho, resolve, invoke, Sem.run_bind]
  have e : (Deferred.ofValue (a.eval (Operand.func f)) (Array.map a.eval args)).run P w = .ok { target := .fn (.func f) #[], args := args.map a.eval } w := by simp [Act.eval, Deferred.ofValue, go_sem]
  rw [e, Result.andThen_ok]
  simp only [Array.append_empty]
  rw [hcf]
  rw [Oper.upon_enter]
  refine hc.mono ?_
  intro e w' hr
  obtain ⟨v, rfl, hk⟩ := h e w' hr
  exact hk
theorem grown_outW {w w' : World} {v : Value} (h : w.grownBy w' v.ownBlock) : OutS (blkOf v) w w' := ⟨h.os, h.tape, h.output, h.size, fun k hk hn => h.block k hk (fun e => hn (blk_own.2 e.symm))⟩
theorem new_notW {X : World} {v v' : Value} {b : Nat} (hat : v'.ownBlock = v.ownBlock ∨ v'.ownBlock = some X.heap.size) (hb : b ∉ blkOf v) (hl : b < X.heap.size) : b ∉ blkOf v' := fun hg => by
  rw [blk_own] at hg
  rcases hat with e | e
  · exact hb (blk_own.2 (e ▸ hg))
  · rw [e] at hg; cases hg; omega
theorem outS_of_outW {d : Nat} {w w' : World} (h : Out d (d + 1) w w') : OutS [d] w w' := ⟨h.os, h.tape, h.output, h.size, fun k hk hn => h.block k hk (by simp at hn; omega)⟩
theorem Out.outW {d : Nat} {a w w' : World} {T : List Nat} (h : Out d (d + 1) a w) (ho : OutS T w w') (hT : ∀ t ∈ T, a.heap.size ≤ t) : Out d (d + 1) a w' :=
  ⟨ho.os.trans h.os, ho.tape.trans h.tape, ho.output.trans h.output, Nat.le_trans h.size ho.size, fun k hk hr => (ho.block k (Nat.lt_of_lt_of_le hk h.size) (fun hh => by have := hT k hh; omega)).trans (h.block k hk hr)⟩
theorem CurIn.farW {w w' : World} {d : Nat} {a : Option Addr} {n cap B : Nat} {T : List Nat} (c : CurIn w d a n cap) (ho : OutS T w w') (hd : d < B) (hall : ∀ j, j < n → ∀ b off, a = some ⟨b, off, none⟩ → b < B) (hT : ∀ t ∈ T, B ≤ t) : CurIn w' d a n cap := by
  have hlt := c.lt
  have hb : ∀ k, k < w.heap.size → k < B → w'.heap[k]? = w.heap[k]? := fun k hk hkB => ho.block k hk (fun e => by have := hT k e; omega)
  obtain ⟨i, h, c⟩ := c
  refine ⟨i, h, c.le, ?_, ?_, ?_, ?_, ?_, ?_⟩
  · exact (World.cell?_of_block (w := w) (a := ⟨d, 0, none⟩) (hb d hlt hd)).trans c.c0
  · exact (World.cell?_of_block (w := w) (a := ⟨d, 1, none⟩) (hb d hlt hd)).trans c.c1
  · exact (World.cell?_of_block (w := w) (a := ⟨d, 2, none⟩) (hb d hlt hd)).trans c.c2
  · exact (World.frozen?_of_block (w := w) (a := ⟨d, 1, none⟩) (hb d hlt hd)).trans c.f1
  · exact (World.frozen?_of_block (w := w) (a := ⟨d, 2, none⟩) (hb d hlt hd)).trans c.f2
  · intro j hj
    obtain ⟨b, off, x, h1, h2, h3, h4⟩ := c.code j hj
    exact ⟨b, off, x, h1, h2, (World.cell?_of_block (w := w) (a := ⟨b, off + j, none⟩) (hb b (World.block_lt_of_cell? _ _ h3) (hall j hj b off h1))).trans h3, h4⟩
set_option maxHeartbeats 800000 in
theorem l1Int_at (d n cap b : Nat) (a : Option Addr) (zs : List Int) (w : World) (hn : n ≤ 1048576) (hl : zs.length ≤ 1048576) (h0 : 0 < zs.length) (hs : ∀ j (h : j < zs.length), w.cell? ⟨b, j, none⟩ = some (.int .i64 (zs[j]'h))) (hbd : b ≠ d) (hc : CurIn w d a n cap) :
    Calls Try.prog 173 #[.pointer (some ⟨d, 0, none⟩), .slice (some ⟨b, 0, none⟩) zs.length zs.length] w fun e w' => ∃ x : Int, x ∈ zs ∧ e = .returned (.int .i64 x) ∧ Hid (CurIn w' d a n cap) ∧ Out d (d + 1) w w' := by
  have Hs := hide hs
  have Hc := hide hc
  clear hs hc
  go_enter Try.func173, Try.ntmps173
  go_wp2_with (go_at_call 97; refine (l1Below_any d n cap zs.length a _ hn hl (by first | exact Hc.out | exact Hc.out.drew)).mono ?_; rintro e w2 ⟨x, hx, rfl, hc2, ho2⟩; have hx' := hx h0; have hv := Hs.out x hx'; have hq := (ho2.cell (p := ⟨b, x, none⟩) (World.block_lt_of_cell? _ _ hv) (by show b < d ∨ d + 1 ≤ b; omega)).trans hv)
  go_wp2
  go_ret
  exact ⟨_, List.getElem_mem hx', rfl, hc2, ho2⟩
theorem keptF.outS {lo : Nat} {a w w' : World} {T : List Nat} (h : keptF lo a w) (ho : OutS T w w') (hT : ∀ t ∈ T, t < lo ∨ a.heap.size ≤ t) : keptF lo a w' :=
  ⟨Nat.le_trans h.1 ho.size, fun k hk hs => (ho.block k (Nat.lt_of_lt_of_le hs h.1) (fun hh => by have := hT k hh; omega)).trans (h.2 k hk hs)⟩
theorem ownTs_monoW {w : World} {B B' g cap : Nat} {ts : List TD} (h : ownTs w B g cap ts) (hB : B' ≤ B) : ownTs w B' g cap ts := by
  obtain ⟨xs, V, h1, h2, h3⟩ := h
  exact ⟨xs, V, owns_mono h1 hB, fun j hj => by obtain ⟨a0, a1, a2, a3, a4⟩ := h2 j hj; exact ⟨a0, a1, a2, owns_mono a3 hB, a4⟩, h3⟩
theorem selO.mono {w : World} {lo lo' p1 : Nat} {a1 : Option Addr} {T : List TD} (h : selO w lo a1 p1 T) (hl : lo' ≤ lo) : selO w lo' a1 p1 T := by
  rcases h with h | ⟨g, e, h⟩
  · exact .inl h
  · exact .inr ⟨g, e, ownTs_monoW h hl⟩
theorem elW : elT Try.prog 39 110 2 := elT_of (b := 24) (by kernel_rfl) (by kernel_rfl) (by decide)
def encW (x : WgD) : List Value := [.string x.1, .int .i64 x.2]
theorem encW_flat (L : List WgD) : (L.map encW).flatten = wgFlat L := by unfold wgFlat; rw [List.flatMap_def]; rfl
theorem rowsW (I : List WgD) : rowsK 2 (I.map encW) := fun r hr => by obtain ⟨x, _, rfl⟩ := List.mem_map.1 hr; rfl
theorem oneW (I : List WgD) : oneR (I.map encW) := fun r hr u hu => by
  obtain ⟨x, _, rfl⟩ := List.mem_map.1 hr
  simp [encW] at hu
  rcases hu with rfl | rfl <;> rfl
def nm4 : List ByteArray := [⟨#[97]⟩, ⟨#[98]⟩, ⟨#[99]⟩, ⟨#[100]⟩]
theorem nm4_small : ∀ s ∈ nm4, s.size ≤ 25 := fun s hs => by
  unfold nm4 at hs
  simp at hs
  rcases hs with rfl | rfl | rfl | rfl <;> decide
/-- a want that is being drawn, its weights not yet -/
structure WS2 (w wx : World) (d n cap : Nat) (a : Option Addr) (B : Nat) (z : Int) (T : List TD) (a1 : Option Addr) (p1 : Nat) (S : List ByteArray) (a2 : Option Addr) (p2 : Nat) : Prop where
  ob : objU wx B 41 [.int .i64 z, .slice a1 T.length p1, .slice a2 S.length p2, .slice none 0 0]
  oz : objU wx w.heap.size 41 [.int .i64 0, .slice none 0 0, .slice none 0 0, .slice none 0 0]
  sel : selO wx (B + 1) a1 p1 T
  bears : wx.ownsRow (B + 1) 9 1 (.slice a2 S.length p2) S.length (strVs S)
  cur : CurIn wx d a n cap
  out : Out d (d + 1) w wx
  lt : w.heap.size < B
  dl : d < w.heap.size
  good : inK .i64 z ∧ (T.length ≤ 9 ∧ goodAs T) ∧ (S = [] ∨ S = [⟨#[103, 111, 108, 100]⟩, ⟨#[116, 105, 101, 114]⟩])
theorem WS2.outD {w wx wy : World} {d n cap B : Nat} {a : Option Addr} {z : Int} {T : List TD} {a1 a2 : Option Addr} {p1 p2 : Nat} {S : List ByteArray} (h : WS2 w wx d n cap a B z T a1 p1 S a2 p2) (ho : Out d (d + 1) wx wy) (hc : CurIn wy d a n cap) : WS2 w wy d n cap a B z T a1 p1 S a2 p2 := by
  have hl := h.lt
  have hd := h.dl
  exact ⟨objU_out h.ob ho (by omega), objU_out h.oz ho hd, h.sel.kept (keptF.out ho (by omega)), owns_kept h.bears (keptF.out ho (by omega)), hc, h.out.trans ho, hl, hd, h.good⟩
theorem WS2.setSel {w wx wy : World} {d n cap B : Nat} {a : Option Addr} {z : Int} {a2 : Option Addr} {p2 : Nat} {S : List ByteArray} (h : WS2 w wx d n cap a B z [] none 0 S a2 p2) (ho : Out d (d + 1) wx wy) (hc : CurIn wy d a n cap) (hall : ∀ j, j < n → ∀ b off, a = some ⟨b, off, none⟩ → b < w.heap.size) {T : List TD} {g c : Nat} (ht : T.length ≤ 9 ∧ goodAs T) (hT : ownTs wy wx.heap.size g c T) :
    WS2 w (wy.setCell ⟨B, 1, none⟩ (.slice (some ⟨g, 0, none⟩) T.length c)) d n cap a B z T (some ⟨g, 0, none⟩) c S a2 p2 := by
  have h' := h.outD ho hc
  have hl := h.lt
  have hd := h.dl
  have hB := h.ob.lt
  have hos : OutS [B] wy (wy.setCell ⟨B, 1, none⟩ (.slice (some ⟨g, 0, none⟩) T.length c)) := (OutS.refl _ _).setCell (p := ⟨B, 1, none⟩) (by simp) _
  have hk : keptF (B + 1) wy (wy.setCell ⟨B, 1, none⟩ (.slice (some ⟨g, 0, none⟩) T.length c)) := keptF.setCell ⟨Nat.le_refl _, fun _ _ _ => rfl⟩ (p := ⟨B, 1, none⟩) (Nat.lt_succ_self _) _
  refine ⟨h'.ob.set 1 _, h'.oz.outS hos (by simp; omega), .inr ⟨g, rfl, ?_⟩, owns_kept h'.bears hk, h'.cur.farW hos hd hall (by simp; omega), h'.out.outW hos (by simp; omega), hl, hd, h.good.1, ht, h.good.2.2⟩
  refine ownTs_kept (ownTs_monoW hT (by omega)) hk
theorem WS2.setBears {w wx : World} {d n cap B : Nat} {a : Option Addr} {z : Int} {T : List TD} {a1 : Option Addr} {p1 : Nat} (h : WS2 w wx d n cap a B z T a1 p1 [] none 0) (hall : ∀ j, j < n → ∀ b off, a = some ⟨b, off, none⟩ → b < w.heap.size) :
    WS2 w ((wx.alloc (.cells #[.string ⟨#[103, 111, 108, 100]⟩, .string ⟨#[116, 105, 101, 114]⟩] 9)).setCell ⟨B, 2, none⟩ (.slice (some ⟨wx.heap.size, 0, none⟩) 2 2)) d n cap a B z T a1 p1 [⟨#[103, 111, 108, 100]⟩, ⟨#[116, 105, 101, 114]⟩] (some ⟨wx.heap.size, 0, none⟩) 2 := by
  have hl := h.lt
  have hd := h.dl
  have hB := h.ob.lt
  have hba : Below wx.heap.size wx (wx.alloc (.cells #[.string ⟨#[103, 111, 108, 100]⟩, .string ⟨#[116, 105, 101, 114]⟩] 9)) := below_alloc _ _
  have hk0 : keptF (B + 1) wx (wx.alloc (.cells #[.string ⟨#[103, 111, 108, 100]⟩, .string ⟨#[116, 105, 101, 114]⟩] 9)) := keptF.below hba
  have hV : (wx.alloc (.cells #[.string ⟨#[103, 111, 108, 100]⟩, .string ⟨#[116, 105, 101, 114]⟩] 9)).ownsRow (B + 1) 9 1 (.slice (some ⟨wx.heap.size, 0, none⟩) 2 2) 2 (strVs [⟨#[103, 111, 108, 100]⟩, ⟨#[116, 105, 101, 114]⟩]) := World.ownsRow_lit wx #[.string ⟨#[103, 111, 108, 100]⟩, .string ⟨#[116, 105, 101, 114]⟩] 2 (by omega) (by decide) rfl
  have hC := h.cur.later hba
  generalize hW : wx.alloc (.cells #[.string ⟨#[103, 111, 108, 100]⟩, .string ⟨#[116, 105, 101, 114]⟩] 9) = wy at *
  have hos : OutS [B] wy (wy.setCell ⟨B, 2, none⟩ (.slice (some ⟨wx.heap.size, 0, none⟩) 2 2)) := (OutS.refl _ _).setCell (p := ⟨B, 2, none⟩) (by simp) _
  have hk : keptF (B + 1) wy (wy.setCell ⟨B, 2, none⟩ (.slice (some ⟨wx.heap.size, 0, none⟩) 2 2)) := keptF.setCell ⟨Nat.le_refl _, fun _ _ _ => rfl⟩ (p := ⟨B, 2, none⟩) (Nat.lt_succ_self _) _
  exact ⟨(h.ob.below hba).set 2 _, (h.oz.below hba).outS hos (by simp; omega), (h.sel.kept hk0).kept hk, owns_kept hV hk, hC.farW hos hd hall (by simp; omega), (h.out.trans (Out.of_below hba)).outW hos (by simp; omega), hl, hd, h.good.1, h.good.2.1, .inr rfl⟩
/-- the weights while they are drawn: wg is the world in which the names were laid -/
structure GW (w wg : World) (d n cap : Nat) (a : Option Addr) (B : Nat) (v0 v1 v2 v3 : Value) (R : List (List Value)) (c : Bool) (wn : World) : Prop where
  kept : keptF (B + 1) wg wn
  oz : objU wn w.heap.size 41 [.int .i64 0, .slice none 0 0, .slice none 0 0, .slice none 0 0]
  cur : CurIn wn d a n cap
  out : Out d (d + 1) w wn
  bx : ∃ u, objU wn B 41 [v0, v1, v2, u]
  old : c = false → objU wn B 41 [v0, v1, v2, v3] ∧ ownR wn wg.heap.size 110 2 v3 R
theorem GW.below {w wg wn wm : World} {d n cap B : Nat} {a : Option Addr} {v0 v1 v2 v3 : Value} {R : List (List Value)} {c : Bool} (h : GW w wg d n cap a B v0 v1 v2 v3 R c wn) (hb : Below wn.heap.size wn wm) : GW w wg d n cap a B v0 v1 v2 v3 R c wm :=
  ⟨h.kept.trans (keptF.below hb), h.oz.below hb, h.cur.later hb, h.out.trans (Out.of_below hb), by obtain ⟨u, hu⟩ := h.bx; exact ⟨u, hu.below hb⟩, fun e => ⟨(h.old e).1.below hb, (h.old e).2.below hb⟩⟩
theorem GW.outd {w wg wn wm : World} {d n cap B : Nat} {a : Option Addr} {v0 v1 v2 v3 : Value} {R : List (List Value)} {c : Bool} (h : GW w wg d n cap a B v0 v1 v2 v3 R c wn) (ho : Out d (d + 1) wn wm) (hc : CurIn wm d a n cap) (hd : d < w.heap.size) (hB : w.heap.size < B) (hg : B < wg.heap.size) : GW w wg d n cap a B v0 v1 v2 v3 R c wm :=
  ⟨h.kept.trans (keptF.out ho (by omega)), objU_out h.oz ho hd, hc, h.out.trans ho, by obtain ⟨u, hu⟩ := h.bx; exact ⟨u, objU_out hu ho (by omega)⟩, fun e => ⟨objU_out (h.old e).1 ho (by omega), (h.old e).2.frame (fun g hgg => ho.block g ((h.old e).2.lt g hgg).2 (.inr (by have := ((h.old e).2.lt g hgg).1; omega)))⟩⟩
theorem GW.grow {w wg wn wm : World} {d n cap B : Nat} {a : Option Addr} {v0 v1 v2 v3 : Value} {R : List (List Value)} (h : GW w wg d n cap a B v0 v1 v2 v3 R false wn) (ho : OutS (blkOf v3) wn wm) (hall : ∀ j, j < n → ∀ b off, a = some ⟨b, off, none⟩ → b < w.heap.size) (hd : d < w.heap.size) (hB : w.heap.size < B) (hg : B < wg.heap.size) : GW w wg d n cap a B v0 v1 v2 v3 R true wm := by
  have hr := (h.old rfl).2.lt
  exact ⟨h.kept.outS ho (fun t ht => .inr (hr t ht).1), h.oz.outS ho (fun hh => by have := (hr _ hh).1; omega), h.cur.farW ho (B := w.heap.size) hd hall (fun t ht => by have := (hr t ht).1; omega), h.out.outW ho (fun t ht => by have := (hr t ht).1; omega), ⟨v3, (h.old rfl).1.outS ho (fun hh => by have := (hr _ hh).1; omega)⟩, (fun e => by cases e)⟩
theorem GW.put {w wg wn wm : World} {d n cap B : Nat} {a : Option Addr} {v0 v1 v2 v3 u : Value} {R : List (List Value)} {c : Bool} (h : GW w wg d n cap a B v0 v1 v2 v3 R c wn) (ho : OutS [B] wn wm) (e : 0 = 0) (hall : ∀ j, j < n → ∀ b off, a = some ⟨b, off, none⟩ → b < w.heap.size) (hd : d < w.heap.size) (hB : w.heap.size < B) (hg : B < wg.heap.size) (hc : c = true) (hu : objU wm B 41 [v0, v1, v2, u]) : GW w wg d n cap a B v0 v1 v2 v3 R c wm :=
  ⟨h.kept.outS ho (fun t ht => .inl (by simp at ht; omega)), h.oz.outS ho (by simp; omega), h.cur.farW ho (B := w.heap.size) hd hall (by simp; omega), h.out.outW ho (by simp; omega), ⟨u, hu⟩, fun e => by rw [hc] at e; cases e⟩
/-- what the operations of the region that appends a weight yield -/
def FW (wg : World) (d B gN k : Nat) (NM : ByteArray) (v0 v1 v2 v3 : Value) (R : List (List Value)) : Nat → (Nat → Nat) → Value → World → Prop
  | 0, γ, v, w => v = .pointer (some ⟨B, 3, none⟩)
  | 1, γ, v, w => v = v3
  | 2, γ, v, w => v = .slice (some ⟨gN, 0, none⟩) 4 4
  | 3, γ, v, w => v = .int .i64 (k : Nat)
  | 4, γ, v, w => v = .pointer (some ⟨gN, k, none⟩)
  | 5, γ, v, w => v = .string NM
  | 6, γ, v, w => v = .pointer (some ⟨d, 0, none⟩)
  | 7, γ, v, w => ∃ g, v = .slice (some ⟨g, 0, none⟩) 5 5 ∧ objU w g 3 [.int .i64 0, .int .i64 1, .int .i64 2, .int .i64 3, .int .i64 10] ∧ g ≠ d ∧ g ≠ B ∧ g ∉ blkOf v3
  | 8, γ, v, w => ∃ x : Int, inK .i64 x ∧ v = .int .i64 x
  | 9, γ, v, w => ∃ x : Int, inK .i64 x ∧ v = .agg #[.string NM, .int .i64 x]
  | 10, γ, v, w => ∃ (x : Int) (g : Nat) (t : TypeId), inK .i64 x ∧ v = .slice (some ⟨g, 0, none⟩) 1 1 ∧ objU w g t [.string NM, .int .i64 x] ∧ g ≠ d ∧ g ≠ B
  | 11, γ, v, w => ∃ x : Int, inK .i64 x ∧ ownR w wg.heap.size 110 2 v (R ++ [[.string NM, .int .i64 x]]) ∧ B ∉ blkOf v
  | 12, γ, v, w => v = .pointer (some ⟨B, 3, none⟩)
  | 13, γ, v, w => ∃ (x : Int) (v' : Value), inK .i64 x ∧ objU w B 41 [v0, v1, v2, v'] ∧ ownR w wg.heap.size 110 2 v' (R ++ [[.string NM, .int .i64 x]]) ∧ B ∉ blkOf v'
  | _, _, _, _ => False
/-- a want as it was drawn, with at most k weights -/
def drawnW (k : Nat) (w : World) (d n cap : Nat) (a : Option Addr) (e : Ending) (w' : World) : Prop := ∃ (W : WaD) (a1 a2 a3 : Option Addr) (p1 p2 p3 : Nat),
  e = .returned (.agg #[.int .i64 W.1, .slice a1 W.2.1.length p1, .slice a2 W.2.2.1.length p2, .slice a3 W.2.2.2.length p3]) ∧ Hid (goodW W ∧ W.2.2.2.length ≤ k) ∧ Hid (drW w' w.heap.size W a1 a2 a3 p1 p2 p3) ∧ Hid (CurIn w' d a n cap) ∧ Hid (Out d (d + 1) w w')
/-- the state of the loop over the four names -/
structure WLp (w wg wr : World) (d n cap : Nat) (a : Option Addr) (B : Nat) (v0 v1 v2 : Value) (L : List WgD) (a3 : Option Addr) (p3 : Nat) : Prop where
  g : GW w wg d n cap a B v0 v1 v2 (.slice a3 L.length p3) (L.map encW) false wr
  ok : ∀ x ∈ L, x.1.size ≤ 25 ∧ inK .i64 x.2
  nb : B ∉ blkOf (.slice a3 L.length p3)
theorem WLp.outd {w wg wr wm : World} {d n cap : Nat} {a : Option Addr} {B : Nat} {v0 v1 v2 : Value} {L : List WgD} {a3 : Option Addr} {p3 : Nat} (h : WLp w wg wr d n cap a B v0 v1 v2 L a3 p3) (ho : Out d (d + 1) wr wm) (hc : CurIn wm d a n cap) (hd : d < w.heap.size) (hB : w.heap.size < B) (hg : B < wg.heap.size) : WLp w wg wm d n cap a B v0 v1 v2 L a3 p3 := ⟨h.g.outd ho hc hd hB hg, h.ok, h.nb⟩
set_option maxRecDepth 20000 in
set_option maxHeartbeats 3200000 in
theorem l10Want_any (d n cap : Nat) (a : Option Addr) (w : World) (hn : n ≤ 1048576) (hc : CurIn w d a n cap) :
    Calls Try.prog 98 #[.pointer (some ⟨d, 0, none⟩)] w (drawnW 4 w d n cap a) := by
  have Hd := hide hc.lt
  have Hall := hide hc.lt_all'
  have B0 : Hid (Below w.heap.size w (w.alloc (.cells #[.int .i64 0, .slice none 0 0, .slice none 0 0, .slice none 0 0] 41))) := below_alloc _ _
  have OZ0 : Hid (objU (w.alloc (.cells #[.int .i64 0, .slice none 0 0, .slice none 0 0, .slice none 0 0] 41)) w.heap.size 41 [.int .i64 0, .slice none 0 0, .slice none 0 0, .slice none 0 0]) := objU.new _ _ _
  have HC0 := hide (hc.later B0.out)
  have B01 : Hid (Below w.heap.size w ((w.alloc (.cells #[.int .i64 0, .slice none 0 0, .slice none 0 0, .slice none 0 0] 41)).alloc (.cells #[.int .i64 0, .int .i64 1, .int .i64 2, .int .i64 3, .int .i64 5, .int .i64 7, .int .i64 12, .int .i64 30] 3))) := B0.out.alloc B0.out.size _
  have HI : Hid (∀ wx, wx = ((w.alloc (.cells #[.int .i64 0, .slice none 0 0, .slice none 0 0, .slice none 0 0] 41)).alloc (.cells #[.int .i64 0, .int .i64 1, .int .i64 2, .int .i64 3, .int .i64 5, .int .i64 7, .int .i64 12, .int .i64 30] 3)) → Calls Try.prog 173 #[.pointer (some ⟨d, 0, none⟩), .slice (some ⟨w.heap.size + 1, 0, none⟩) 8 8] wx fun e w' => ∃ x : Int, x ∈ [0, 1, 2, 3, 5, 7, 12, 30] ∧ e = .returned (.int .i64 x) ∧ Hid (CurIn w' d a n cap) ∧ Hid (Out d (d + 1) wx w')) := fun wx e => by
    subst e
    refine (l1Int_at d n cap (w.heap.size + 1) a [0, 1, 2, 3, 5, 7, 12, 30] _ hn (by decide) (by decide) (fun j hj => ?_) (by have := Hd.out; omega) (HC0.out.later (below_alloc _ _))).mono (fun e w' ⟨x, h1, h2, h3, h4⟩ => ⟨x, h1, h2, h3, h4⟩)
    have hj8 : j < 8 := hj
    rcases (show j = 0 ∨ j = 1 ∨ j = 2 ∨ j = 3 ∨ j = 4 ∨ j = 5 ∨ j = 6 ∨ j = 7 by omega) with rfl | rfl | rfl | rfl | rfl | rfl | rfl | rfl <;> exact (World.cell?_alloc_at _ _ _ _ (by simp)).trans rfl
  clear hc
  go_enter Try.func98, Try.ntmps98
  go_wp2_with fail
  refine (HI.out _ rfl).mono ?_
  rintro e w2 ⟨z, hz, rfl, HC2, HO2⟩
  have OZ2 := hide (objU_out (OZ0.out.old _) HO2.out Hd.out)
  have O02 : Hid (Out d (d + 1) w w2) := (Out.of_below B01.out).trans HO2.out
  have B2 : Hid (Below w2.heap.size w2 (w2.alloc (.cells #[.int .i64 z, .slice none 0 0, .slice none 0 0, .slice none 0 0] 41))) := below_alloc _ _
  have OB3 : Hid (objU (w2.alloc (.cells #[.int .i64 z, .slice none 0 0, .slice none 0 0, .slice none 0 0] 41)) w2.heap.size 41 [.int .i64 z, .slice none 0 0, .slice none 0 0, .slice none 0 0]) := objU.new _ _ _
  have hlt2 : Hid (w.heap.size < w2.heap.size) := OZ2.out.lt
  have WS0 : Hid (WS2 w (w2.alloc (.cells #[.int .i64 z, .slice none 0 0, .slice none 0 0, .slice none 0 0] 41)) d n cap a w2.heap.size z [] none 0 [] none 0) :=
    ⟨OB3.out, OZ2.out.below B2.out, .inl ⟨rfl, rfl, rfl⟩, World.ownsRow_nil _ _ _ _, HC2.out.later B2.out, O02.out.trans (Out.of_below B2.out), hlt2.out, Hd.out, (by simp at hz; unfold inK; omega), ⟨by decide, fun t ht => by cases ht⟩, .inl rfl⟩
  clear HI HC0 OZ0 B0 B01 HO2 HC2 OZ2 O02 B2 OB3 hz
  go_wp2_with fail
  refine (l1Once_any d n cap 4 a _ hn (by decide) WS0.out.cur).mono ?_
  rintro e w3 ⟨o, rfl, HC4, ho3⟩
  have WSA := hide (WS0.out.outD ho3 HC4.out)
  clear WS0 HC4 ho3
  go_upto_if 11 with fail
  go_cut [3] from 10 to 14 (fun s3 wc => s3 = .pointer (some ⟨w2.heap.size, 0, none⟩) ∧ ∃ (T : List TD) (a1 : Option Addr) (p1 : Nat), Hid (WS2 w wc d n cap a w2.heap.size z T a1 p1 [] none 0))
  case first =>
    cases o
    · go_wp2_with fail
      go_meet
      exact ⟨rfl, [], none, 0, WSA⟩
    · go_wp2_with fail
      refine (l2Draw_any d n cap 2 a _ hn (by decide) (by decide) WSA.out.cur).mono ?_
      rintro e w4 ⟨T, g, c, rfl, HT, HO, HC, ho4⟩
      have hT : T.length ≤ 9 ∧ goodAs T := ⟨by have := HT.out.1; omega, fun t ht => by
        obtain ⟨x1, x2, x3, x4, x5⟩ := HT.out.2 t ht
        exact ⟨by omega, by omega, x3, by omega, x5⟩⟩
      have WSB := hide (WSA.out.setSel ho4.out HC.out Hall.out hT HO.out)
      have OBx := hide (objU_out WSA.out.ob ho4.out (by have := hlt2.out; have := Hd.out; omega))
      have f1 := OBx.out.fz 1
      have b1 := OBx.out.cell 1 _ rfl
      have hbl : w2.heap.size < w4.heap.size := OBx.out.lt
      clear WSA HT HO HC ho4 hT
      go_wp2
      go_meet
      exact ⟨rfl, T, _, _, WSB⟩
  case rest =>
  obtain ⟨rfl, T, a1, p1, WSB⟩ := hcut
  clear WSA
  go_wp2_with fail
  refine (l1Once_any d n cap 2 a _ hn (by decide) WSB.out.cur).mono ?_
  rintro e w5 ⟨o5, rfl, HC5, ho5⟩
  have WSC := hide (WSB.out.outD ho5 HC5.out)
  clear WSB HC5 ho5
  go_upto_if 16 with fail
  go_cut [3] from 15 to 18 (fun s3 wc => s3 = .pointer (some ⟨w2.heap.size, 0, none⟩) ∧ ∃ (S : List ByteArray) (a2 : Option Addr) (p2 : Nat), Hid (WS2 w wc d n cap a w2.heap.size z T a1 p1 S a2 p2))
  case first =>
    cases o5
    · go_wp2_with fail
      go_meet
      exact ⟨rfl, [], none, 0, WSC⟩
    · have WSD := hide (WSC.out.setBears Hall.out)
      have OBx := hide (WSC.out.ob.old (.cells #[.string ⟨#[103, 111, 108, 100]⟩, .string ⟨#[116, 105, 101, 114]⟩] 9))
      have f2 := OBx.out.fz 2
      have b2 := OBx.out.cell 2 _ rfl
      clear WSC
      go_wp2
      go_meet
      exact ⟨rfl, _, _, _, WSD⟩
  case rest =>
  obtain ⟨rfl, S, a2, p2, WSD⟩ := hcut
  clear WSC
  have hBw : Hid (w2.heap.size < wc.heap.size) := WSD.out.ob.lt
  have HG0 : Hid (WLp w (wc.alloc (.cells #[.string ⟨#[97]⟩, .string ⟨#[98]⟩, .string ⟨#[99]⟩, .string ⟨#[100]⟩] 9)) (wc.alloc (.cells #[.string ⟨#[97]⟩, .string ⟨#[98]⟩, .string ⟨#[99]⟩, .string ⟨#[100]⟩] 9)) d n cap a w2.heap.size (.int .i64 z) (.slice a1 T.length p1) (.slice a2 S.length p2) [] none 0) :=
    ⟨⟨⟨Nat.le_refl _, fun _ _ _ => rfl⟩, WSD.out.oz.old _, WSD.out.cur.later (below_alloc _ _), WSD.out.out.trans (Out.of_below (below_alloc _ _)), ⟨_, WSD.out.ob.old _⟩, fun _ => ⟨WSD.out.ob.old _, ownR.nil _ _ _ _⟩⟩, (fun x hx => by cases hx), by simp [blkOf, Value.ownBlock]⟩
  have hgs : Hid (w2.heap.size < (wc.alloc (.cells #[.string ⟨#[97]⟩, .string ⟨#[98]⟩, .string ⟨#[99]⟩, .string ⟨#[100]⟩] 9)).heap.size ∧ (wc.alloc (.cells #[.string ⟨#[97]⟩, .string ⟨#[98]⟩, .string ⟨#[99]⟩, .string ⟨#[100]⟩] 9)).heap.size = wc.heap.size + 1) := by have := hBw.out; show _ ∧ _; simp; omega
  have HNM : Hid (∀ k (h : k < nm4.length) (wn : World), keptF (w2.heap.size + 1) (wc.alloc (.cells #[.string ⟨#[97]⟩, .string ⟨#[98]⟩, .string ⟨#[99]⟩, .string ⟨#[100]⟩] 9)) wn → wn.cell? ⟨wc.heap.size, k, none⟩ = some (.string (nm4[k]'h))) := fun k h wn hk => by
    refine (World.cell?_of_block (a := ⟨wc.heap.size, k, none⟩) (hk.2 wc.heap.size (by have := hBw.out; omega) (by simp))).trans ?_
    have hk4 : k < 4 := h
    rcases (show k = 0 ∨ k = 1 ∨ k = 2 ∨ k = 3 by omega) with rfl | rfl | rfl | rfl <;> simp [nm4]
  have HKW : Hid (keptF (w2.heap.size + 1) wc (wc.alloc (.cells #[.string ⟨#[97]⟩, .string ⟨#[98]⟩, .string ⟨#[99]⟩, .string ⟨#[100]⟩] 9))) := keptF.below (below_alloc _ _)
  go_wp2
  go_loopw [5] (fun i wr => ∃ (k : Nat) (L : List WgD) (a3 : Option Addr) (p3 : Nat), k ≤ 4 ∧ L.length ≤ k ∧ i = .int .i64 k ∧ Hid (WLp w (wc.alloc (.cells #[.string ⟨#[97]⟩, .string ⟨#[98]⟩, .string ⟨#[99]⟩, .string ⟨#[100]⟩] 9)) wr d n cap a w2.heap.size (.int .i64 z) (.slice a1 T.length p1) (.slice a2 S.length p2) L a3 p3)) (fun i _ => 4 - (intOf i).toNat)
  case atStart => exact ⟨0, [], none, 0, by omega, by simp, rfl, HG0⟩
  case round =>
    clear HG0
    obtain ⟨k, L, a3, p3, hk, hL, rfl, HL⟩ := hrel
    generalize hwg : wc.alloc (.cells #[.string ⟨#[97]⟩, .string ⟨#[98]⟩, .string ⟨#[99]⟩, .string ⟨#[100]⟩] 9) = wg at *
    clear hwg
    by_cases hlt : k < 4
    · have hklt : (k : Int) < 4 := by omega
      go_wp2_with fail
      refine (l1Once_any d n cap 3 a _ hn (by decide) HL.out.g.cur).mono ?_
      rintro e w7 ⟨o7, rfl, HC7, ho7⟩
      have HL7 := hide (HL.out.outd ho7 HC7.out Hd.out hlt2.out hgs.out.1)
      clear HL HC7 ho7
      cases o7
      · go_wp2
        go_roundw
        case rel => exact ⟨k + 1, L, a3, p3, by omega, by omega, by go_num, HL7⟩
        case measure => simp [intOf]; omega
      · obtain ⟨NM, hNM⟩ : ∃ s, s = nm4[k]'hlt := ⟨_, rfl⟩
        have HNk : Hid (∀ wn, keptF (w2.heap.size + 1) wg wn → wn.cell? ⟨wc.heap.size, k, none⟩ = some (.string NM)) := fun wn h => hNM ▸ HNM.out k hlt wn h
        have HNs : Hid (NM.size ≤ 25) := by
          show NM.size ≤ 25
          rw [hNM]
          exact nm4_small _ (List.getElem_mem hlt)
        clear hNM
        go_wp2
        have hk00 : (0 : Int) ≤ (k : Nat) := Int.natCast_nonneg _
        have HNB : Hid (w2.heap.size ∉ blkOf (.slice a3 L.length p3)) := HL7.out.nb
        refine wp_region_inv2 (fun i => if i = 11 then OutS (blkOf (.slice a3 L.length p3)) else if i = 8 then Out d (d + 1) else if i = 13 then OutS [w2.heap.size] else fun u v => Below u.heap.size u v) (fun i => if i = 10 then some 11 else none) 11 (by decide) (GW w wg d n cap a w2.heap.size (.int .i64 z) (.slice a1 T.length p1) (.slice a2 S.length p2) (.slice a3 L.length p3) (L.map encW)) (FW wg d w2.heap.size wc.heap.size k NM (.int .i64 z) (.slice a1 T.length p1) (.slice a2 S.length p2) (.slice a3 L.length p3) (L.map encW)) (by kernel_rfl) (by kernel_rfl) (by kernel_rfl) ?hF ?hU ?hG ?hstep ?hend
        case hF =>
          intro i j γ γ' v wa wb hij hsp hnd hsd h hfr
          have ho := hfr.out
          have hd' := Hd.out; have hb' := hlt2.out; have hg' := hgs.out.1
          match j, h with
          | 0, h => exact h
          | 1, h => exact h
          | 2, h => exact h
          | 3, h => exact h
          | 4, h => exact h
          | 5, h => exact h
          | 6, h => exact h
          | 7, ⟨g, h1, h2, h3, h4, h5⟩ =>
            by_cases e11 : i = 11
            · rw [if_pos e11] at ho
              exact ⟨g, h1, h2.outS ho h5, h3, h4, h5⟩
            · rw [if_neg e11] at ho
              by_cases e8 : i = 8
              · rw [if_pos e8] at ho
                exact ⟨g, h1, h2.outS (outS_of_outW ho) (by simp; omega), h3, h4, h5⟩
              · rw [if_neg e8] at ho
                by_cases e13 : i = 13
                · rw [if_pos e13] at ho
                  exact ⟨g, h1, h2.outS ho (by simp; omega), h3, h4, h5⟩
                · rw [if_neg e13] at ho
                  exact ⟨g, h1, h2.below ho, h3, h4, h5⟩
          | 8, h => exact h
          | 9, h => exact h
          | 10, ⟨x, g, t, hx, h1, h2, h3, h4⟩ =>
            by_cases e11 : i = 11
            · rw [if_pos e11] at ho
              exact (hsp (by simp [e11])).elim
            · rw [if_neg e11] at ho
              by_cases e8 : i = 8
              · rw [if_pos e8] at ho
                exact ⟨x, g, t, hx, h1, h2.outS (outS_of_outW ho) (by simp; omega), h3, h4⟩
              · rw [if_neg e8] at ho
                by_cases e13 : i = 13
                · rw [if_pos e13] at ho
                  exact ⟨x, g, t, hx, h1, h2.outS ho (by simp; omega), h3, h4⟩
                · rw [if_neg e13] at ho
                  exact ⟨x, g, t, hx, h1, h2.below ho, h3, h4⟩
          | 11, ⟨x, hx, h1, h2⟩ =>
            by_cases e11 : i = 11
            · rw [if_pos e11] at ho
              exact (hij e11).elim
            · rw [if_neg e11] at ho
              by_cases e8 : i = 8
              · rw [if_pos e8] at ho
                exact ⟨x, hx, h1.frame (fun g hg => ho.block g (h1.lt g hg).2 (.inr (by have := (h1.lt g hg).1; omega))), h2⟩
              · rw [if_neg e8] at ho
                by_cases e13 : i = 13
                · rw [if_pos e13] at ho
                  exact ⟨x, hx, h1.frame (fun g hg => ho.block g (h1.lt g hg).2 (fun hh => h2 (by simp at hh; exact hh ▸ hg))), h2⟩
                · rw [if_neg e13] at ho
                  exact ⟨x, hx, h1.below ho, h2⟩
          | 12, h => exact h
          | 13, ⟨x, v', hx, h0, h1, h2⟩ =>
            by_cases e11 : i = 11
            · rw [if_pos e11] at ho
              subst e11; cases (hnd.symm.trans (by kernel_rfl) : false = true)
            · rw [if_neg e11] at ho
              by_cases e8 : i = 8
              · rw [if_pos e8] at ho
                exact ⟨x, v', hx, objU_out h0 ho (by omega), h1.frame (fun g hg => ho.block g (h1.lt g hg).2 (.inr (by have := (h1.lt g hg).1; omega))), h2⟩
              · rw [if_neg e8] at ho
                by_cases e13 : i = 13
                · rw [if_pos e13] at ho
                  exact (hij e13).elim
                · rw [if_neg e13] at ho
                  exact ⟨x, v', hx, h0.below ho, h1.below ho, h2⟩
          | j + 14, h => exact h.elim
        case hU =>
          intro i o hi hd γ v wa h
          match i, hi with
          | 0, hi => (injection hi with hi; subst hi; cases hd)
          | 1, hi => (injection hi with hi; subst hi; cases hd)
          | 2, hi => (injection hi with hi; subst hi; cases hd)
          | 3, hi => (injection hi with hi; subst hi; cases hd)
          | 4, hi => (injection hi with hi; subst hi; cases hd)
          | 5, hi => (injection hi with hi; subst hi; cases hd)
          | 6, hi => (injection hi with hi; subst hi; cases hd)
          | 7, hi => (injection hi with hi; subst hi; cases hd)
          | 8, hi => (injection hi with hi; subst hi; cases hd)
          | 9, hi => (injection hi with hi; subst hi; cases hd)
          | 10, hi => (injection hi with hi; subst hi; cases hd)
          | 11, hi => (injection hi with hi; subst hi; cases hd)
          | 12, hi => (injection hi with hi; subst hi; cases hd)
          | 13, hi => exact h
          | i + 14, hi => cases hi
        case hG => exact HL7.out.g.below (Below.drew (Below.refl _ _))
        case hstep =>
          intro i o hi
          match i, hi with
          | 0, hi =>
            injection hi with hi; subst hi
            intro c a1 wn γ hc0 hc1 hG hK hD K hk
            have he1 := hK.at 3 (by kernel_rfl)
            refine wp_pure (.pointer (some ⟨w2.heap.size, 3, none⟩)) ?_ (hk _ _ γ (by rw [if_neg (by decide)]; exact hG) ⟨Below.refl _ _, fun _ _ => rfl⟩ rfl)
            simp [execOp, Act.eval, he1, go_sem]
          | 1, hi =>
            injection hi with hi; subst hi
            intro c a1 wn γ hc0 hc1 hG hK hD K hk
            have d0 := hD 0 (by decide) (by kernel_rfl) (.inl rfl)
            change a1.tmps.getD 26 undef = .pointer (some ⟨w2.heap.size, 3, none⟩) at d0
            have x3 := (hG.old (hc0 (.inl (by kernel_rfl)))).1.cell 3 _ rfl
            refine wp_pure (.slice a3 L.length p3) ?_ (hk _ _ γ (by rw [if_neg (by decide)]; exact hG) ⟨Below.refl _ _, fun _ _ => rfl⟩ rfl)
            simp [execOp, Act.eval, d0, x3, go_sem]
          | 2, hi =>
            injection hi with hi; subst hi
            intro c a1 wn γ hc0 hc1 hG hK hD K hk
            have he1 := hK.at 4 (by kernel_rfl)
            refine wp_pure (.slice (some ⟨wc.heap.size, 0, none⟩) 4 4) ?_ (hk _ _ γ (by rw [if_neg (by decide)]; exact hG) ⟨Below.refl _ _, fun _ _ => rfl⟩ rfl)
            simp [execOp, Act.eval, he1, go_sem]
          | 3, hi =>
            injection hi with hi; subst hi
            intro c a1 wn γ hc0 hc1 hG hK hD K hk
            have he1 := hK.at 5 (by kernel_rfl)
            refine wp_pure (.int .i64 (k : Nat)) ?_ (hk _ _ γ (by rw [if_neg (by decide)]; exact hG) ⟨Below.refl _ _, fun _ _ => rfl⟩ rfl)
            simp [execOp, Act.eval, he1, go_sem]
          | 4, hi =>
            injection hi with hi; subst hi
            intro c a1 wn γ hc0 hc1 hG hK hD K hk
            have d0 := hD 0 (by decide) (by kernel_rfl) (.inl rfl)
            change a1.tmps.getD 28 undef = .slice (some ⟨wc.heap.size, 0, none⟩) 4 4 at d0
            have d1 := hD 1 (by decide) (by kernel_rfl) (.inl rfl)
            change a1.tmps.getD 29 undef = .int .i64 (k : Nat) at d1
            rw [Array.getD_eq_getD_getElem?] at d0 d1
            refine wp_pure (.pointer (some ⟨wc.heap.size, k, none⟩)) ?_ (hk _ _ γ (by rw [if_neg (by decide)]; exact hG) ⟨Below.refl _ _, fun _ _ => rfl⟩ rfl)
            simp [execOp, Act.eval, d0, d1, hklt, hk00, go_sem]
          | 5, hi =>
            injection hi with hi; subst hi
            intro c a1 wn γ hc0 hc1 hG hK hD K hk
            have d0 := hD 0 (by decide) (by kernel_rfl) (.inl rfl)
            change a1.tmps.getD 30 undef = .pointer (some ⟨wc.heap.size, k, none⟩) at d0
            have c5 := HNk.out wn hG.kept
            refine wp_pure (.string NM) ?_ (hk _ _ γ (by rw [if_neg (by decide)]; exact hG) ⟨Below.refl _ _, fun _ _ => rfl⟩ rfl)
            simp [execOp, Act.eval, d0, c5, go_sem]
          | 6, hi =>
            injection hi with hi; subst hi
            intro c a1 wn γ hc0 hc1 hG hK hD K hk
            have he1 := hK.at 0 (by kernel_rfl)
            refine wp_pure (.pointer (some ⟨d, 0, none⟩)) ?_ (hk _ _ γ (by rw [if_neg (by decide)]; exact hG) ⟨Below.refl _ _, fun _ _ => rfl⟩ rfl)
            simp [execOp, Act.eval, he1, go_sem]
          | 7, hi =>
            injection hi with hi; subst hi
            intro c a1 wn γ hc0 hc1 hG hK hD K hk
            refine wp_val (w' := wn.alloc (.cells #[.int .i64 0, .int .i64 1, .int .i64 2, .int .i64 3, .int .i64 10] 3)) (.slice (some ⟨wn.heap.size, 0, none⟩) 5 5) ?_ (hk _ _ γ (by rw [if_neg (by decide)]; exact hG.below (below_alloc _ _)) ⟨below_alloc _ _, fun _ _ => rfl⟩ ⟨_, rfl, objU.new _ _ _, by have := hG.cur.lt; omega, by obtain ⟨u, hu⟩ := hG.bx; have := hu.lt; omega, fun hh => by have := (hG.old (hc0 (.inl (by kernel_rfl)))).2.lt _ hh; omega⟩)
            simp [execOp, Act.eval, go_sem]
          | 8, hi =>
            injection hi with hi; subst hi
            intro c a1 wn γ hc0 hc1 hG hK hD K hk
            have d0 := hD 0 (by decide) (by kernel_rfl) (.inl rfl)
            change a1.tmps.getD 32 undef = .pointer (some ⟨d, 0, none⟩) at d0
            have d1 := hD 1 (by decide) (by kernel_rfl) (.inl rfl)
            obtain ⟨g, d1, ho, hgd, -, -⟩ := d1
            change a1.tmps.getD 33 undef = _ at d1
            refine wp_callW 173 #[.tmp 32, .tmp 33] _ rfl (callFunc_enter Try.func173 (by kernel_rfl) (by kernel_rfl)) #[.pointer (some ⟨d, 0, none⟩), .slice (some ⟨g, 0, none⟩) 5 5] (by simp only [List.map_toArray, List.map_cons, List.map_nil]; show #[a1.tmps.getD 32 undef, a1.tmps.getD 33 undef] = _; rw [d0, d1]) (l1Int_at d n cap g a [0, 1, 2, 3, 10] wn hn (by decide) (by decide) (fun j hj => ?_) hgd hG.cur) ?_
            · have hj5 : j < 5 := hj
              rcases (show j = 0 ∨ j = 1 ∨ j = 2 ∨ j = 3 ∨ j = 4 by omega) with rfl | rfl | rfl | rfl | rfl
              · exact ho.cell 0 _ rfl
              · exact ho.cell 1 _ rfl
              · exact ho.cell 2 _ rfl
              · exact ho.cell 3 _ rfl
              · exact ho.cell 4 _ rfl
            rintro e w' ⟨x, hx, rfl, hc', ho'⟩
            exact ⟨_, rfl, hk _ w' γ (by rw [if_neg (by decide)]; exact hG.outd ho' hc'.out Hd.out hlt2.out hgs.out.1) ⟨ho', fun _ _ => rfl⟩ ⟨x, by simp at hx; unfold inK; omega, rfl⟩⟩
          | 9, hi =>
            injection hi with hi; subst hi
            intro c a1 wn γ hc0 hc1 hG hK hD K hk
            have d0 := hD 0 (by decide) (by kernel_rfl) (.inl rfl)
            change a1.tmps.getD 31 undef = .string NM at d0
            have d1 := hD 1 (by decide) (by kernel_rfl) (.inl rfl)
            obtain ⟨x, hx, d1⟩ := d1
            change a1.tmps.getD 34 undef = _ at d1
            rw [Array.getD_eq_getD_getElem?] at d0 d1
            refine wp_pure (.agg #[.string NM, .int .i64 x]) ?_ (hk _ _ γ (by rw [if_neg (by decide)]; exact hG) ⟨Below.refl _ _, fun _ _ => rfl⟩ ⟨x, hx, rfl⟩)
            simp [execOp, Act.eval, d0, d1, go_sem]
          | 10, hi =>
            injection hi with hi; subst hi
            intro c a1 wn γ hc0 hc1 hG hK hD K hk
            have d0 := hD 0 (by decide) (by kernel_rfl) (.inl rfl)
            obtain ⟨x, hx, d0⟩ := d0
            change a1.tmps.getD 35 undef = _ at d0
            refine wp_val (w' := wn.alloc (.cells #[.string NM, .int .i64 x] 110)) (.slice (some ⟨wn.heap.size, 0, none⟩) 1 1) ?_ (hk _ _ γ (by rw [if_neg (by decide)]; exact hG.below (below_alloc _ _)) ⟨below_alloc _ _, fun _ _ => rfl⟩ ⟨x, _, _, hx, rfl, objU.new _ _ _, by have := hG.cur.lt; omega, by obtain ⟨u, hu⟩ := hG.bx; have := hu.lt; omega⟩)
            rw [Array.getD_eq_getD_getElem?] at d0
            simp [execOp, Act.eval, d0, go_sem]
          | 11, hi =>
            injection hi with hi; subst hi
            intro c a1 wn γ hc0 hc1 hG hK hD K hk
            have d0 := hD 0 (by decide) (by kernel_rfl) (.inl rfl)
            change a1.tmps.getD 27 undef = .slice a3 L.length p3 at d0
            have d1 := hD 1 (by decide) (by kernel_rfl) (.inr (.inl rfl))
            obtain ⟨x, g, t, hx, d1, ho, -, -⟩ := d1
            change a1.tmps.getD 36 undef = _ at d1
            have hc := hc0 (.inr rfl)
            subst hc
            obtain ⟨v', w', r1, r2, r3, r4⟩ := run_append_rd elW (by decide) 39 wg.heap.size _ _ (hG.old rfl).2 _ _ (rdR.one ho) (by intro r hr; simp at hr; subst hr; rfl) (by intro r hr u hu; simp at hr; subst hr; simp at hu; rcases hu with rfl | rfl <;> rfl) (by simp; omega) hG.kept.1
            refine wp_val v' ?_ (hk _ _ γ (by rw [if_pos rfl]; exact hG.grow (grown_outW r3) Hall.out Hd.out hlt2.out hgs.out.1) ⟨grown_outW r3, fun _ _ => rfl⟩ ⟨x, hx, r2, new_notW r4 HNB.out (by obtain ⟨u, hu⟩ := hG.bx; exact hu.lt)⟩)
            exact append_run (.tmp 27) (.tmp 36) 39 rfl d0 d1 r1
          | 12, hi =>
            injection hi with hi; subst hi
            intro c a1 wn γ hc0 hc1 hG hK hD K hk
            have he1 := hK.at 3 (by kernel_rfl)
            refine wp_pure (.pointer (some ⟨w2.heap.size, 3, none⟩)) ?_ (hk _ _ γ (by rw [if_neg (by decide)]; exact hG) ⟨Below.refl _ _, fun _ _ => rfl⟩ rfl)
            simp [execOp, Act.eval, he1, go_sem]
          | 13, hi =>
            injection hi with hi; subst hi
            intro c a1 wn γ hc0 hc1 hG hK hD K hk
            have d0 := hD 1 (by decide) (by kernel_rfl) (.inl rfl)
            obtain ⟨x, hx, h11, hnb⟩ := d0
            change ownR wn wg.heap.size 110 2 (a1.tmps.getD 37 undef) _ at h11
            have d1 := hD 0 (by decide) (by kernel_rfl) (.inl rfl)
            change a1.tmps.getD 38 undef = .pointer (some ⟨w2.heap.size, 3, none⟩) at d1
            obtain ⟨u, hu⟩ := hG.bx
            obtain ⟨a9, p9, e9⟩ := h11.slice
            change w2.heap.size ∉ blkOf (a1.tmps.getD 37 undef) at hnb
            rw [e9] at h11 hnb
            have hos : OutS [w2.heap.size] wn (wn.setCell ⟨w2.heap.size, 3, none⟩ (.slice a9 (L.map encW ++ [[Value.string NM, Value.int .i64 x]]).length p9)) := (OutS.refl _ _).setCell (p := ⟨w2.heap.size, 3, none⟩) (by simp) _
            refine wp_skip ?_ (hk undef (wn.setCell ⟨w2.heap.size, 3, none⟩ (.slice a9 (L.map encW ++ [[Value.string NM, Value.int .i64 x]]).length p9)) γ (by rw [if_neg (by decide)]; exact hG.put hos rfl Hall.out Hd.out hlt2.out hgs.out.1 (hc1 (by kernel_rfl)) (hu.set 3 _)) ⟨hos, fun _ _ => rfl⟩ ⟨x, _, hx, hu.set 3 _, h11.frame (fun g hg => hos.block g (h11.lt g hg).2 (fun hh => hnb (by simp at hh; exact hh ▸ hg))), hnb⟩)
            have u3 := hu.cell 3 _ rfl
            have f3 := hu.fz 3
            rw [Array.getD_eq_getD_getElem?] at e9 d1
            simp [execOp, Act.eval, e9, d1, u3, f3, go_sem]
          | i + 14, hi => cases hi
        case hend =>
          intro xx w9 γ hG hx
          obtain ⟨x, v', hxk, h0, h1, hnb⟩ := hx 13 (by decide) rfl
          obtain ⟨a9, p9, rfl⟩ := h1.slice
          have HL9 : Hid (WLp w wg w9 d n cap a w2.heap.size (.int .i64 z) (.slice a1 T.length p1) (.slice a2 S.length p2) (L ++ [(NM, x)]) a9 p9) := ⟨⟨hG.kept, hG.oz, hG.cur, hG.out, hG.bx, fun _ => ⟨by simpa using h0, by simpa [encW] using h1⟩⟩, fun y hy => by rcases List.mem_append.1 hy with hy | hy; exact HL7.out.ok y hy; simp at hy; subst hy; exact ⟨HNs.out, hxk⟩, by simpa using hnb⟩
          clear hG hx h0 h1 HL7 hnb
          simp only [putAll, Act.put, List.setIfInBounds_toArray, List.set_cons_zero, List.set_cons_succ, Nat.zero_add, Nat.reduceAdd]
          go_wp2
          go_roundw
          case rel => exact ⟨k + 1, L ++ [(NM, x)], a9, p9, by omega, by simp; omega, by go_num, HL9⟩
          case measure => simp [intOf]; omega
    · have ek : k = 4 := by omega
      subst ek
      have HGE := hide HL.out.g
      have HOK : Hid (goodW (z, T, S, L) ∧ L.length ≤ 4) := ⟨⟨WSD.out.good.1, WSD.out.good.2.1, WSD.out.good.2.2.imp id (fun h => .inl h), by show L.length ≤ 5; omega, HL.out.ok⟩, hL⟩
      have OB9 := hide (HGE.out.old rfl).1
      have r0 := HGE.out.oz.cell 0 _ rfl
      have r1 := HGE.out.oz.cell 1 _ rfl
      have r2 := HGE.out.oz.cell 2 _ rfl
      have r3 := HGE.out.oz.cell 3 _ rfl
      have f0 := HGE.out.oz.fz 0
      have f1 := HGE.out.oz.fz 1
      have f2 := HGE.out.oz.fz 2
      have f3 := HGE.out.oz.fz 3
      have b0 := OB9.out.cell 0 _ rfl
      have b1 := OB9.out.cell 1 _ rfl
      have b2 := OB9.out.cell 2 _ rfl
      have b3 := OB9.out.cell 3 _ rfl
      have HS9 : Hid (selO wr (w2.heap.size + 1) a1 p1 T ∧ wr.ownsRow (w2.heap.size + 1) 9 1 (.slice a2 S.length p2) S.length (strVs S)) := ⟨(WSD.out.sel.kept HKW.out).kept HGE.out.kept, owns_kept (owns_kept WSD.out.bears HKW.out) HGE.out.kept⟩
      go_wp2
      have hos : OutS [w.heap.size] wr ((((wr.setCell ⟨w.heap.size, 0, none⟩ (.int .i64 z)).setCell ⟨w.heap.size, 1, none⟩ (.slice a1 T.length p1)).setCell ⟨w.heap.size, 2, none⟩ (.slice a2 S.length p2)).setCell ⟨w.heap.size, 3, none⟩ (.slice a3 L.length p3)) := ((((OutS.refl _ _).setCell (p := ⟨w.heap.size, 0, none⟩) (by simp) _).setCell (p := ⟨w.heap.size, 1, none⟩) (by simp) _).setCell (p := ⟨w.heap.size, 2, none⟩) (by simp) _).setCell (p := ⟨w.heap.size, 3, none⟩) (by simp) _
      have ORf := hide ((((HGE.out.oz.set 0 (.int .i64 z)).set 1 (.slice a1 T.length p1)).set 2 (.slice a2 S.length p2)).set 3 (.slice a3 L.length p3))
      generalize ((((wr.setCell ⟨w.heap.size, 0, none⟩ (.int .i64 z)).setCell ⟨w.heap.size, 1, none⟩ (.slice a1 T.length p1)).setCell ⟨w.heap.size, 2, none⟩ (.slice a2 S.length p2)).setCell ⟨w.heap.size, 3, none⟩ (.slice a3 L.length p3)) = wf at *
      have c0 : wf.cell? ⟨w.heap.size, 0, none⟩ = some (.int .i64 z) := ORf.out.cell 0 _ rfl
      have c1 : wf.cell? ⟨w.heap.size, 1, none⟩ = some (.slice a1 T.length p1) := ORf.out.cell 1 _ rfl
      have c2 : wf.cell? ⟨w.heap.size, 2, none⟩ = some (.slice a2 S.length p2) := ORf.out.cell 2 _ rfl
      have c3 : wf.cell? ⟨w.heap.size, 3, none⟩ = some (.slice a3 L.length p3) := ORf.out.cell 3 _ rfl
      have hkf : keptF (w.heap.size + 1) wr wf := keptF.outS ⟨Nat.le_refl _, fun _ _ _ => rfl⟩ hos (fun t ht => .inl (by simp at ht; omega))
      have hW3 : wf.ownsRow (w.heap.size + 1) 110 2 (.slice a3 L.length p3) L.length (wgFlat L) := by
        have h := ((HGE.out.old rfl).2.mono (base' := w.heap.size + 1) (by have := hgs.out.1; have := hlt2.out; omega)).2
        rw [encW_flat, List.length_map] at h
        exact owns_kept h hkf
      refine bodyPost_ret (v := .agg #[.int .i64 z, .slice a1 T.length p1, .slice a2 S.length p2, .slice a3 L.length p3]) (by simp [results, Try.results98, go_sem, c0, c1, c2, c3]) rfl ⟨(z, T, S, L), a1, a2, a3, p1, p2, p3, rfl, HOK.out, ?_, HGE.out.cur.farW hos Hd.out Hall.out (by simp), HGE.out.out.outW hos (by simp)⟩
      exact ⟨((HS9.out.1.mono (by have := hlt2.out; omega)).kept hkf).mono (Nat.le_succ _), owns_mono (owns_kept (owns_mono HS9.out.2 (by have := hlt2.out; omega)) hkf) (Nat.le_succ _), owns_mono hW3 (Nat.le_succ _)⟩
end Go.Proofs.Ytdnodaoeflbfkaa
/- Wants that are drawn and bent. -/
namespace Go.Proofs.Ytdnodaoeflbfkaa
open Go.RowKit Go.BigFrame
set_option linter.unusedVariables false
set_option linter.unusedSimpArgs false

/-- what lies from lo on is as it was, but for one block -/
def keptX (lo X : Nat) (w w' : World) : Prop := w.heap.size ≤ w'.heap.size ∧ ∀ k, lo ≤ k → k < w.heap.size → k ≠ X → w'.heap[k]? = w.heap[k]?
theorem keptF.toX {lo X : Nat} {w w' : World} (h : keptF lo w w') : keptX lo X w w' := ⟨h.1, fun k h1 h2 _ => h.2 k h1 h2⟩
theorem keptX.trans {lo X : Nat} {a b c : World} (h : keptX lo X a b) (k : keptX lo X b c) : keptX lo X a c := ⟨Nat.le_trans h.1 k.1, fun i hi hs hx => (k.2 i hi (Nat.lt_of_lt_of_le hs h.1) hx).trans (h.2 i hi hs hx)⟩
theorem keptX.toF {lo lo' X : Nat} {w w' : World} (h : keptX lo X w w') (hl : lo ≤ lo') (hx : X < lo') : keptF lo' w w' := ⟨h.1, fun k h1 h2 => h.2 k (by omega) h2 (by omega)⟩
/-- the rows of a want lie clear of the block X -/
def drWX (w : World) (lo X : Nat) (W : WaD) (a1 a2 a3 : Option Addr) (p1 p2 p3 : Nat) : Prop := ∀ wf, keptX lo X w wf → drW wf lo W a1 a2 a3 p1 p2 p3
def drawnB (lo X k : Nat) (w : World) (d n cap : Nat) (a : Option Addr) (e : Ending) (w' : World) : Prop := ∃ (W : WaD) (a1 a2 a3 : Option Addr) (p1 p2 p3 : Nat),
  e = .returned (.agg #[.int .i64 W.1, .slice a1 W.2.1.length p1, .slice a2 W.2.2.1.length p2, .slice a3 W.2.2.2.length p3]) ∧ Hid (goodW W ∧ W.2.2.2.length ≤ k) ∧ Hid (drWX w' lo X W a1 a2 a3 p1 p2 p3) ∧ Hid (CurIn w' d a n cap) ∧ Hid (Out d (d + 1) w w')
theorem drW.mono {w : World} {lo lo' : Nat} {W : WaD} {a1 a2 a3 : Option Addr} {p1 p2 p3 : Nat} (h : drW w lo W a1 a2 a3 p1 p2 p3) (hl : lo' ≤ lo) : drW w lo' W a1 a2 a3 p1 p2 p3 := ⟨h.sel.mono hl, owns_mono h.bears hl, owns_mono h.weighs hl⟩
theorem drW.wrow {w : World} {lo : Nat} {W : WaD} {a1 a2 a3 : Option Addr} {p1 p2 p3 : Nat} (h : drW w lo W a1 a2 a3 p1 p2 p3) : ownR w lo 110 2 (.slice a3 W.2.2.2.length p3) (W.2.2.2.map encW) := ⟨rowsW _, by rw [encW_flat, List.length_map]; exact h.weighs⟩
theorem OutS.wideW {T T' : List Nat} {a b : World} (h : OutS T a b) (hs : ∀ t ∈ T, t ∈ T') : OutS T' a b := ⟨h.os, h.tape, h.output, h.size, fun k hk hn => h.block k hk (fun hh => hn (hs k hh))⟩
set_option maxRecDepth 20000 in
set_option maxHeartbeats 3200000 in
theorem l10Bend_any (d n cap lo X : Nat) (a : Option Addr) (W : WaD) (a1 a2 a3 : Option Addr) (p1 p2 p3 : Nat) (w : World) (hn : n ≤ 1048576) (hW : goodW W ∧ W.2.2.2.length ≤ 4) (hd : d < lo) (hlo : lo ≤ w.heap.size) (hX : X < w.heap.size) (hr : drWX w lo X W a1 a2 a3 p1 p2 p3) (hc : CurIn w d a n cap) :
    Calls Try.prog 100 #[.pointer (some ⟨d, 0, none⟩), .agg #[.int .i64 W.1, .slice a1 W.2.1.length p1, .slice a2 W.2.2.1.length p2, .slice a3 W.2.2.2.length p3]] w (drawnB lo X 5 w d n cap a) := by
  obtain ⟨z, T, S, L⟩ := W
  dsimp only at *
  have HR := hide hr
  have HWd := hide hW
  have Hd := hide hc.lt
  have Hall := hide hc.lt_all'
  have Hlo : Hid (d < lo ∧ lo ≤ w.heap.size ∧ X < w.heap.size) := ⟨hd, hlo, hX⟩
  have B01 : Hid (Below w.heap.size w ((w.alloc (.cells #[.int .i64 z, .slice a1 T.length p1, .slice a2 S.length p2, .slice a3 L.length p3] 41)).alloc (.cells #[.int .i64 0, .slice none 0 0, .slice none 0 0, .slice none 0 0] 41))) := (below_alloc _ _).alloc (by simp) _
  have OB1 : Hid (objU ((w.alloc (.cells #[.int .i64 z, .slice a1 T.length p1, .slice a2 S.length p2, .slice a3 L.length p3] 41)).alloc (.cells #[.int .i64 0, .slice none 0 0, .slice none 0 0, .slice none 0 0] 41)) w.heap.size 41 [.int .i64 z, .slice a1 T.length p1, .slice a2 S.length p2, .slice a3 L.length p3]) := (objU.new _ _ _).old _
  have OZ1 : Hid (objU ((w.alloc (.cells #[.int .i64 z, .slice a1 T.length p1, .slice a2 S.length p2, .slice a3 L.length p3] 41)).alloc (.cells #[.int .i64 0, .slice none 0 0, .slice none 0 0, .slice none 0 0] 41)) (w.heap.size + 1) 41 [.int .i64 0, .slice none 0 0, .slice none 0 0, .slice none 0 0]) := objU.new2 _ _ (by simp)
  have HC1 := hide (hc.later B01.out)
  clear hc hr hW hd hlo hX
  go_enter Try.func100, Try.ntmps100
  go_wp2_with fail
  refine (l1Below_any d n cap 8 a _ hn (by decide) HC1.out).mono ?_
  rintro e w2 ⟨x, hx, rfl, HC2, ho2⟩
  have hx8 := hx (by decide)
  have OB2 := hide (objU_out OB1.out ho2 Hd.out)
  have OZ2 := hide (objU_out OZ1.out ho2 (by have := Hd.out; omega))
  have O2 : Hid (Out d (d + 1) w w2) := (Out.of_below B01.out).trans ho2
  have K2 : Hid (keptF lo w w2) := (keptF.below B01.out).trans (keptF.out ho2 Hlo.out.1)
  have hB2 : Hid (w.heap.size + 1 < w2.heap.size) := OZ2.out.lt
  clear HC1 B01 OB1 OZ1 ho2 hx
  rcases (show x = 0 ∨ x = 1 ∨ x = 2 ∨ x = 3 ∨ x = 4 ∨ x = 5 ∨ x = 6 ∨ x = 7 by omega) with rfl | rfl | rfl | rfl | rfl | rfl | rfl | rfl
  · have HI : Hid (∀ wx, wx = w2.alloc (.cells #[.int .i64 (-1), .int .i64 10000, .int .i64 10001] 3) → Calls Try.prog 173 #[.pointer (some ⟨d, 0, none⟩), .slice (some ⟨w2.heap.size, 0, none⟩) 3 3] wx fun e w' => ∃ x : Int, x ∈ [-1, 10000, 10001] ∧ e = .returned (.int .i64 x) ∧ Hid (CurIn w' d a n cap) ∧ Hid (Out d (d + 1) wx w')) := fun wx e => by
      subst e
      refine (l1Int_at d n cap w2.heap.size a [-1, 10000, 10001] _ hn (by decide) (by decide) (fun j hj => ?_) (by have := Hd.out; have := hB2.out; omega) (HC2.out.later (below_alloc _ _))).mono (fun e w' ⟨x, h1, h2, h3, h4⟩ => ⟨x, h1, h2, h3, h4⟩)
      have hj8 : j < 3 := hj
      rcases (show j = 0 ∨ j = 1 ∨ j = 2 by omega) with rfl | rfl | rfl <;> exact (World.cell?_alloc_at _ _ _ _ rfl).trans rfl
    go_wp2_with fail
    refine (HI.out _ rfl).mono ?_
    rintro e w3 ⟨y, hy, rfl, HC3, ho3⟩
    have K3 : Hid (keptF lo w w3) := (K2.out.trans (keptF.below (below_alloc _ _))).trans (keptF.out ho3.out Hlo.out.1)
    have O3 : Hid (Out d (d + 1) w w3) := (O2.out.trans (Out.of_below (below_alloc _ _))).trans ho3.out
    have OBk := hide (objU_out (OB2.out.old _) ho3.out Hd.out)
    have OZk := hide (objU_out (OZ2.out.old _) ho3.out (by have := Hd.out; omega))
    have HG : Hid (goodW (y, T, S, L) ∧ L.length ≤ 5) := ⟨⟨by simp at hy; unfold inK; omega, HWd.out.1.2⟩, Nat.le_trans HWd.out.2 (by decide)⟩
    have HF : ∀ wf, OutS [w.heap.size, w.heap.size + 1] w3 wf → Hid (drWX wf lo X (y, T, S, L) a1 a2 a3 p1 p2 p3) ∧ Hid (CurIn wf d a n cap) ∧ Hid (Out d (d + 1) w wf) := fun wf ho => by
      have k0 : keptF lo w wf := keptF.outS K3.out ho (fun t ht => .inr (by simp at ht; omega))
      have kn : keptF (w.heap.size + 2) w3 wf := keptF.outS ⟨Nat.le_refl _, fun _ _ _ => rfl⟩ ho (fun t ht => .inl (by simp at ht; omega))
      refine ⟨fun wg hg => ?_, CurIn.farW HC3.out ho (B := w.heap.size) Hd.out Hall.out (fun t ht => by simp at ht; omega), Out.outW O3.out ho (fun t ht => by simp at ht; omega)⟩
      have k9 : keptX lo X w wg := k0.toX.trans hg
      have kn := kn.trans (hg.toF (show lo ≤ w.heap.size + 2 by have := Hlo.out; omega) (by have := Hlo.out; omega))
      have HR9 := HR.out wg k9
      exact ⟨HR9.sel, HR9.bears, HR9.weighs⟩
    clear HI HC2 HC3 ho3 O2 K2 OB2 OZ2 hy
    have b0 := OBk.out.cell 0 _ rfl
    have b1 := OBk.out.cell 1 _ rfl
    have b2 := OBk.out.cell 2 _ rfl
    have b3 := OBk.out.cell 3 _ rfl
    have e0 := OBk.out.fz 0
    have e1 := OBk.out.fz 1
    have e2 := OBk.out.fz 2
    have e3 := OBk.out.fz 3
    have r0 := OZk.out.cell 0 _ rfl
    have r1 := OZk.out.cell 1 _ rfl
    have r2 := OZk.out.cell 2 _ rfl
    have r3 := OZk.out.cell 3 _ rfl
    have f0 := OZk.out.fz 0
    have f1 := OZk.out.fz 1
    have f2 := OZk.out.fz 2
    have f3 := OZk.out.fz 3
    clear OBk OZk
    go_wp2
    refine bodyPost_ret (v := .agg #[.int .i64 y, .slice a1 T.length p1, .slice a2 S.length p2, .slice a3 L.length p3]) (by simp [results, Try.results100, go_sem, b0, b1, b2, b3, r0, r1, r2, r3]) rfl ⟨(y, T, S, L), a1, a2, a3, p1, p2, p3, rfl, HG, HF _ ?_⟩
    repeat (first | with_reducible exact OutS.refl _ _ | with_reducible refine OutS.setCell ?_ (by simp) _ | with_reducible exact HA.out)
  · have HG : Hid (goodW (z, T, [⟨#[98]⟩, ⟨#[97]⟩], L) ∧ L.length ≤ 5) := ⟨⟨HWd.out.1.1, HWd.out.1.2.1, .inr (.inr rfl), HWd.out.1.2.2.2⟩, Nat.le_trans HWd.out.2 (by decide)⟩
    have OBk := hide (OB2.out.old (.cells #[.string ⟨#[98]⟩, .string ⟨#[97]⟩] 9))
    have OZk := hide (OZ2.out.old (.cells #[.string ⟨#[98]⟩, .string ⟨#[97]⟩] 9))
    have HV : Hid ((w2.alloc (.cells #[.string ⟨#[98]⟩, .string ⟨#[97]⟩] 9)).ownsRow (w.heap.size + 2) 9 1 (.slice (some ⟨w2.heap.size, 0, none⟩) 2 2) 2 (strVs [⟨#[98]⟩, ⟨#[97]⟩])) := World.ownsRow_lit w2 #[.string ⟨#[98]⟩, .string ⟨#[97]⟩] 2 (by have := hB2.out; omega) (by decide) rfl
    have K3 : Hid (keptF lo w (w2.alloc (.cells #[.string ⟨#[98]⟩, .string ⟨#[97]⟩] 9))) := K2.out.trans (keptF.below (below_alloc _ _))
    have HF : ∀ wf, OutS [w.heap.size, w.heap.size + 1] (w2.alloc (.cells #[.string ⟨#[98]⟩, .string ⟨#[97]⟩] 9)) wf → Hid (drWX wf lo X (z, T, [⟨#[98]⟩, ⟨#[97]⟩], L) a1 (some ⟨w2.heap.size, 0, none⟩) a3 p1 2 p3) ∧ Hid (CurIn wf d a n cap) ∧ Hid (Out d (d + 1) w wf) := fun wf ho => by
      have k0 : keptF lo w wf := keptF.outS K3.out ho (fun t ht => .inr (by simp at ht; omega))
      have kn : keptF (w.heap.size + 2) (w2.alloc (.cells #[.string ⟨#[98]⟩, .string ⟨#[97]⟩] 9)) wf := keptF.outS ⟨Nat.le_refl _, fun _ _ _ => rfl⟩ ho (fun t ht => .inl (by simp at ht; omega))
      refine ⟨fun wg hg => ?_, CurIn.farW (HC2.out.later (below_alloc _ _)) ho (B := w.heap.size) Hd.out Hall.out (fun t ht => by simp at ht; omega), Out.outW (O2.out.trans (Out.of_below (below_alloc _ _))) ho (fun t ht => by simp at ht; omega)⟩
      have k9 : keptX lo X w wg := k0.toX.trans hg
      have kn := kn.trans (hg.toF (show lo ≤ w.heap.size + 2 by have := Hlo.out; omega) (by have := Hlo.out; omega))
      have HR9 := HR.out wg k9
      exact ⟨HR9.sel, owns_mono (owns_kept HV.out kn) (by have := Hlo.out; omega), HR9.weighs⟩
    have b0 := OBk.out.cell 0 _ rfl
    have b1 := OBk.out.cell 1 _ rfl
    have b2 := OBk.out.cell 2 _ rfl
    have b3 := OBk.out.cell 3 _ rfl
    have e0 := OBk.out.fz 0
    have e1 := OBk.out.fz 1
    have e2 := OBk.out.fz 2
    have e3 := OBk.out.fz 3
    have r0 := OZk.out.cell 0 _ rfl
    have r1 := OZk.out.cell 1 _ rfl
    have r2 := OZk.out.cell 2 _ rfl
    have r3 := OZk.out.cell 3 _ rfl
    have f0 := OZk.out.fz 0
    have f1 := OZk.out.fz 1
    have f2 := OZk.out.fz 2
    have f3 := OZk.out.fz 3
    clear OBk OZk HV
    go_wp2
    refine bodyPost_ret (v := .agg #[.int .i64 z, .slice a1 T.length p1, .slice (some ⟨w2.heap.size, 0, none⟩) 2 2, .slice a3 L.length p3]) (by simp [results, Try.results100, go_sem, b0, b1, b2, b3, r0, r1, r2, r3]) rfl ⟨(z, T, [⟨#[98]⟩, ⟨#[97]⟩], L), a1, some ⟨w2.heap.size, 0, none⟩, a3, p1, 2, p3, rfl, HG, HF _ ?_⟩
    repeat (first | with_reducible exact OutS.refl _ _ | with_reducible refine OutS.setCell ?_ (by simp) _ | with_reducible exact HA.out)
  · have HE := hide elW
    have HX : Hid (rdR (w2.alloc (.cells #[] 110)) 2 (.slice a3 L.length p3) (L.map encW)) := ((HR.out w2 K2.out.toX).wrow.below (below_alloc _ _)).rd (by decide)
    have HL0 : Hid (ownR (w2.alloc (.cells #[] 110)) (w.heap.size + 2) 110 2 (.slice (some ⟨w2.heap.size, 0, none⟩) 0 0) []) := ⟨(fun r hr => by cases hr), World.ownsRow_lit w2 #[] 0 (by have := hB2.out; omega) (by decide) (by simp)⟩
    have OB3 := hide (OB2.out.old (.cells #[] 110))
    have OZ3 := hide (OZ2.out.old (.cells #[] 110))
    have C3 := hide (HC2.out.later (below_alloc w2 (.cells #[] 110)))
    have K3 : Hid (keptF lo w (w2.alloc (.cells #[] 110))) := K2.out.trans (keptF.below (below_alloc _ _))
    have O3 : Hid (Out d (d + 1) w (w2.alloc (.cells #[] 110))) := O2.out.trans (Out.of_below (below_alloc _ _))
    have HS3 : Hid (w.heap.size + 2 ≤ (w2.alloc (.cells #[] 110)).heap.size ∧ L.length ≤ 4) := ⟨by have := hB2.out; simp; omega, HWd.out.2⟩
    have b3 := OB3.out.cell 3 _ rfl
    go_wp2_with (at_builtin; refine wpList_append_rd rfl _ _ 39 rfl 110 2 HE.out (by decide) (w.heap.size + 2) _ _ rfl HL0.out _ _ rfl HX.out (rowsW _) (oneW _) (by have := HS3.out.2; simp; omega) HS3.out.1 ?_)
    intro v4 w4 ho4 hg4 ha4
    have hos4 : OutS [w2.heap.size] (w2.alloc (.cells #[] 110)) w4 := (grown_outW hg4).wideW (fun t ht => by rw [blk_own] at ht; simp [Value.ownBlock] at ht; simp [ht])
    have OB4 := hide (OB3.out.outS hos4 (by have := hB2.out; simp; omega))
    have OZ4 := hide (OZ3.out.outS hos4 (by have := hB2.out; simp; omega))
    have C4 := hide (C3.out.farW hos4 (B := w.heap.size) Hd.out Hall.out (fun t ht => by have := hB2.out; simp at ht; omega))
    have K4 : Hid (keptF lo w w4) := K3.out.outS hos4 (fun t ht => .inr (by have := hB2.out; simp at ht; omega))
    have O4 : Hid (Out d (d + 1) w w4) := O3.out.outW hos4 (fun t ht => by have := hB2.out; simp at ht; omega)
    have R4 := hide ho4
    have S4 : Hid (w.heap.size + 2 ≤ w4.heap.size) := Nat.le_trans HS3.out.1 hos4.size
    clear hos4 hg4 ha4 ho4 OB3 OZ3 C3 K3 O3 HX HL0 HC2 OB2 OZ2 K2 O2 b3
    go_wp2_with fail
    refine (l1NameAny_any d n cap a _ hn C4.out).mono ?_
    rintro e w5 ⟨s, hs, rfl, HC5, ho5⟩
    have OB5 := hide (objU_out OB4.out ho5 Hd.out)
    have OZ5 := hide (objU_out OZ4.out ho5 (by have := Hd.out; omega))
    have K5 : Hid (keptF lo w w5) := K4.out.trans (keptF.out ho5 Hlo.out.1)
    have O5 : Hid (Out d (d + 1) w w5) := O4.out.trans ho5
    have R5 := hide (R4.out.frame (fun g hg => ho5.block g (R4.out.lt g hg).2 (.inr (by have := (R4.out.lt g hg).1; have := Hd.out; omega))))
    have S5 : Hid (w.heap.size + 2 ≤ w5.heap.size) := Nat.le_trans S4.out ho5.size
    have hss := names_small s hs
    clear ho5 OB4 OZ4 C4 K4 O4 R4 S4 hs
    have HI : Hid (∀ wx, wx = w5.alloc (.cells #[.int .i64 1, .int .i64 (-1), .int .i64 1001] 3) → Calls Try.prog 173 #[.pointer (some ⟨d, 0, none⟩), .slice (some ⟨w5.heap.size, 0, none⟩) 3 3] wx fun e w' => ∃ x : Int, x ∈ [1, -1, 1001] ∧ e = .returned (.int .i64 x) ∧ Hid (CurIn w' d a n cap) ∧ Hid (Out d (d + 1) wx w')) := fun wx e => by
      subst e
      refine (l1Int_at d n cap w5.heap.size a [1, -1, 1001] _ hn (by decide) (by decide) (fun j hj => ?_) (by have := Hd.out; have := S5.out; omega) (HC5.out.later (below_alloc _ _))).mono (fun e w' ⟨x, h1, h2, h3, h4⟩ => ⟨x, h1, h2, h3, h4⟩)
      have hj8 : j < 3 := hj
      rcases (show j = 0 ∨ j = 1 ∨ j = 2 by omega) with rfl | rfl | rfl <;> exact (World.cell?_alloc_at _ _ _ _ rfl).trans rfl
    go_wp2_with fail
    refine (HI.out _ rfl).mono ?_
    rintro e w6 ⟨y, hy, rfl, HC6, ho6⟩
    have hyk : inK .i64 y := by simp at hy; unfold inK; omega
    have OB6 := hide (objU_out (OB5.out.old _) ho6.out Hd.out)
    have OZ6 := hide (objU_out (OZ5.out.old _) ho6.out (by have := Hd.out; omega))
    have K6 : Hid (keptF lo w w6) := (K5.out.trans (keptF.below (below_alloc _ _))).trans (keptF.out ho6.out Hlo.out.1)
    have O6 : Hid (Out d (d + 1) w w6) := (O5.out.trans (Out.of_below (below_alloc _ _))).trans ho6.out
    have R6 := hide ((R5.out.below (below_alloc _ _)).frame (fun g hg => ho6.out.block g ((R5.out.below (below_alloc _ _)).lt g hg).2 (.inr (by have := (R5.out.lt g hg).1; have := Hd.out; omega))))
    have S6 : Hid (w.heap.size + 2 ≤ w6.heap.size) := Nat.le_trans S5.out (Nat.le_trans (below_alloc w5 _).size ho6.out.size)
    clear ho6 HI HC5 OB5 OZ5 K5 O5 R5 S5 hy
    have R7 := hide (R6.out.below (below_alloc w6 (.cells #[.string s, .int .i64 y] 110)))
    have N7 : Hid (objU (w6.alloc (.cells #[.string s, .int .i64 y] 110)) w6.heap.size 110 [.string s, .int .i64 y]) := objU.new _ _ _
    have OB7 := hide (OB6.out.old (.cells #[.string s, .int .i64 y] 110))
    have OZ7 := hide (OZ6.out.old (.cells #[.string s, .int .i64 y] 110))
    have C7 := hide (HC6.out.later (below_alloc w6 (.cells #[.string s, .int .i64 y] 110)))
    have K7 : Hid (keptF lo w (w6.alloc (.cells #[.string s, .int .i64 y] 110))) := K6.out.trans (keptF.below (below_alloc _ _))
    have O7 : Hid (Out d (d + 1) w (w6.alloc (.cells #[.string s, .int .i64 y] 110))) := O6.out.trans (Out.of_below (below_alloc _ _))
    have S7 : Hid (w.heap.size + 2 ≤ (w6.alloc (.cells #[.string s, .int .i64 y] 110)).heap.size) := Nat.le_trans S6.out (below_alloc _ _).size
    have HLE : Hid (L.length ≤ 4) := HS3.out.2
    clear R6 OB6 OZ6 HC6 K6 O6 S6 HS3
    go_wp2_with (at_builtin; refine wpList_append_rd rfl _ _ 39 rfl 110 2 HE.out (by decide) (w.heap.size + 2) _ _ rfl R7.out _ _ rfl (rdR.one N7.out) (rowsW [(s, y)]) (oneW [(s, y)]) (by have := HLE.out; simp; omega) S7.out ?_)
    intro v8 w8 ho8 hg8 ha8
    obtain ⟨a8, p8, rfl⟩ := ho8.slice
    have hb8 : ∀ t ∈ blkOf v4, w.heap.size + 2 ≤ t := fun t ht => (R7.out.lt t ht).1
    have hos8 := grown_outW hg8
    have OBk := hide (OB7.out.outS hos8 (fun hh => by have := hb8 _ hh; omega))
    have OZk := hide (OZ7.out.outS hos8 (fun hh => by have := hb8 _ hh; omega))
    have C8 := hide (C7.out.farW hos8 (B := w.heap.size) Hd.out Hall.out (fun t ht => by have := hb8 t ht; omega))
    have K3 : Hid (keptF lo w w8) := K7.out.outS hos8 (fun t ht => .inr (by have := hb8 t ht; omega))
    have O8 : Hid (Out d (d + 1) w w8) := O7.out.outW hos8 (fun t ht => by have := hb8 t ht; omega)
    have e8 : L.map encW ++ [[.string s, .int .i64 y]] = (L ++ [(s, y)]).map encW := by simp [encW]
    rw [e8, List.length_map] at ho8 ⊢
    have R8 := hide ho8
    have HG : Hid (goodW (z, T, S, L ++ [(s, y)]) ∧ (L ++ [(s, y)]).length ≤ 5) := ⟨⟨HWd.out.1.1, HWd.out.1.2.1, HWd.out.1.2.2.1, by have := HLE.out; show (L ++ [(s, y)]).length ≤ 5; simp; omega, fun q hq => by
      rcases List.mem_append.1 hq with hq | hq
      · exact HWd.out.1.2.2.2.2 q hq
      · rw [List.mem_singleton.1 hq]; exact ⟨hss, hyk⟩⟩, by have := HLE.out; simp; omega⟩
    have HF : ∀ wf, OutS [w.heap.size, w.heap.size + 1] w8 wf → Hid (drWX wf lo X (z, T, S, L ++ [(s, y)]) a1 a2 a8 p1 p2 p8) ∧ Hid (CurIn wf d a n cap) ∧ Hid (Out d (d + 1) w wf) := fun wf ho => by
      have k0 : keptF lo w wf := keptF.outS K3.out ho (fun t ht => .inr (by simp at ht; omega))
      have kn : keptF (w.heap.size + 2) w8 wf := keptF.outS ⟨Nat.le_refl _, fun _ _ _ => rfl⟩ ho (fun t ht => .inl (by simp at ht; omega))
      refine ⟨fun wg hg => ?_, CurIn.farW C8.out ho (B := w.heap.size) Hd.out Hall.out (fun t ht => by simp at ht; omega), Out.outW O8.out ho (fun t ht => by simp at ht; omega)⟩
      have k9 : keptX lo X w wg := k0.toX.trans hg
      have kn := kn.trans (hg.toF (show lo ≤ w.heap.size + 2 by have := Hlo.out; omega) (by have := Hlo.out; omega))
      have HR9 := HR.out wg k9
      exact ⟨HR9.sel, HR9.bears, by have h := ((R8.out.mono (base' := w.heap.size + 2) (Nat.le_refl _))).2; rw [encW_flat, List.length_map] at h; exact owns_mono (owns_kept h kn) (by have := Hlo.out; omega)⟩
    clear hos8 hg8 ha8 ho8 OB7 OZ7 C7 K7 O7 R7 N7 hb8 C8 O8 S7 R8 e8
    have b0 := OBk.out.cell 0 _ rfl
    have b1 := OBk.out.cell 1 _ rfl
    have b2 := OBk.out.cell 2 _ rfl
    have b3 := OBk.out.cell 3 _ rfl
    have e0 := OBk.out.fz 0
    have e1 := OBk.out.fz 1
    have e2 := OBk.out.fz 2
    have e3 := OBk.out.fz 3
    have r0 := OZk.out.cell 0 _ rfl
    have r1 := OZk.out.cell 1 _ rfl
    have r2 := OZk.out.cell 2 _ rfl
    have r3 := OZk.out.cell 3 _ rfl
    have f0 := OZk.out.fz 0
    have f1 := OZk.out.fz 1
    have f2 := OZk.out.fz 2
    have f3 := OZk.out.fz 3
    clear OBk OZk
    go_wp2
    refine bodyPost_ret (v := .agg #[.int .i64 z, .slice a1 T.length p1, .slice a2 S.length p2, .slice a8 (L ++ [(s, y)]).length p8]) (by simp [results, Try.results100, go_sem, b0, b1, b2, b3, r0, r1, r2, r3]) rfl ⟨(z, T, S, L ++ [(s, y)]), a1, a2, a8, p1, p2, p8, rfl, HG, HF _ ?_⟩
    repeat (first | with_reducible exact OutS.refl _ _ | with_reducible refine OutS.setCell ?_ (by simp) _ | with_reducible exact HA.out)
  · go_wp2_with fail
    refine (l2DrawAny_any d n cap a _ hn HC2.out).mono ?_
    rintro e w3 ⟨T', g, c, rfl, HT, HO, HC3, ho3⟩
    have K3 : Hid (keptF lo w w3) := K2.out.trans (keptF.out ho3.out Hlo.out.1)
    have O3 : Hid (Out d (d + 1) w w3) := O2.out.trans ho3.out
    have OBk := hide (objU_out OB2.out ho3.out Hd.out)
    have OZk := hide (objU_out OZ2.out ho3.out (by have := Hd.out; omega))
    have HG : Hid (goodW (z, T', S, L) ∧ L.length ≤ 5) := ⟨⟨HWd.out.1.1, HT.out, HWd.out.1.2.2⟩, Nat.le_trans HWd.out.2 (by decide)⟩
    have HO' : Hid (ownTs w3 (w.heap.size + 2) g c T') := ownTs_monoW HO.out (by have := hB2.out; omega)
    have HF : ∀ wf, OutS [w.heap.size, w.heap.size + 1] w3 wf → Hid (drWX wf lo X (z, T', S, L) (some ⟨g, 0, none⟩) a2 a3 c p2 p3) ∧ Hid (CurIn wf d a n cap) ∧ Hid (Out d (d + 1) w wf) := fun wf ho => by
      have k0 : keptF lo w wf := keptF.outS K3.out ho (fun t ht => .inr (by simp at ht; omega))
      have kn : keptF (w.heap.size + 2) w3 wf := keptF.outS ⟨Nat.le_refl _, fun _ _ _ => rfl⟩ ho (fun t ht => .inl (by simp at ht; omega))
      refine ⟨fun wg hg => ?_, CurIn.farW HC3.out ho (B := w.heap.size) Hd.out Hall.out (fun t ht => by simp at ht; omega), Out.outW O3.out ho (fun t ht => by simp at ht; omega)⟩
      have k9 : keptX lo X w wg := k0.toX.trans hg
      have kn := kn.trans (hg.toF (show lo ≤ w.heap.size + 2 by have := Hlo.out; omega) (by have := Hlo.out; omega))
      have HR9 := HR.out wg k9
      exact ⟨.inr ⟨g, rfl, ownTs_monoW (ownTs_kept HO'.out kn) (by have := Hlo.out; omega)⟩, HR9.bears, HR9.weighs⟩
    clear HC2 HC3 ho3 O2 K2 OB2 OZ2 HO HT
    have b0 := OBk.out.cell 0 _ rfl
    have b1 := OBk.out.cell 1 _ rfl
    have b2 := OBk.out.cell 2 _ rfl
    have b3 := OBk.out.cell 3 _ rfl
    have e0 := OBk.out.fz 0
    have e1 := OBk.out.fz 1
    have e2 := OBk.out.fz 2
    have e3 := OBk.out.fz 3
    have r0 := OZk.out.cell 0 _ rfl
    have r1 := OZk.out.cell 1 _ rfl
    have r2 := OZk.out.cell 2 _ rfl
    have r3 := OZk.out.cell 3 _ rfl
    have f0 := OZk.out.fz 0
    have f1 := OZk.out.fz 1
    have f2 := OZk.out.fz 2
    have f3 := OZk.out.fz 3
    clear OBk OZk HO'
    go_wp2
    refine bodyPost_ret (v := .agg #[.int .i64 z, (.slice (some ⟨g, 0, none⟩) T'.length c), .slice a2 S.length p2, .slice a3 L.length p3]) (by simp [results, Try.results100, go_sem, b0, b1, b2, b3, r0, r1, r2, r3]) rfl ⟨(z, T', S, L), some ⟨g, 0, none⟩, a2, a3, c, p2, p3, rfl, HG, HF _ ?_⟩
    repeat (first | with_reducible exact OutS.refl _ _ | with_reducible refine OutS.setCell ?_ (by simp) _ | with_reducible exact HA.out)
  · have HG : Hid (goodW (z, T, S, L) ∧ L.length ≤ 5) := ⟨HWd.out.1, Nat.le_trans HWd.out.2 (by decide)⟩
    have HF : ∀ wf, OutS [w.heap.size, w.heap.size + 1] w2 wf → Hid (drWX wf lo X (z, T, S, L) a1 a2 a3 p1 p2 p3) ∧ Hid (CurIn wf d a n cap) ∧ Hid (Out d (d + 1) w wf) := fun wf ho => by
      have k0 : keptF lo w wf := keptF.outS K2.out ho (fun t ht => .inr (by simp at ht; omega))
      have kn : keptF (w.heap.size + 2) w2 wf := keptF.outS ⟨Nat.le_refl _, fun _ _ _ => rfl⟩ ho (fun t ht => .inl (by simp at ht; omega))
      refine ⟨fun wg hg => ?_, CurIn.farW HC2.out ho (B := w.heap.size) Hd.out Hall.out (fun t ht => by simp at ht; omega), Out.outW O2.out ho (fun t ht => by simp at ht; omega)⟩
      have k9 : keptX lo X w wg := k0.toX.trans hg
      have kn := kn.trans (hg.toF (show lo ≤ w.heap.size + 2 by have := Hlo.out; omega) (by have := Hlo.out; omega))
      have HR9 := HR.out wg k9
      exact HR9
    have b0 := OB2.out.cell 0 _ rfl
    have b1 := OB2.out.cell 1 _ rfl
    have b2 := OB2.out.cell 2 _ rfl
    have b3 := OB2.out.cell 3 _ rfl
    have e0 := OB2.out.fz 0
    have e1 := OB2.out.fz 1
    have e2 := OB2.out.fz 2
    have e3 := OB2.out.fz 3
    have r0 := OZ2.out.cell 0 _ rfl
    have r1 := OZ2.out.cell 1 _ rfl
    have r2 := OZ2.out.cell 2 _ rfl
    have r3 := OZ2.out.cell 3 _ rfl
    have f0 := OZ2.out.fz 0
    have f1 := OZ2.out.fz 1
    have f2 := OZ2.out.fz 2
    have f3 := OZ2.out.fz 3
    clear OB2 OZ2
    go_wp2
    refine bodyPost_ret (v := .agg #[.int .i64 z, .slice a1 T.length p1, .slice a2 S.length p2, .slice a3 L.length p3]) (by simp [results, Try.results100, go_sem, b0, b1, b2, b3, r0, r1, r2, r3]) rfl ⟨(z, T, S, L), a1, a2, a3, p1, p2, p3, rfl, HG, HF _ ?_⟩
    repeat (first | with_reducible exact OutS.refl _ _ | with_reducible refine OutS.setCell ?_ (by simp) _ | with_reducible exact HA.out)
  · have HG : Hid (goodW (z, T, S, L) ∧ L.length ≤ 5) := ⟨HWd.out.1, Nat.le_trans HWd.out.2 (by decide)⟩
    have HF : ∀ wf, OutS [w.heap.size, w.heap.size + 1] w2 wf → Hid (drWX wf lo X (z, T, S, L) a1 a2 a3 p1 p2 p3) ∧ Hid (CurIn wf d a n cap) ∧ Hid (Out d (d + 1) w wf) := fun wf ho => by
      have k0 : keptF lo w wf := keptF.outS K2.out ho (fun t ht => .inr (by simp at ht; omega))
      have kn : keptF (w.heap.size + 2) w2 wf := keptF.outS ⟨Nat.le_refl _, fun _ _ _ => rfl⟩ ho (fun t ht => .inl (by simp at ht; omega))
      refine ⟨fun wg hg => ?_, CurIn.farW HC2.out ho (B := w.heap.size) Hd.out Hall.out (fun t ht => by simp at ht; omega), Out.outW O2.out ho (fun t ht => by simp at ht; omega)⟩
      have k9 : keptX lo X w wg := k0.toX.trans hg
      have kn := kn.trans (hg.toF (show lo ≤ w.heap.size + 2 by have := Hlo.out; omega) (by have := Hlo.out; omega))
      have HR9 := HR.out wg k9
      exact HR9
    have b0 := OB2.out.cell 0 _ rfl
    have b1 := OB2.out.cell 1 _ rfl
    have b2 := OB2.out.cell 2 _ rfl
    have b3 := OB2.out.cell 3 _ rfl
    have e0 := OB2.out.fz 0
    have e1 := OB2.out.fz 1
    have e2 := OB2.out.fz 2
    have e3 := OB2.out.fz 3
    have r0 := OZ2.out.cell 0 _ rfl
    have r1 := OZ2.out.cell 1 _ rfl
    have r2 := OZ2.out.cell 2 _ rfl
    have r3 := OZ2.out.cell 3 _ rfl
    have f0 := OZ2.out.fz 0
    have f1 := OZ2.out.fz 1
    have f2 := OZ2.out.fz 2
    have f3 := OZ2.out.fz 3
    clear OB2 OZ2
    go_wp2
    refine bodyPost_ret (v := .agg #[.int .i64 z, .slice a1 T.length p1, .slice a2 S.length p2, .slice a3 L.length p3]) (by simp [results, Try.results100, go_sem, b0, b1, b2, b3, r0, r1, r2, r3]) rfl ⟨(z, T, S, L), a1, a2, a3, p1, p2, p3, rfl, HG, HF _ ?_⟩
    repeat (first | with_reducible exact OutS.refl _ _ | with_reducible refine OutS.setCell ?_ (by simp) _ | with_reducible exact HA.out)
  · have HG : Hid (goodW (z, T, S, L) ∧ L.length ≤ 5) := ⟨HWd.out.1, Nat.le_trans HWd.out.2 (by decide)⟩
    have HF : ∀ wf, OutS [w.heap.size, w.heap.size + 1] w2 wf → Hid (drWX wf lo X (z, T, S, L) a1 a2 a3 p1 p2 p3) ∧ Hid (CurIn wf d a n cap) ∧ Hid (Out d (d + 1) w wf) := fun wf ho => by
      have k0 : keptF lo w wf := keptF.outS K2.out ho (fun t ht => .inr (by simp at ht; omega))
      have kn : keptF (w.heap.size + 2) w2 wf := keptF.outS ⟨Nat.le_refl _, fun _ _ _ => rfl⟩ ho (fun t ht => .inl (by simp at ht; omega))
      refine ⟨fun wg hg => ?_, CurIn.farW HC2.out ho (B := w.heap.size) Hd.out Hall.out (fun t ht => by simp at ht; omega), Out.outW O2.out ho (fun t ht => by simp at ht; omega)⟩
      have k9 : keptX lo X w wg := k0.toX.trans hg
      have kn := kn.trans (hg.toF (show lo ≤ w.heap.size + 2 by have := Hlo.out; omega) (by have := Hlo.out; omega))
      have HR9 := HR.out wg k9
      exact HR9
    have b0 := OB2.out.cell 0 _ rfl
    have b1 := OB2.out.cell 1 _ rfl
    have b2 := OB2.out.cell 2 _ rfl
    have b3 := OB2.out.cell 3 _ rfl
    have e0 := OB2.out.fz 0
    have e1 := OB2.out.fz 1
    have e2 := OB2.out.fz 2
    have e3 := OB2.out.fz 3
    have r0 := OZ2.out.cell 0 _ rfl
    have r1 := OZ2.out.cell 1 _ rfl
    have r2 := OZ2.out.cell 2 _ rfl
    have r3 := OZ2.out.cell 3 _ rfl
    have f0 := OZ2.out.fz 0
    have f1 := OZ2.out.fz 1
    have f2 := OZ2.out.fz 2
    have f3 := OZ2.out.fz 3
    clear OB2 OZ2
    go_wp2
    refine bodyPost_ret (v := .agg #[.int .i64 z, .slice a1 T.length p1, .slice a2 S.length p2, .slice a3 L.length p3]) (by simp [results, Try.results100, go_sem, b0, b1, b2, b3, r0, r1, r2, r3]) rfl ⟨(z, T, S, L), a1, a2, a3, p1, p2, p3, rfl, HG, HF _ ?_⟩
    repeat (first | with_reducible exact OutS.refl _ _ | with_reducible refine OutS.setCell ?_ (by simp) _ | with_reducible exact HA.out)
  · have HG : Hid (goodW (z, T, S, L) ∧ L.length ≤ 5) := ⟨HWd.out.1, Nat.le_trans HWd.out.2 (by decide)⟩
    have HF : ∀ wf, OutS [w.heap.size, w.heap.size + 1] w2 wf → Hid (drWX wf lo X (z, T, S, L) a1 a2 a3 p1 p2 p3) ∧ Hid (CurIn wf d a n cap) ∧ Hid (Out d (d + 1) w wf) := fun wf ho => by
      have k0 : keptF lo w wf := keptF.outS K2.out ho (fun t ht => .inr (by simp at ht; omega))
      have kn : keptF (w.heap.size + 2) w2 wf := keptF.outS ⟨Nat.le_refl _, fun _ _ _ => rfl⟩ ho (fun t ht => .inl (by simp at ht; omega))
      refine ⟨fun wg hg => ?_, CurIn.farW HC2.out ho (B := w.heap.size) Hd.out Hall.out (fun t ht => by simp at ht; omega), Out.outW O2.out ho (fun t ht => by simp at ht; omega)⟩
      have k9 : keptX lo X w wg := k0.toX.trans hg
      have kn := kn.trans (hg.toF (show lo ≤ w.heap.size + 2 by have := Hlo.out; omega) (by have := Hlo.out; omega))
      have HR9 := HR.out wg k9
      exact HR9
    have b0 := OB2.out.cell 0 _ rfl
    have b1 := OB2.out.cell 1 _ rfl
    have b2 := OB2.out.cell 2 _ rfl
    have b3 := OB2.out.cell 3 _ rfl
    have e0 := OB2.out.fz 0
    have e1 := OB2.out.fz 1
    have e2 := OB2.out.fz 2
    have e3 := OB2.out.fz 3
    have r0 := OZ2.out.cell 0 _ rfl
    have r1 := OZ2.out.cell 1 _ rfl
    have r2 := OZ2.out.cell 2 _ rfl
    have r3 := OZ2.out.cell 3 _ rfl
    have f0 := OZ2.out.fz 0
    have f1 := OZ2.out.fz 1
    have f2 := OZ2.out.fz 2
    have f3 := OZ2.out.fz 3
    clear OB2 OZ2
    go_wp2
    refine bodyPost_ret (v := .agg #[.int .i64 z, .slice a1 T.length p1, .slice a2 S.length p2, .slice a3 L.length p3]) (by simp [results, Try.results100, go_sem, b0, b1, b2, b3, r0, r1, r2, r3]) rfl ⟨(z, T, S, L), a1, a2, a3, p1, p2, p3, rfl, HG, HF _ ?_⟩
    repeat (first | with_reducible exact OutS.refl _ _ | with_reducible refine OutS.setCell ?_ (by simp) _ | with_reducible exact HA.out)
end Go.Proofs.Ytdnodaoeflbfkaa
namespace Go.Proofs.Ytdnodaoeflbfkaa
open Go.RowKit Go.BigFrame
set_option linter.unusedVariables false
/-- the bytes of a code, wherever they lie -/
def codeAll (w : World) (a : Option Addr) (n : Nat) : Prop := ∀ j, j < n → ∃ b off x, a = some ⟨b, off, none⟩ ∧ w.cell? ⟨b, off + j, none⟩ = some (.int .u8 x) ∧ 0 ≤ x ∧ x < 256
theorem codeAll.later {w w' : World} {a : Option Addr} {n : Nat} (h : codeAll w a n) (hb : Below w.heap.size w w') : codeAll w' a n := fun j hj => by
  obtain ⟨b, off, x, h1, h2, h3⟩ := h j hj
  exact ⟨b, off, x, h1, (hb.cell (p := ⟨b, off + j, none⟩) (World.block_lt_of_cell? _ _ h2)).trans h2, h3⟩
theorem codeAll.at {w : World} {a : Option Addr} {n : Nat} (h : codeAll w a n) : codeAt w a n w.heap.size := fun j hj => by
  obtain ⟨b, off, x, h1, h2, h3⟩ := h j hj
  exact ⟨b, off, x, h1, Nat.ne_of_lt (World.block_lt_of_cell? _ _ h2), h2, h3⟩
theorem open_code {H : Type} {enc : TypeId × Value → H} {w : World} {base : Nat} {spare : Nat → Bool} {held : Bool} {a : Option Addr} {len cap : Nat} {fuel : Nat} {x : DataW H × List MemPlace}
    (h : DataW.trod enc Try.prog w base spare held fuel 71 [.slice a len cap] = some x) : codeAll w a len ∧ len ≤ maxLen := by
  rcases Go.ChangeShapes.open_ints Try.underlying71 Try.underlying5 (by kernel_rfl) h with ⟨hcs, _⟩ | ⟨a', len', cap', zs, hcs, _, hl, hm, hz, _, hcell, hwf⟩
  · simp at hcs
    obtain ⟨rfl, rfl, rfl⟩ := hcs
    exact ⟨fun j hj => by omega, Nat.zero_le _⟩
  · simp at hcs
    obtain ⟨rfl, rfl, rfl⟩ := hcs
    refine ⟨fun j hj => ?_, Nat.le_trans hl hm⟩
    have hj' : j < zs.length := by rw [hz]; split <;> omega
    have hc := hcell j hj'
    have hmem : zs.getD j 0 ∈ zs := by rw [List.getD_eq_getElem?_getD, List.getElem?_eq_getElem hj']; exact List.getElem_mem hj'
    have hw := hwf _ hmem
    obtain ⟨b, off, sp⟩ := a'
    have h0 := hcell 0 (by omega)
    rw [show (⟨b, off, sp⟩ : Addr).add 0 = ⟨b, off, sp⟩ by unfold Addr.add; rw [if_pos rfl]] at h0
    obtain rfl : sp = none := cell_spot h0
    rw [Lib.add_plain] at hc
    have hw2 : 0 ≤ zs.getD j 0 ∧ zs.getD j 0 ≤ 255 := by simpa [Lit.wf, IntKind.min, IntKind.max, IntKind.signed, IntKind.bits] using hw
    exact ⟨b, off, zs.getD j 0, rfl, hc, hw2.1, by omega⟩
end Go.Proofs.Ytdnodaoeflbfkaa
/- Wants and islands that are drawn: spec.DrawEligible. -/
namespace Go.Proofs.Ytdnodaoeflbfkaa
open Go.RowKit Go.BigFrame
set_option linter.unusedVariables false
set_option linter.unusedSimpArgs false

/-- an island that is drawn -/
def goodIs (I : IsD) : Prop := I.1.size ≤ 25 ∧ (I.2.1.length ≤ 8 ∧ smallL I.2.1) ∧ (I.2.2.1.length ≤ 1 ∧ ∀ x ∈ I.2.2.1, x.size ≤ 25) ∧ inK .i64 I.2.2.2
theorem goodIs.ok {I : IsD} (h : goodIs I) : okIs1 I := by
  obtain ⟨h1, ⟨h2, h3⟩, ⟨h4, h5⟩, h6⟩ := h
  have hm : 1000 ≤ maxLen := by unfold maxLen; omega
  exact ⟨by omega, ⟨by omega, fun p hp => ⟨by have := (h3 p hp).1; omega, by have := (h3 p hp).2; omega⟩⟩, ⟨by omega, fun x hx => by have := h5 x hx; omega⟩, h6⟩
structure isR (w : World) (lo : Nat) (I : IsD) (g c : Nat) (b2 : Option Addr) (q2 : Nat) : Prop where
  labs : w.ownsRow lo 212 2 (.slice (some ⟨g, 0, none⟩) I.2.1.length c) I.2.1.length (flat I.2.1)
  spots : w.ownsRow lo 9 1 (.slice b2 I.2.2.1.length q2) I.2.2.1.length (strVs I.2.2.1)
theorem isR.kept {w w' : World} {lo : Nat} {I : IsD} {g c : Nat} {b2 : Option Addr} {q2 : Nat} (h : isR w lo I g c b2 q2) (hk : keptF lo w w') : isR w' lo I g c b2 q2 := ⟨owns_kept h.labs hk, owns_kept h.spots hk⟩
theorem isR.hand {w : World} {lo : Nat} {I : IsD} {g c : Nat} {b2 : Option Addr} {q2 : Nat} (h : isR w lo I g c b2 q2) : isH w I [.string I.1, .slice (some ⟨g, 0, none⟩) I.2.1.length c, .slice b2 I.2.2.1.length q2, .int .i64 I.2.2.2] := by
  refine ⟨_, _, rfl, ⟨_, _, rfl, fun _ => ⟨g, 0, rfl, labs_of_owns' h.labs⟩⟩, _, _, rfl, ?_⟩
  obtain ⟨a, cap, e, h1, _⟩ := strOf_own h.spots rfl
  cases e
  exact h1
theorem CurIn.outSW {w w' : World} {d : Nat} {a : Option Addr} {n cap : Nat} {T : List Nat} (c : CurIn w d a n cap) (ho : OutS T w w') (hd : d ∉ T) (hall : ∀ j, j < n → ∀ b off, a = some ⟨b, off, none⟩ → b ∉ T) : CurIn w' d a n cap := by
  have hlt := c.lt
  obtain ⟨i, h, c⟩ := c
  refine ⟨i, h, c.le, ?_, ?_, ?_, ?_, ?_, ?_⟩
  · exact (World.cell?_of_block (w := w) (a := ⟨d, 0, none⟩) (ho.block d hlt hd)).trans c.c0
  · exact (World.cell?_of_block (w := w) (a := ⟨d, 1, none⟩) (ho.block d hlt hd)).trans c.c1
  · exact (World.cell?_of_block (w := w) (a := ⟨d, 2, none⟩) (ho.block d hlt hd)).trans c.c2
  · exact (World.frozen?_of_block (w := w) (a := ⟨d, 1, none⟩) (ho.block d hlt hd)).trans c.f1
  · exact (World.frozen?_of_block (w := w) (a := ⟨d, 2, none⟩) (ho.block d hlt hd)).trans c.f2
  · intro j hj
    obtain ⟨b, off, x, h1, h2, h3, h4⟩ := c.code j hj
    exact ⟨b, off, x, h1, h2, (World.cell?_of_block (w := w) (a := ⟨b, off + j, none⟩) (ho.block b (World.block_lt_of_cell? _ _ h3) (hall j hj b off h1))).trans h3, h4⟩
/-- what is known throughout: N, N + 1 the blocks of the answers -/
structure EG (w : World) (d n cap : Nat) (a : Option Addr) (wn : World) : Prop where
  cur : CurIn wn d a n cap
  bel : Below w.heap.size w wn
  oz : ∃ x0 x1 x2 x3, objU wn w.heap.size 41 [x0, x1, x2, x3]
  oy : ∃ x0 x1 x2 x3, objU wn (w.heap.size + 1) 54 [x0, x1, x2, x3]
  dl : w.heap.size + 1 < d
  all : ∀ j, j < n → ∀ b off, a = some ⟨b, off, none⟩ → b < w.heap.size
theorem EG.below {w wn wm : World} {d n cap : Nat} {a : Option Addr} (h : EG w d n cap a wn) (hb : Below wn.heap.size wn wm) : EG w d n cap a wm := by
  obtain ⟨h1, h2, ⟨x0, x1, x2, x3, h3⟩, ⟨y0, y1, y2, y3, h4⟩, h5, h6⟩ := h
  exact ⟨h1.later hb, h2.trans (hb.mono h2.size), ⟨_, _, _, _, h3.below hb⟩, ⟨_, _, _, _, h4.below hb⟩, h5, h6⟩
theorem EG.outd {w wn wm : World} {d n cap : Nat} {a : Option Addr} (h : EG w d n cap a wn) (ho : Out d (d + 1) wn wm) (hc : CurIn wm d a n cap) : EG w d n cap a wm := by
  obtain ⟨h1, h2, ⟨x0, x1, x2, x3, h3⟩, ⟨y0, y1, y2, y3, h4⟩, h5, h6⟩ := h
  exact ⟨hc, h2.trans (ho.below (by omega) h2.size), ⟨_, _, _, _, h3.outS (outS_of_outW ho) (by simp; omega)⟩, ⟨_, _, _, _, h4.outS (outS_of_outW ho) (by simp; omega)⟩, h5, h6⟩
theorem EG.outS {w wn wm : World} {d n cap B : Nat} {a : Option Addr} (h : EG w d n cap a wn) (ho : OutS [B] wn wm) (hB : d < B) : EG w d n cap a wm := by
  obtain ⟨h1, h2, ⟨x0, x1, x2, x3, h3⟩, ⟨y0, y1, y2, y3, h4⟩, h5, h6⟩ := h
  exact ⟨h1.outSW ho (by simp; omega) (fun j hj b off e => by have := h6 j hj b off e; simp; omega), h2.trans (ho.below (fun t ht => by simp at ht; omega) h2.size), ⟨_, _, _, _, h3.outS ho (by simp; omega)⟩, ⟨_, _, _, _, h4.outS ho (by simp; omega)⟩, h5, h6⟩
theorem EG.put {w wn wm : World} {d n cap B : Nat} {a : Option Addr} (h : EG w d n cap a wn) (ho : OutS [B] wn wm) (hB : B < d) (hg : ∀ b, b ∈ [B] → w.heap.size ≤ b) (h3 : ∃ x0 x1 x2 x3, objU wm w.heap.size 41 [x0, x1, x2, x3]) (h4 : ∃ x0 x1 x2 x3, objU wm (w.heap.size + 1) 54 [x0, x1, x2, x3]) : EG w d n cap a wm := by
  have hBw := hg B (by simp)
  exact ⟨h.cur.outSW ho (by simp; omega) (fun j hj b off e => by have := h.all j hj b off e; simp; omega), h.bel.trans (ho.below (fun t ht => hg t ht) h.bel.size), h3, h4, h.dl, h.all⟩
theorem szWa : (Try.prog.info? 41).map (·.size) = some 4 := by kernel_rfl
theorem szIs : (Try.prog.info? 54).map (·.size) = some 4 := by kernel_rfl
/-- what the operations of the last region yield -/
def FE (N d : Nat) (vw : List Value) : Nat → (Nat → Nat) → Value → World → Prop
  | 0, γ, v, w => v = .agg vw.toArray
  | 1, γ, v, w => v = .pointer (some ⟨d, 0, none⟩)
  | 2, γ, v, w => v = .pointer (some ⟨d, 0, none⟩)
  | 3, γ, v, w => ∃ s : ByteArray, s.size ≤ 25 ∧ v = .string s
  | 4, γ, v, w => ∃ (I : IsD) (g c : Nat) (b2 : Option Addr) (q2 : Nat), v = .agg #[.string I.1, .slice (some ⟨g, 0, none⟩) I.2.1.length c, .slice b2 I.2.2.1.length q2, .int .i64 I.2.2.2] ∧ goodIs I ∧ isR w (d + 1) I g c b2 q2
  | 5, γ, v, w => objU w N 41 vw
  | 6, γ, v, w => ∃ (I : IsD) (g c : Nat) (b2 : Option Addr) (q2 : Nat), objU w (N + 1) 54 [.string I.1, .slice (some ⟨g, 0, none⟩) I.2.1.length c, .slice b2 I.2.2.1.length q2, .int .i64 I.2.2.2] ∧ goodIs I ∧ isR w (d + 1) I g c b2 q2
  | _, _, _, _ => False
def drawnE (w : World) (e : Ending) (w' : World) : Prop := ∃ (W : WaD) (a1 a2 a3 : Option Addr) (p1 p2 p3 : Nat) (I : IsD) (g c : Nat) (b2 : Option Addr) (q2 : Nat),
  e = .returned (.tuple #[.agg #[.int .i64 W.1, .slice a1 W.2.1.length p1, .slice a2 W.2.2.1.length p2, .slice a3 W.2.2.2.length p3], .agg #[.string I.1, .slice (some ⟨g, 0, none⟩) I.2.1.length c, .slice b2 I.2.2.1.length q2, .int .i64 I.2.2.2]]) ∧ Hid (goodW W ∧ goodIs I) ∧ Hid (waH w' W [.int .i64 W.1, .slice a1 W.2.1.length p1, .slice a2 W.2.2.1.length p2, .slice a3 W.2.2.2.length p3]) ∧ Hid (isH w' I [.string I.1, .slice (some ⟨g, 0, none⟩) I.2.1.length c, .slice b2 I.2.2.1.length q2, .int .i64 I.2.2.2]) ∧ Hid (Below w.heap.size w w')
set_option maxRecDepth 20000 in
set_option maxHeartbeats 3200000 in
theorem drawEligible_any (n cap : Nat) (a : Option Addr) (w : World) (hn : n ≤ 1048576) (hc : codeAll w a n) :
    Calls Try.prog 38 #[.slice a n cap] w (drawnE w) := by
  have Hc := hide hc
  have Hall : Hid (∀ j, j < n → ∀ b off, a = some ⟨b, off, none⟩ → b < w.heap.size) := fun j hj b off e => by
    obtain ⟨b', off', x, h1, h2, -⟩ := hc j hj
    rw [h1] at e; cases e
    exact World.block_lt_of_cell? _ _ h2
  have B0 : Hid (Below w.heap.size w ((w.alloc (.cells #[.int .i64 0, .slice none 0 0, .slice none 0 0, .slice none 0 0] 41)).alloc (.cells #[.string ByteArray.empty, .slice none 0 0, .slice none 0 0, .int .i64 0] 54))) := (below_alloc _ _).alloc (by simp) _
  have OZ0 : Hid (objU ((w.alloc (.cells #[.int .i64 0, .slice none 0 0, .slice none 0 0, .slice none 0 0] 41)).alloc (.cells #[.string ByteArray.empty, .slice none 0 0, .slice none 0 0, .int .i64 0] 54)) w.heap.size 41 [.int .i64 0, .slice none 0 0, .slice none 0 0, .slice none 0 0]) := (objU.new _ _ _).old _
  have OY0 : Hid (objU ((w.alloc (.cells #[.int .i64 0, .slice none 0 0, .slice none 0 0, .slice none 0 0] 41)).alloc (.cells #[.string ByteArray.empty, .slice none 0 0, .slice none 0 0, .int .i64 0] 54)) (w.heap.size + 1) 54 [.string ByteArray.empty, .slice none 0 0, .slice none 0 0, .int .i64 0]) := objU.new2 _ _ (by simp)
  clear hc
  go_enter Try.func38, Try.ntmps38
  go_wp2_with fail
  refine (l1New_any n cap a _ hn (Hc.out.later B0.out).at).mono ?_
  rintro e w1 ⟨d, hd, rfl, hc1, hb1⟩
  have hd2 : Hid (w.heap.size + 1 < d) := by have := OY0.out.lt; show _ < _; omega
  have E1 : Hid (EG w d n cap a w1) := ⟨hc1.out, B0.out.trans (hb1.mono B0.out.size), ⟨_, _, _, _, OZ0.out.below hb1⟩, ⟨_, _, _, _, OY0.out.below hb1⟩, hd2.out, Hall.out⟩
  clear hd hc1 hb1 OZ0 OY0 B0 Hc Hall
  go_wp2_with fail
  refine (l10Want_any d n cap a _ hn E1.out.cur).mono ?_
  rintro e w2 ⟨W, a1, a2, a3, p1, p2, p3, rfl, HG, HD, HC2, HO2⟩
  have hd1 : d < w1.heap.size := E1.out.cur.lt
  have E2 := hide (E1.out.outd HO2.out HC2.out)
  have E2b := hide (E2.out.below (below_alloc w2 (.cells #[.int .i64 W.1, .slice a1 W.2.1.length p1, .slice a2 W.2.2.1.length p2, .slice a3 W.2.2.2.length p3] 41)))
  have OB2 : Hid (objU (w2.alloc (.cells #[.int .i64 W.1, .slice a1 W.2.1.length p1, .slice a2 W.2.2.1.length p2, .slice a3 W.2.2.2.length p3] 41)) w2.heap.size 41 [.int .i64 W.1, .slice a1 W.2.1.length p1, .slice a2 W.2.2.1.length p2, .slice a3 W.2.2.2.length p3]) := objU.new _ _ _
  have HX2 : Hid (drWX (w2.alloc (.cells #[.int .i64 W.1, .slice a1 W.2.1.length p1, .slice a2 W.2.2.1.length p2, .slice a3 W.2.2.2.length p3] 41)) (d + 1) w2.heap.size W a1 a2 a3 p1 p2 p3) := fun wf hk => (HD.out.mono (show d + 1 ≤ w1.heap.size by omega)).kept ⟨Nat.le_trans (below_alloc _ _).size hk.1, fun k h1 h2 => (hk.2 k h1 (Nat.lt_of_lt_of_le h2 (below_alloc _ _).size) (by omega)).trans ((below_alloc _ _).block k h2)⟩
  have hdw : Hid (d < w2.heap.size) := Nat.lt_of_lt_of_le hd1 HO2.out.size
  clear E1 HD HC2 HO2 E2 hd1
  go_wp2_with fail
  refine (l1Once_any d n cap 10 a _ hn (by decide) E2b.out.cur).mono ?_
  rintro e w3 ⟨o, rfl, HC3, ho3⟩
  have E3 := hide (E2b.out.outd ho3 HC3.out)
  have OB3 := hide (objU_out OB2.out ho3 hdw.out)
  have HX3 : Hid (drWX w3 (d + 1) w2.heap.size W a1 a2 a3 p1 p2 p3) := fun wf hk => HX2.out wf ((keptF.out ho3 (Nat.lt_succ_self _)).toX.trans hk)
  clear E2b OB2 HX2 HC3 ho3
  go_upto_if 11 with fail
  go_cut [5] from 12 to 14 (fun s5 wc => s5 = .pointer (some ⟨w2.heap.size, 0, none⟩) ∧ ∃ (W : WaD) (a1 a2 a3 : Option Addr) (p1 p2 p3 : Nat), Hid (goodW W) ∧ Hid (drWX wc (d + 1) w2.heap.size W a1 a2 a3 p1 p2 p3) ∧ Hid (objU wc w2.heap.size 41 [.int .i64 W.1, .slice a1 W.2.1.length p1, .slice a2 W.2.2.1.length p2, .slice a3 W.2.2.2.length p3]) ∧ Hid (EG w d n cap a wc))
  case first =>
    cases o
    · go_wp2_with fail
      go_meet
      exact ⟨rfl, W, a1, a2, a3, p1, p2, p3, HG.out.1, HX3, OB3, E3⟩
    · have b0 := OB3.out.cell 0 _ rfl
      have b1 := OB3.out.cell 1 _ rfl
      have b2 := OB3.out.cell 2 _ rfl
      have b3 := OB3.out.cell 3 _ rfl
      go_wp2_with fail
      refine (l10Bend_any d n cap (d + 1) w2.heap.size a W a1 a2 a3 p1 p2 p3 w3 hn HG.out (Nat.lt_succ_self _) E3.out.cur.lt OB3.out.lt HX3.out E3.out.cur).mono ?_
      rintro e w4 ⟨W', c1, c2, c3, r1, r2, r3, rfl, HG4, HX4, HC4, HO4⟩
      have E4 := hide (E3.out.outd HO4.out HC4.out)
      have OB4 := hide (objU_out OB3.out HO4.out hdw.out)
      have HE : Hid (∀ wf, OutS [w2.heap.size] w4 wf → Hid (drWX wf (d + 1) w2.heap.size W' c1 c2 c3 r1 r2 r3) ∧ Hid (EG w d n cap a wf)) := fun wf ho => ⟨fun wg hg => HX4.out wg (keptX.trans ⟨ho.size, fun k h1 h2 h3 => ho.block k h2 (by simp; omega)⟩ hg), E4.out.outS ho hdw.out⟩
      have HOf := hide ((((OB4.out.set 0 (.int .i64 W'.1)).set 1 (.slice c1 W'.2.1.length r1)).set 2 (.slice c2 W'.2.2.1.length r2)).set 3 (.slice c3 W'.2.2.2.length r3))
      have x0 := OB4.out.cell 0 _ rfl
      have x1 := OB4.out.cell 1 _ rfl
      have x2 := OB4.out.cell 2 _ rfl
      have x3 := OB4.out.cell 3 _ rfl
      have y0 := OB4.out.fz 0
      have y1 := OB4.out.fz 1
      have y2 := OB4.out.fz 2
      have y3 := OB4.out.fz 3
      clear E3 OB3 HX3 HC4 HO4 HX4 E4 OB4 b0 b1 b2 b3
      go_wp2
      go_meet
      exact ⟨rfl, W', c1, c2, c3, r1, r2, r3, HG4.out.1, (HE.out _ (by repeat (first | with_reducible exact OutS.refl _ _ | with_reducible refine OutS.setCell ?_ (by simp) _))).1, HOf, (HE.out _ (by repeat (first | with_reducible exact OutS.refl _ _ | with_reducible refine OutS.setCell ?_ (by simp) _))).2⟩
  case rest =>
  clear E3 OB3 HX3 HG
  obtain ⟨rfl, W, a1, a2, a3, p1, p2, p3, HG, HX, OB, E⟩ := hcut
  go_wp2
  refine wp_region_inv2 (fun i => if i = 3 then Out d (d + 1) else if i = 4 then Out d (d + 1) else if i = 5 then OutS [w.heap.size] else if i = 6 then OutS [w.heap.size + 1] else fun u v => Below u.heap.size u v) (fun _ => none) 5 (by decide) (fun _ wn => EG w d n cap a wn ∧ keptF (d + 1) wc wn) (FE w.heap.size d [.int .i64 W.1, .slice a1 W.2.1.length p1, .slice a2 W.2.2.1.length p2, .slice a3 W.2.2.2.length p3]) (by kernel_rfl) (by kernel_rfl) (by kernel_rfl) ?hF ?hU ?hG ?hstep ?hend
  case hF =>
    intro i j γ γ' v wa wb hij hsp hnd hsd h hfr
    have ho := hfr.out
    have hdd := hd2.out
    have hk : keptF (d + 1) wa wb := by
      by_cases e3 : i = 3
      · rw [if_pos e3] at ho; exact keptF.out ho (Nat.lt_succ_self _)
      · rw [if_neg e3] at ho
        by_cases e4 : i = 4
        · rw [if_pos e4] at ho; exact keptF.out ho (Nat.lt_succ_self _)
        · rw [if_neg e4] at ho
          by_cases e5 : i = 5
          · rw [if_pos e5] at ho; exact keptF.outS ⟨Nat.le_refl _, fun _ _ _ => rfl⟩ ho (fun t ht => .inl (by simp at ht; omega))
          · rw [if_neg e5] at ho
            by_cases e6 : i = 6
            · rw [if_pos e6] at ho; exact keptF.outS ⟨Nat.le_refl _, fun _ _ _ => rfl⟩ ho (fun t ht => .inl (by simp at ht; omega))
            · rw [if_neg e6] at ho; exact keptF.below ho
    have hob : ∀ (b : Nat) (t : TypeId) (xs : List Value), objU wa b t xs → b < d → (b = w.heap.size → i ≠ 5) → (b = w.heap.size + 1 → i ≠ 6) → objU wb b t xs := fun b t xs hx hb h5 h6 => by
      by_cases e3 : i = 3
      · rw [if_pos e3] at ho; exact hx.outS (outS_of_outW ho) (by simp; omega)
      · rw [if_neg e3] at ho
        by_cases e4 : i = 4
        · rw [if_pos e4] at ho; exact hx.outS (outS_of_outW ho) (by simp; omega)
        · rw [if_neg e4] at ho
          by_cases e5 : i = 5
          · rw [if_pos e5] at ho; exact hx.outS ho (by simp; exact fun e => h5 e e5)
          · rw [if_neg e5] at ho
            by_cases e6 : i = 6
            · rw [if_pos e6] at ho; exact hx.outS ho (by simp; exact fun e => h6 e e6)
            · rw [if_neg e6] at ho; exact hx.below ho
    match j, h with
    | 0, h => exact h
    | 1, h => exact h
    | 2, h => exact h
    | 3, h => exact h
    | 4, ⟨I, g, c, b2, q2, h1, h2, h3⟩ => exact ⟨I, g, c, b2, q2, h1, h2, h3.kept hk⟩
    | 5, h => exact hob _ _ _ h (by omega) (fun _ => hij) (fun e => by omega)
    | 6, ⟨I, g, c, b2, q2, h1, h2, h3⟩ => exact ⟨I, g, c, b2, q2, hob _ _ _ h1 (by omega) (fun e => by omega) (fun _ => hij), h2, h3.kept hk⟩
    | j + 7, h => exact h.elim
  case hU =>
    intro i o hi hd γ v wa h
    match i, hi with
    | 0, hi => (injection hi with hi; subst hi; cases hd)
    | 1, hi => (injection hi with hi; subst hi; cases hd)
    | 2, hi => (injection hi with hi; subst hi; cases hd)
    | 3, hi => (injection hi with hi; subst hi; cases hd)
    | 4, hi => (injection hi with hi; subst hi; cases hd)
    | 5, hi => exact h
    | 6, hi => exact h
    | i + 7, hi => cases hi
  case hG => exact ⟨E.out.below (Below.drew (Below.refl _ _)), keptF.below (Below.drew (Below.refl _ _))⟩
  case hstep =>
    intro i o hi
    match i, hi with
    | 0, hi =>
      injection hi with hi; subst hi
      intro cc a9 wn γ hc0 hc1 hG hK hD K hk
      have he1 := hK.at 5 (by kernel_rfl)
      have ob := OB.out
      have hkb : wn.heap[w2.heap.size]? = wc.heap[w2.heap.size]? := hG.2.2 _ (by have := hdw.out; omega) OB.out.lt
      have ob9 : objU wn w2.heap.size 41 [.int .i64 W.1, .slice a1 W.2.1.length p1, .slice a2 W.2.2.1.length p2, .slice a3 W.2.2.2.length p3] := hkb.trans ob
      have x0 := ob9.cell 0 _ rfl
      have x1 := ob9.cell 1 _ rfl
      have x2 := ob9.cell 2 _ rfl
      have x3 := ob9.cell 3 _ rfl
      refine wp_pure (.agg #[.int .i64 W.1, .slice a1 W.2.1.length p1, .slice a2 W.2.2.1.length p2, .slice a3 W.2.2.2.length p3]) ?_ (hk _ _ γ hG ⟨Below.refl _ _, fun _ _ => rfl⟩ rfl)
      simp [execOp, Act.eval, he1, x0, x1, x2, x3, go_sem]
    | 1, hi =>
      injection hi with hi; subst hi
      intro cc a9 wn γ hc0 hc1 hG hK hD K hk
      have he1 := hK.at 4 (by kernel_rfl)
      refine wp_pure (.pointer (some ⟨d, 0, none⟩)) ?_ (hk _ _ γ hG ⟨Below.refl _ _, fun _ _ => rfl⟩ rfl)
      simp [execOp, Act.eval, he1, go_sem]
    | 2, hi =>
      injection hi with hi; subst hi
      intro cc a9 wn γ hc0 hc1 hG hK hD K hk
      have he1 := hK.at 4 (by kernel_rfl)
      refine wp_pure (.pointer (some ⟨d, 0, none⟩)) ?_ (hk _ _ γ hG ⟨Below.refl _ _, fun _ _ => rfl⟩ rfl)
      simp [execOp, Act.eval, he1, go_sem]
    | 3, hi =>
      injection hi with hi; subst hi
      intro cc a9 wn γ hc0 hc1 hG hK hD K hk
      have d0 := hD 0 (by decide) (by kernel_rfl) (.inl rfl)
      change a9.tmps.getD 17 undef = .pointer (some ⟨d, 0, none⟩) at d0
      refine wp_callW 107 #[.tmp 17] _ rfl (callFunc_enter Try.func107 (by kernel_rfl) (by kernel_rfl)) #[.pointer (some ⟨d, 0, none⟩)] (by simp only [List.map_toArray, List.map_cons, List.map_nil]; show #[a9.tmps.getD 17 undef] = _; rw [d0]) (l1Name_any d n cap a wn hn hG.1.cur.lt hG.1.cur) ?_
      rintro e w' ⟨s, hs, rfl, hc', ho'⟩
      exact ⟨_, rfl, hk _ w' γ ⟨hG.1.outd ho' hc'.out, hG.2.trans (keptF.out ho' (Nat.lt_succ_self _))⟩ ⟨ho', fun _ _ => rfl⟩ ⟨s, names_small s (List.mem_append_left _ hs), rfl⟩⟩
    | 4, hi =>
      injection hi with hi; subst hi
      intro cc a9 wn γ hc0 hc1 hG hK hD K hk
      have d0 := hD 0 (by decide) (by kernel_rfl) (.inl rfl)
      change a9.tmps.getD 16 undef = .pointer (some ⟨d, 0, none⟩) at d0
      have d1 := hD 1 (by decide) (by kernel_rfl) (.inl rfl)
      obtain ⟨s, hs, d1⟩ := d1
      change a9.tmps.getD 18 undef = _ at d1
      refine wp_callW 106 #[.tmp 16, .tmp 18] _ rfl (callFunc_enter Try.func106 (by kernel_rfl) (by kernel_rfl)) #[.pointer (some ⟨d, 0, none⟩), .string s] (by simp only [List.map_toArray, List.map_cons, List.map_nil]; show #[a9.tmps.getD 16 undef, a9.tmps.getD 18 undef] = _; rw [d0, d1]) (l10Island_any d n cap a s wn hn hG.1.cur) ?_
      rintro e w' ⟨ls, ss, z, g, c, b2, q2, rfl, hgd, hl, hsp2, hc', ho'⟩
      have hdn := hG.1.cur.lt
      exact ⟨_, rfl, hk _ w' γ ⟨hG.1.outd ho'.out hc'.out, hG.2.trans (keptF.out ho'.out (Nat.lt_succ_self _))⟩ ⟨ho'.out, fun _ _ => rfl⟩ ⟨(s, ls, ss, z), g, c, b2, q2, rfl, ⟨hs, hgd.out.1, hgd.out.2.1, hgd.out.2.2⟩, ⟨owns_mono hl.out (by omega), owns_mono hsp2.out (by omega)⟩⟩⟩
    | 5, hi =>
      injection hi with hi; subst hi
      intro cc a9 wn γ hc0 hc1 hG hK hD K hk
      have he1 := hK.at 2 (by kernel_rfl)
      have d0 := hD 0 (by decide) (by kernel_rfl) (.inl rfl)
      change a9.tmps.getD 15 undef = .agg #[.int .i64 W.1, .slice a1 W.2.1.length p1, .slice a2 W.2.2.1.length p2, .slice a3 W.2.2.2.length p3] at d0
      obtain ⟨z0, z1, z2, z3, hz⟩ := hG.1.oz
      have hdd := hd2.out
      have ho : OutS [w.heap.size] wn ((((wn.setCell ⟨w.heap.size, 0, none⟩ (.int .i64 W.1)).setCell ⟨w.heap.size, 1, none⟩ (.slice a1 W.2.1.length p1)).setCell ⟨w.heap.size, 2, none⟩ (.slice a2 W.2.2.1.length p2)).setCell ⟨w.heap.size, 3, none⟩ (.slice a3 W.2.2.2.length p3)) := ((((OutS.refl _ _).setCell (p := ⟨w.heap.size, 0, none⟩) (by simp) _).setCell (p := ⟨w.heap.size, 1, none⟩) (by simp) _).setCell (p := ⟨w.heap.size, 2, none⟩) (by simp) _).setCell (p := ⟨w.heap.size, 3, none⟩) (by simp) _
      have hf := (((hz.set 0 (.int .i64 W.1)).set 1 (.slice a1 W.2.1.length p1)).set 2 (.slice a2 W.2.2.1.length p2)).set 3 (.slice a3 W.2.2.2.length p3)
      refine wp_skip ?_ (hk undef _ γ ⟨hG.1.put ho (by omega) (fun b hb => by simp at hb; omega) ⟨_, _, _, _, hf⟩ (by obtain ⟨y0, y1, y2, y3, hy⟩ := hG.1.oy; exact ⟨_, _, _, _, hy.outS ho (by simp)⟩), hG.2.trans (keptF.outS ⟨Nat.le_refl _, fun _ _ _ => rfl⟩ ho (fun t ht => .inl (by simp at ht; omega)))⟩ ⟨ho, fun _ _ => rfl⟩ hf)
      exact store_run 41 (.tmp 2) (.tmp 15) rfl he1 d0 [.int .i64 W.1, .slice a1 W.2.1.length p1, .slice a2 W.2.2.1.length p2, .slice a3 W.2.2.2.length p3] rfl (by intro u hu; simp at hu; rcases hu with rfl | rfl | rfl | rfl <;> rfl) szWa (hz.there 0 4 (by simp))
    | 6, hi =>
      injection hi with hi; subst hi
      intro cc a9 wn γ hc0 hc1 hG hK hD K hk
      have he1 := hK.at 3 (by kernel_rfl)
      have d0 := hD 0 (by decide) (by kernel_rfl) (.inl rfl)
      obtain ⟨I, g, c, b2, q2, d0, hgi, hri⟩ := d0
      change a9.tmps.getD 19 undef = _ at d0
      obtain ⟨z0, z1, z2, z3, hz⟩ := hG.1.oy
      have hdd := hd2.out
      have ho : OutS [w.heap.size + 1] wn ((((wn.setCell ⟨w.heap.size + 1, 0, none⟩ (.string I.1)).setCell ⟨w.heap.size + 1, 1, none⟩ (.slice (some ⟨g, 0, none⟩) I.2.1.length c)).setCell ⟨w.heap.size + 1, 2, none⟩ (.slice b2 I.2.2.1.length q2)).setCell ⟨w.heap.size + 1, 3, none⟩ (.int .i64 I.2.2.2)) := ((((OutS.refl _ _).setCell (p := ⟨w.heap.size + 1, 0, none⟩) (by simp) _).setCell (p := ⟨w.heap.size + 1, 1, none⟩) (by simp) _).setCell (p := ⟨w.heap.size + 1, 2, none⟩) (by simp) _).setCell (p := ⟨w.heap.size + 1, 3, none⟩) (by simp) _
      have hf := (((hz.set 0 (.string I.1)).set 1 (.slice (some ⟨g, 0, none⟩) I.2.1.length c)).set 2 (.slice b2 I.2.2.1.length q2)).set 3 (.int .i64 I.2.2.2)
      have hkk : keptF (d + 1) wn _ := keptF.outS ⟨Nat.le_refl _, fun _ _ _ => rfl⟩ ho (fun t ht => .inl (by simp at ht; omega))
      refine wp_skip ?_ (hk undef _ γ ⟨hG.1.put ho (by omega) (fun b hb => by simp at hb; omega) (by obtain ⟨y0, y1, y2, y3, hy⟩ := hG.1.oz; exact ⟨_, _, _, _, hy.outS ho (by simp)⟩) ⟨_, _, _, _, hf⟩, hG.2.trans hkk⟩ ⟨ho, fun _ _ => rfl⟩ ⟨I, g, c, b2, q2, hf, hgi, hri.kept hkk⟩)
      exact store_run 54 (.tmp 3) (.tmp 19) rfl he1 d0 [.string I.1, .slice (some ⟨g, 0, none⟩) I.2.1.length c, .slice b2 I.2.2.1.length q2, .int .i64 I.2.2.2] rfl (by intro u hu; simp at hu; rcases hu with rfl | rfl | rfl | rfl <;> rfl) szIs (hz.there 0 4 (by simp))
    | i + 7, hi => cases hi
  case hend =>
    intro xx w9 γ hG hx
    have h5 := hx 5 (by decide) rfl
    obtain ⟨I, g, c, b2, q2, h6, h7, h8⟩ := hx 6 (by decide) rfl
    have HW9 := hide (HX.out w9 hG.2.toX).hand
    have HI9 := hide h8.hand
    have HB9 := hide hG.1.bel
    have HGI := hide h7
    have x0 := h5.cell 0 _ rfl
    have x1 := h5.cell 1 _ rfl
    have x2 := h5.cell 2 _ rfl
    have x3 := h5.cell 3 _ rfl
    have y0 := h6.cell 0 _ rfl
    have y1 := h6.cell 1 _ rfl
    have y2 := h6.cell 2 _ rfl
    have y3 := h6.cell 3 _ rfl
    clear hG hx h5 h6 h7 h8 E OB HX
    simp only [putAll, Act.put, List.setIfInBounds_toArray, List.set_cons_zero, List.set_cons_succ, Nat.zero_add, Nat.reduceAdd]
    go_wp2
    exact bodyPost_ret (v := .tuple #[.agg #[.int .i64 W.1, .slice a1 W.2.1.length p1, .slice a2 W.2.2.1.length p2, .slice a3 W.2.2.2.length p3], .agg #[.string I.1, .slice (some ⟨g, 0, none⟩) I.2.1.length c, .slice b2 I.2.2.1.length q2, .int .i64 I.2.2.2]]) (by simp [results, Try.results38, go_sem, x0, x1, x2, x3, y0, y1, y2, y3]) rfl ⟨W, a1, a2, a3, p1, p2, p3, I, g, c, b2, q2, rfl, ⟨HG.out, HGI.out⟩, HW9, HI9, HB9⟩
end Go.Proofs.Ytdnodaoeflbfkaa
/- Names in order; a want's weights: small functions of both sides that only read. -/
namespace Go.Proofs.Ytdnodaoeflbfkaa
open Go.RowKit Go.BigFrame
set_option linter.unusedVariables false

theorem nmsB_bad {ss : List ByteArray} {m k : Nat} (hk : k < ss.length) (h : ¬ okV ss k) : nmsB ss m = false := by unfold nmsB; rw [valsB_bad hk h]; rfl
theorem nmsB_end {ss : List ByteArray} {m : Nat} (h : ∀ i, i < ss.length → okV ss i) : nmsB ss m = decide (ss.length ≤ m) := by unfold nmsB; rw [valsB_end h]; rfl
set_option maxHeartbeats 800000 in
theorem l10Names_any (a : Option Addr) (cap m : Nat) (ss : List ByteArray) (w : World) (hl : ss.length ≤ maxLen) (hz : okStrs ss) (hrow : strOf w a ss) :
    Calls Try.prog 67 #[.slice a ss.length cap, .int .i64 (m : Int)] w fun e w' => e = .returned (.bool (nmsB ss m)) ∧ Below w.heap.size w w' := by
  unfold maxLen at hl
  have Hr := hide hrow
  have Hz := hide hz
  clear hrow hz
  go_enter Try.func67, Try.ntmps67
  go_wp2
  go_loopw [5] (fun i wr => ∃ (k : Nat), k ≤ ss.length ∧ i = .int .i64 k ∧ Hid (∀ j, j < k → okV ss j) ∧ Hid (Below w.heap.size w wr)) (fun i _ => ss.length - (intOf i).toNat)
  case atStart => exact ⟨0, Nat.zero_le _, rfl, fun j hj => by omega, Below.refl _ _⟩
  case round =>
    obtain ⟨k, hk, rfl, Hx, Hw⟩ := hrel
    by_cases hlt : k < ss.length
    · obtain ⟨b, off, rfl, hat⟩ := (Hr.out.below Hw.out) (by omega)
      have hc := strAt_cells hat
      have c0 := hc k hlt
      have cp : 0 < k → wr.cell? ⟨b, off + (k - 1), none⟩ = some (.string (ssAt ss (k - 1))) := fun h => hc (k - 1) (by omega)
      have hzK : (ssAt ss k).size ≤ maxLen := by rw [ssAt_get hlt]; exact Hz.out _ (List.getElem_mem hlt)
      have Hs : Hid (okV ss k → ∀ j, j < k + 1 → okV ss j) := fun h => okV_succ Hx.out h
      have Hb : Hid (¬ okV ss k → nmsB ss m = false) := fun h => nmsB_bad hlt h
      have hcs := okV_cases ss k
      clear hat hc Hx
      generalize ssAt ss k = K at *
      generalize ssAt ss (k - 1) = Q at *
      have hK := fun wx => (sname_any K wx hzK)
      clear hzK
      rcases hcs with ⟨h1, hok⟩ | ⟨h1, h3, hok⟩ | ⟨h1, h3, h4, hok⟩ | ⟨h1, h3, h4, hok⟩
      · rw [h1] at hK
        have HK := hide hK
        clear hK h1 cp
        have Hn := hide (Hb.out hok.out)
        clear Hs Hb Hz Hr
        go_wp2
        go_quiet (first | (go_at_call_of 64 K; exact Calls.quiet_of_same (HK.out _)))
        go_wp2
        go_ret
        exact ⟨ret_bool Hn.out.symm, below_drewN Hw.out _⟩
      · rw [h1] at hK
        have HK := hide hK
        have hk0 : k = 0 := h3.out
        have h3' : decide ((0 : Int) < (k : Int)) = false := by rw [decide_eq_false_iff_not]; omega
        have h3'' : decide (0 < k) = false := by rw [decide_eq_false_iff_not]; omega
        have h3a : (k : Int) ≤ 0 := by omega
        clear hK h1 cp h3 hk0
        have Hn := hide (Hs.out hok.out)
        clear Hs Hb Hz Hr
        go_wp2
        go_quiet (first | (go_at_call_of 64 K; exact Calls.quiet_of_same (HK.out _)))
        go_wp2
        go_roundw
        case rel => exact ⟨k + 1, by omega, by go_num, Hn, below_drewN Hw.out _⟩
        case measure => simp [intOf]; omega
      · rw [h1] at hK
        have HK := hide hK
        have cp := cp h3
        have h3' : (0 : Int) < (k : Int) := by omega
        clear hK h1
        have Hn := hide (Hs.out hok.out)
        clear Hs Hb Hz Hr
        go_wp2
        go_quiet (first | (go_at_call_of 64 K; exact Calls.quiet_of_same (HK.out _)))
        go_wp2
        go_roundw
        case rel => exact ⟨k + 1, by omega, by go_num, Hn, below_drewN Hw.out _⟩
        case measure => simp [intOf]; omega
      · rw [h1] at hK
        have HK := hide hK
        have cp := cp h3
        have h3' : (0 : Int) < (k : Int) := by omega
        clear hK h1
        have Hn := hide (Hb.out hok.out)
        clear Hs Hb Hz Hr
        go_wp2
        go_quiet (first | (go_at_call_of 64 K; exact Calls.quiet_of_same (HK.out _)))
        go_wp2
        go_ret
        exact ⟨ret_bool Hn.out.symm, below_drewN Hw.out _⟩
    · have e : k = ss.length := by omega
      subst e
      have Hn := hide (nmsB_end (m := m) Hx.out)
      clear Hx Hr Hz
      go_wp2
      go_ret
      exact ⟨ret_bool (by first | (rw [Hn.out, Bool.eq_iff_iff]; done) | (rw [Hn.out, Bool.eq_iff_iff]; simp; done) | (rw [Hn.out, Bool.eq_iff_iff]; simp; omega)), Hw.out⟩
def noW (l : List WgD) (s : ByteArray) (k : Nat) : Prop := ∀ j (h : j < l.length), j < k → (l[j]'h).1 ≠ s
theorem noW_succ {L : List WgD} {s : ByteArray} {k : Nat} (h : noW L s k) (hk : k < L.length) (hne : (L[k]'hk).1 ≠ s) : noW L s (k + 1) := fun j hj hjk => by
  by_cases e : j = k
  · subst e; exact hne
  · exact h j hj (by omega)
set_option maxHeartbeats 800000 in
theorem sWeightOf_any (z : Int) (T : List TD) (B : List ByteArray) (L : List WgD) (s : ByteArray) (xs : List Value) (w : World) (hl : L.length ≤ maxLen) (hx : waH w (z, T, B, L) xs) :
    Calls Try.prog 21 #[.agg xs.toArray, .string s] w fun e w' => e = .returned (.int .i64 (weighI L s)) ∧ Below w.heap.size w w' := by
  obtain ⟨c1, c2, c3, rfl, ⟨a1, p1, rfl, -⟩, ⟨a2, p2, rfl, -⟩, a, p, rfl, h3⟩ := hx
  dsimp only at *
  unfold maxLen at hl
  have Hr := hide h3
  clear h3
  have OX : Hid (objU (w.alloc (.cells #[.int .i64 z, .slice a1 T.length p1, .slice a2 B.length p2, .slice a L.length p] 41)) w.heap.size 41 [.int .i64 z, .slice a1 T.length p1, .slice a2 B.length p2, .slice a L.length p]) := objU.new _ _ _
  have BX : Hid (Below w.heap.size w (w.alloc (.cells #[.int .i64 z, .slice a1 T.length p1, .slice a2 B.length p2, .slice a L.length p] 41))) := (Below.refl _ _).alloc (Nat.le_refl _) _
  go_enter Try.func21, Try.ntmps21
  go_wp2
  go_loopw [5] (fun i wr => ∃ (k : Nat), k ≤ L.length ∧ i = .int .i64 k ∧ Hid (noW L s k) ∧ Hid (objU wr w.heap.size 41 [.int .i64 z, .slice a1 T.length p1, .slice a2 B.length p2, .slice a L.length p]) ∧ Hid (Below w.heap.size w wr)) (fun i _ => L.length - (intOf i).toNat)
  case atStart => exact ⟨0, Nat.zero_le _, rfl, fun j hj h => by omega, OX, BX⟩
  case round =>
    clear OX BX
    obtain ⟨k, hk, rfl, Ho, HO, HB⟩ := hrel
    have o3 := HO.out.cell 3 _ rfl
    by_cases hlt : k < L.length
    · obtain ⟨b, off, rfl, hat⟩ := (Hr.out.below HB.out) (by omega)
      have c0 := (hat k hlt).1
      have c1 := (hat k hlt).2
      have he := beq_str (L[k].1) s
      have Hh : Hid (L[k].1 = s → weighI L s = L[k].2) := weighI_hit Ho.out hlt
      have Hm : Hid (L[k].1 ≠ s → noW L s (k + 1)) := noW_succ Ho.out hlt
      clear Hr Ho hat
      generalize L[k] = X at *
      obtain ⟨K, N⟩ := X
      dsimp only at *
      by_cases hq : K = s
      · rw [decide_eq_true hq] at he
        have Hn := hide (Hh.out hq)
        clear hq Hh Hm
        go_wp2
        go_ret
        exact ⟨ret_int Hn.out.symm, HB.out⟩
      · rw [decide_eq_false hq] at he
        have Hn := hide (Hm.out hq)
        clear hq Hh Hm
        go_wp2
        go_roundw
        case rel => exact ⟨k + 1, by omega, by go_num, Hn, HO, HB⟩
        case measure => simp [intOf]; omega
    · have e : k = L.length := by omega
      subst e
      have Hn := hide (weighI_miss (s := s) (fun j hj => Ho.out j hj hj))
      clear Ho Hr
      go_wp2
      go_ret
      exact ⟨ret_int Hn.out.symm, HB.out⟩
set_option maxHeartbeats 800000 in
theorem iWeightOf_any (z : Int) (T : List TD) (B : List ByteArray) (L : List WgD) (s : ByteArray) (xs : List Value) (w : World) (hl : L.length ≤ maxLen) (hx : waH w (z, T, B, L) xs) :
    Calls Try.prog 22 #[.agg xs.toArray, .string s] w fun e w' => e = .returned (.int .i64 (weighI L s)) ∧ Below w.heap.size w w' := by
  obtain ⟨c1, c2, c3, rfl, ⟨a1, p1, rfl, -⟩, ⟨a2, p2, rfl, -⟩, a, p, rfl, h3⟩ := hx
  dsimp only at *
  unfold maxLen at hl
  have Hr := hide h3
  clear h3
  have OX : Hid (objU (w.alloc (.cells #[.int .i64 z, .slice a1 T.length p1, .slice a2 B.length p2, .slice a L.length p] 41)) w.heap.size 41 [.int .i64 z, .slice a1 T.length p1, .slice a2 B.length p2, .slice a L.length p]) := objU.new _ _ _
  have BX : Hid (Below w.heap.size w (w.alloc (.cells #[.int .i64 z, .slice a1 T.length p1, .slice a2 B.length p2, .slice a L.length p] 41))) := (Below.refl _ _).alloc (Nat.le_refl _) _
  go_enter Try.func22, Try.ntmps22
  have o3 := OX.out.cell 3 _ rfl
  go_wp2
  clear OX o3
  go_loopw [10] (fun i wr => ∃ (k : Nat), k ≤ L.length ∧ i = .int .i64 k ∧ Hid (noW L s k) ∧ Hid (Below w.heap.size w wr)) (fun i _ => L.length - (intOf i).toNat)
  case atStart => exact ⟨0, Nat.zero_le _, rfl, fun j hj h => by omega, BX⟩
  case round =>
    clear BX
    obtain ⟨k, hk, rfl, Ho, HB⟩ := hrel
    by_cases hlt : k < L.length
    · obtain ⟨b, off, rfl, hat⟩ := (Hr.out.below HB.out) (by omega)
      have c0 := (hat k hlt).1
      have c1 := (hat k hlt).2
      have he := beq_str (L[k].1) s
      have Hh : Hid (L[k].1 = s → weighI L s = L[k].2) := weighI_hit Ho.out hlt
      have Hm : Hid (L[k].1 ≠ s → noW L s (k + 1)) := noW_succ Ho.out hlt
      clear Hr Ho hat
      generalize L[k] = X at *
      obtain ⟨K, N⟩ := X
      dsimp only at *
      by_cases hq : K = s
      · rw [decide_eq_true hq] at he
        have Hn := hide (Hh.out hq)
        clear hq Hh Hm
        go_wp2
        go_ret
        exact ⟨ret_int Hn.out.symm, HB.out.alloc HB.out.size _⟩
      · rw [decide_eq_false hq] at he
        have Hn := hide (Hm.out hq)
        clear hq Hh Hm
        go_wp2
        go_roundw
        case rel => exact ⟨k + 1, by omega, by go_num, Hn, HB.out.alloc HB.out.size _⟩
        case measure => simp [intOf]; omega
    · have e : k = L.length := by omega
      subst e
      have Hn := hide (weighI_miss (s := s) (fun j hj => Ho.out j hj hj))
      clear Ho Hr
      go_wp2
      go_ret
      exact ⟨ret_int Hn.out.symm, HB.out⟩
theorem withinF_any (x b : Int) (w : World) : Calls Try.prog 71 #[.int .i64 x, .int .i64 b] w fun e w' => e = .returned (.bool (inB x 0 b)) ∧ w' = w := by
  go_enter Try.func71, Try.ntmps71
  go_wp2
  all_goals go_ret
  all_goals exact ⟨ret_bool (by rw [Bool.eq_iff_iff]; simp [inB]; omega), rfl⟩
end Go.Proofs.Ytdnodaoeflbfkaa
/- Right islands, on both sides. -/
namespace Go.Proofs.Ytdnodaoeflbfkaa
open Go.RowKit Go.BigFrame
set_option linter.unusedVariables false

theorem islB_out (I : IsD) : islB I = (nameB I.1 && labelsB I.2.1 && nmsB I.2.2.1 4 && inB I.2.2.2 0 10000) := rfl
set_option maxHeartbeats 800000 in
theorem sIslandOk_any (I : IsD) (xs : List Value) (w : World) (hq : okIs1 I) (hx : isH w I xs) :
    Calls Try.prog 40 #[.agg xs.toArray] w fun e w' => e = .returned (.bool (islB I)) ∧ Below w.heap.size w w' := by
  obtain ⟨c1, c2, rfl, ⟨a1, p1, rfl, h1⟩, a2, p2, rfl, h2⟩ := hx
  obtain ⟨s, L, S, z⟩ := I
  obtain ⟨q0, ⟨q1, q2⟩, ⟨q3, q4⟩, q5⟩ := hq
  have E : Hid (islB (s, L, S, z) = (nameB s && labelsB L && nmsB S 4 && inB z 0 10000)) := rfl
  dsimp only at *
  have HC0 : Hid (∀ wx, Calls Try.prog 64 #[.string s] wx fun e w' => e = .returned (.bool (nameB s)) ∧ w' = wx) := fun wx => sname_any s wx q0
  have HC1 : Hid (∀ wx, Below w.heap.size w wx → Calls Try.prog 110 #[.slice a1 L.length p1] wx fun e w' => e = .returned (.bool (labelsB L)) ∧ Below wx.heap.size wx w') := fun wx hb => (slabelsOk_any a1 p1 L wx q1 q2 (rowOf_below h1 hb)).mono (fun e w' ⟨e1, n, e2⟩ => ⟨e1, e2 ▸ below_drewN (Below.refl _ _) _⟩)
  have HC2 : Hid (∀ wx, Below w.heap.size w wx → Calls Try.prog 67 #[.slice a2 S.length p2, .int .i64 4] wx fun e w' => e = .returned (.bool (nmsB S 4)) ∧ Below wx.heap.size wx w') := fun wx hb => l10Names_any a2 p2 4 S wx q3 q4 (h2.below hb)
  have HC3 : Hid (∀ wx, Calls Try.prog 65 #[.int .i64 z, .int .i64 0, .int .i64 10000] wx fun e w' => e = .returned (.bool (inB z 0 10000)) ∧ w' = wx) := fun wx => l1In_any z 0 10000 wx
  have OX : Hid (objU (w.alloc (.cells #[.string s, .slice a1 L.length p1, .slice a2 S.length p2, .int .i64 z] 54)) w.heap.size 54 [.string s, .slice a1 L.length p1, .slice a2 S.length p2, .int .i64 z]) := objU.new _ _ _
  have BX : Hid (Below w.heap.size w (w.alloc (.cells #[.string s, .slice a1 L.length p1, .slice a2 S.length p2, .int .i64 z] 54))) := (Below.refl _ _).alloc (Nat.le_refl _) _
  clear h1 h2 q0 q1 q2 q3 q4 q5
  generalize islB (s, L, S, z) = R at *
  generalize nameB s = b0 at *
  generalize labelsB L = b1 at *
  generalize nmsB S 4 = b2 at *
  generalize inB z 0 10000 = b3 at *
  go_enter Try.func40, Try.ntmps40
  cases b0 with
  | false =>
    clear OX
    go_wp2_with (go_at_call 64; refine (HC0.out _).mono ?_; rintro e w' ⟨rfl, rfl⟩)
    go_ret
    exact ⟨ret_bool E.out.symm, BX.out⟩
  | true =>
    have x1 := OX.out.cell 1 _ rfl
    go_wp2_with (go_at_call 64; refine (HC0.out _).mono ?_; rintro e w' ⟨rfl, rfl⟩)
    refine (HC1.out _ BX.out).mono ?_
    rintro e w1 ⟨rfl, hb1⟩
    have OX1 := hide (OX.out.below hb1)
    have BX1 : Hid (Below w.heap.size w w1) := BX.out.trans (hb1.mono BX.out.size)
    clear OX BX hb1 x1
    cases b1 with
    | false =>
      clear OX1
      go_wp2
      go_ret
      exact ⟨ret_bool E.out.symm, BX1.out⟩
    | true =>
      have x2 := OX1.out.cell 2 _ rfl
      go_wp2_with fail
      refine (HC2.out _ BX1.out).mono ?_
      rintro e w2 ⟨rfl, hb2⟩
      have OX2 := hide (OX1.out.below hb2)
      have BX2 : Hid (Below w.heap.size w w2) := BX1.out.trans (hb2.mono BX1.out.size)
      clear OX1 BX1 hb2 x2
      cases b2 with
      | false =>
        clear OX2
        go_wp2
        go_ret
        exact ⟨ret_bool E.out.symm, BX2.out⟩
      | true =>
        have x3 := OX2.out.cell 3 _ rfl
        go_wp2_with (go_at_call 65; refine (HC3.out _).mono ?_; rintro e w' ⟨rfl, rfl⟩)
        go_ret
        exact ⟨ret_bool (by rw [E.out]; simp), BX2.out⟩
set_option maxHeartbeats 800000 in
theorem iIslandOk_any (I : IsD) (xs : List Value) (w : World) (hq : okIs1 I) (hx : isH w I xs) :
    Calls Try.prog 39 #[.agg xs.toArray] w fun e w' => e = .returned (.bool (islB I)) ∧ Below w.heap.size w w' := by
  obtain ⟨c1, c2, rfl, ⟨a1, p1, rfl, h1⟩, a2, p2, rfl, h2⟩ := hx
  obtain ⟨s, L, S, z⟩ := I
  obtain ⟨q0, ⟨q1, q2⟩, ⟨q3, q4⟩, q5⟩ := hq
  have E : Hid (islB (s, L, S, z) = (nameB s && labelsB L && (valsB S && decide (S.length ≤ 4)) && inB z 0 10000)) := rfl
  dsimp only at *
  have HC0 : Hid (∀ wx, Calls Try.prog 108 #[.string s] wx fun e w' => e = .returned (.bool (nameB s)) ∧ Below wx.heap.size wx w') := fun wx => iname_any s wx
  have HC1 : Hid (∀ wx, Below w.heap.size w wx → Calls Try.prog 109 #[.slice a1 L.length p1] wx fun e w' => e = .returned (.bool (labelsB L)) ∧ Below wx.heap.size wx w') := fun wx hb => ilabelsOk_any a1 p1 L wx q1 (rowOf_below h1 hb)
  have HC2 : Hid (∀ wx, Below w.heap.size w wx → Calls Try.prog 74 #[.slice a2 S.length p2] wx fun e w' => e = .returned (.bool (valsB S)) ∧ Below wx.heap.size wx w') := fun wx hb => iasc_any a2 p2 S wx q3 (h2.below hb)
  have HC3 : Hid (∀ wx, Calls Try.prog 71 #[.int .i64 z, .int .i64 10000] wx fun e w' => e = .returned (.bool (inB z 0 10000)) ∧ w' = wx) := fun wx => withinF_any z 10000 wx
  have OX : Hid (objU (w.alloc (.cells #[.string s, .slice a1 L.length p1, .slice a2 S.length p2, .int .i64 z] 54)) w.heap.size 54 [.string s, .slice a1 L.length p1, .slice a2 S.length p2, .int .i64 z]) := objU.new _ _ _
  have BX : Hid (Below w.heap.size w (w.alloc (.cells #[.string s, .slice a1 L.length p1, .slice a2 S.length p2, .int .i64 z] 54))) := (Below.refl _ _).alloc (Nat.le_refl _) _
  unfold maxLen at q3
  clear h1 h2 q0 q1 q2 q4 q5
  generalize islB (s, L, S, z) = R at *
  generalize nameB s = b0 at *
  generalize labelsB L = b1 at *
  generalize valsB S = b2 at *
  generalize inB z 0 10000 = b3 at *
  go_enter Try.func39, Try.ntmps39
  go_wp2_with fail
  refine (HC0.out _).mono ?_
  rintro e w0 ⟨rfl, hb0⟩
  have OX0 := hide (OX.out.below hb0)
  have BX0 : Hid (Below w.heap.size w w0) := BX.out.trans (hb0.mono BX.out.size)
  clear OX BX hb0
  cases b0 with
  | false =>
    clear OX0
    go_wp2
    go_ret
    exact ⟨ret_bool E.out.symm, BX0.out⟩
  | true =>
    have x1 := OX0.out.cell 1 _ rfl
    go_wp2_with fail
    refine (HC1.out _ BX0.out).mono ?_
    rintro e w1 ⟨rfl, hb1⟩
    have OX1 := hide (OX0.out.below hb1)
    have BX1 : Hid (Below w.heap.size w w1) := BX0.out.trans (hb1.mono BX0.out.size)
    clear OX0 BX0 hb1 x1
    cases b1 with
    | false =>
      clear OX1
      go_wp2
      go_ret
      exact ⟨ret_bool E.out.symm, BX1.out⟩
    | true =>
      have x3 := OX1.out.cell 3 _ rfl
      have x2 := OX1.out.cell 2 _ rfl
      cases b3 with
      | false =>
        go_wp2_with (go_at_call 71; refine (HC3.out _).mono ?_; rintro e w' ⟨rfl, rfl⟩)
        go_ret
        exact ⟨ret_bool (by rw [E.out, Bool.and_false]), BX1.out⟩
      | true =>
        by_cases h4 : S.length ≤ 4
        · have h4' : (S.length : Int) ≤ 4 := by omega
          have E2 : Hid (R = b2) := by show _ = _; rw [E.out, decide_eq_true h4, Bool.and_true, Bool.and_true]; simp
          clear E h4
          go_wp2_with (go_at_call 71; refine (HC3.out _).mono ?_; rintro e w' ⟨rfl, rfl⟩)
          refine (HC2.out _ BX1.out).mono ?_
          rintro e w2 ⟨rfl, hb2⟩
          go_wp2
          go_ret
          exact ⟨ret_bool E2.out.symm, BX1.out.trans (hb2.mono BX1.out.size)⟩
        · have h4' : ¬ (S.length : Int) ≤ 4 := by omega
          have E2 : Hid (R = false) := by show _ = _; rw [E.out, decide_eq_false h4, Bool.and_false]; simp
          clear E h4
          go_wp2_with (go_at_call 71; refine (HC3.out _).mono ?_; rintro e w' ⟨rfl, rfl⟩)
          go_ret
          exact ⟨ret_bool E2.out.symm, BX1.out⟩
end Go.Proofs.Ytdnodaoeflbfkaa
/- Right wants: the weights, by the program. -/
namespace Go.Proofs.Ytdnodaoeflbfkaa
open Go.RowKit Go.BigFrame
set_option linter.unusedVariables false

theorem wgsB_long {l : List WgD} (h : 12 < l.length) : wgsB l = false := by unfold wgsB; rw [decide_eq_false_iff_not]; omega
theorem wgsB_off {l : List WgD} {k : Nat} (hk : k < l.length) (h : inB (l[k]'hk).2 0 1000 = false) : wgsB l = false := by
  rw [Bool.eq_false_iff]
  intro g
  have := (wgsB_iff.1 g).2.1 _ (List.getElem_mem hk)
  rw [h] at this; cases this
theorem wgsB_names {l : List WgD} (hl : l.length ≤ 12) (h : ∀ j (hj : j < l.length), inB (l[j]'hj).2 0 1000 = true) : wgsB l = valsB (l.map Prod.fst) := by
  rw [Bool.eq_iff_iff, wgsB_iff]
  refine ⟨fun g => g.2.2, fun g => ⟨hl, fun x hx => ?_, g⟩⟩
  obtain ⟨i, hi, rfl⟩ := List.getElem_of_mem hx
  exact h i hi
def nmsL (l : List WgD) (k : Nat) : List ByteArray := (l.take k).map Prod.fst
theorem nmsL_succ {l : List WgD} {k : Nat} (hk : k < l.length) : strVs (nmsL l (k + 1)) = strVs (nmsL l k) ++ [.string (l[k]'hk).1] := by
  unfold nmsL strVs
  rw [List.take_add_one, List.getElem?_eq_getElem hk, List.map_append, List.map_append]
  rfl
theorem nmsL_all (l : List WgD) : nmsL l l.length = l.map Prod.fst := by unfold nmsL; rw [List.take_length]
def wgP (x : WgD) : Bool := inB x.2 0 1000
theorem all_badK {α : Type} {p : α → Bool} {l : List α} {k : Nat} (hk : k < l.length) (h : p (l[k]'hk) = false) : l.all p = false := by
  rw [Bool.eq_false_iff]
  intro g
  have := List.all_eq_true.1 g _ (List.getElem_mem hk)
  rw [h] at this; cases this
theorem all_endK {α : Type} {p : α → Bool} {l : List α} (h : ∀ j (hj : j < l.length), p (l[j]'hj) = true) : l.all p = true := by
  rw [List.all_eq_true]
  intro x hx
  obtain ⟨j, hj, rfl⟩ := List.getElem_of_mem hx
  exact h j hj
theorem wgsB_three (L : List WgD) : wgsB L = ((decide (L.length ≤ 12) && L.all wgP) && valsB (L.map Prod.fst)) := by
  rw [Bool.eq_iff_iff, wgsB_iff, Bool.and_eq_true, Bool.and_eq_true, decide_eq_true_eq, List.all_eq_true, and_assoc]
  rfl
theorem wgNum_any (I : WgD) (w : World) : Calls Try.prog 145 #[.agg #[.string I.1, .int .i64 I.2]] w fun e w' => e = .returned (.bool (wgP I)) ∧ Below w.heap.size w w' := by
  have HC : Hid (∀ wx, Calls Try.prog 71 #[.int .i64 I.2, .int .i64 1000] wx fun e w' => e = .returned (.bool (wgP I)) ∧ w' = wx) := fun wx => withinF_any I.2 1000 wx
  have OX : Hid (objU (w.alloc (.cells #[.string I.1, .int .i64 I.2] 110)) w.heap.size 110 [.string I.1, .int .i64 I.2]) := objU.new _ _ _
  have BX : Hid (Below w.heap.size w (w.alloc (.cells #[.string I.1, .int .i64 I.2] 110))) := (Below.refl _ _).alloc (Nat.le_refl _) _
  generalize wgP I = r at *
  go_enter Try.func145, Try.ntmps145
  have x1 := OX.out.cell 1 _ rfl
  go_wp2_with (go_at_call 71; refine (HC.out _).mono ?_; rintro e w' ⟨rfl, rfl⟩)
  go_ret
  exact ⟨rfl, BX.out⟩
theorem wgName_any (I : WgD) (w : World) : Calls Try.prog 148 #[.agg #[.string I.1, .int .i64 I.2]] w fun e w' => e = .returned (.string I.1) ∧ Below w.heap.size w w' := by
  have OX : Hid (objU (w.alloc (.cells #[.string I.1, .int .i64 I.2] 110)) w.heap.size 110 [.string I.1, .int .i64 I.2]) := objU.new _ _ _
  have BX : Hid (Below w.heap.size w (w.alloc (.cells #[.string I.1, .int .i64 I.2] 110))) := (Below.refl _ _).alloc (Nat.le_refl _) _
  go_enter Try.func148, Try.ntmps148
  have x0 := OX.out.cell 0 _ rfl
  go_wp2
  go_ret
  exact ⟨rfl, BX.out⟩
set_option maxHeartbeats 800000 in
theorem clWg_any (I : WgD) (b : Nat) (w : World) (hc : w.cell? ⟨b, 0, none⟩ = some (.func (.func 145) #[] #[])) :
    Calls Try.prog 203 #[.agg #[.string I.1, .int .i64 I.2], .pointer (some ⟨b, 0, none⟩)] w fun e w' => e = .returned (.bool (!wgP I)) ∧ Below w.heap.size w w' := by
  have HC0 : Hid (∀ wx, Calls Try.prog 145 #[.agg #[.string I.1, .int .i64 I.2]] wx fun e w' => e = .returned (.bool (wgP I)) ∧ Below wx.heap.size wx w') := fun wx => wgNum_any I wx
  have OX : Hid (objU (w.alloc (.cells #[.string I.1, .int .i64 I.2] 110)) w.heap.size 110 [.string I.1, .int .i64 I.2]) := objU.new _ _ _
  have BX : Hid (Below w.heap.size w (w.alloc (.cells #[.string I.1, .int .i64 I.2] 110))) := (Below.refl _ _).alloc (Nat.le_refl _) _
  have hbl := World.block_lt_of_cell? _ _ hc
  generalize wgP I = r at *
  go_enter Try.func203, Try.ntmps203
  have x0 := OX.out.cell 0 _ rfl
  have x1 := OX.out.cell 1 _ rfl
  have cc := (BX.out.cell (p := ⟨b, 0, none⟩) hbl).trans hc
  go_wp2_with fail
  refine (HC0.out _).mono ?_
  rintro e w1 ⟨rfl, hb1⟩
  have BX1 : Hid (Below w.heap.size w w1) := BX.out.trans (hb1.mono BX.out.size)
  clear OX BX hb1 x0 x1 cc
  go_wp2
  go_ret
  exact ⟨rfl, BX1.out⟩
set_option maxRecDepth 20000 in
set_option maxHeartbeats 800000 in
theorem ixWg_any (l : List WgD) (a : Option Addr) (cap b : Nat) (w : World) (hl : l.length ≤ maxLen) (hx : wgsOf w a l) (hc : w.cell? ⟨b, 0, none⟩ = some (.func (.func 145) #[] #[])) :
    Calls Try.prog 232 #[.slice a l.length cap, .func (.func 203) #[] #[.pointer (some ⟨b, 0, none⟩)]] w fun e w' => ∃ r : Int, e = .returned (.int .i64 r) ∧ ((l.all wgP = true ∧ r = -1) ∨ (l.all wgP = false ∧ 0 ≤ r)) ∧ Below w.heap.size w w' := by
  have HX := hide hx
  have HC : Hid (∀ (I : WgD) (wx : World), Below w.heap.size w wx → Calls Try.prog 203 #[.agg #[.string I.1, .int .i64 I.2], .pointer (some ⟨b, 0, none⟩)] wx fun e w' => e = .returned (.bool (!wgP I)) ∧ Below wx.heap.size wx w') := fun I wx hb => clWg_any I b wx ((hb.cell (p := ⟨b, 0, none⟩) (World.block_lt_of_cell? _ _ hc)).trans hc)
  unfold maxLen at hl
  clear hx hc
  go_enter Try.func232, Try.ntmps232
  go_wp2
  go_loopw [8] (fun i wr => ∃ (q : Nat), q ≤ l.length ∧ i = .int .i64 q ∧ Hid (∀ j (hj : j < l.length), j < q → wgP (l[j]'hj) = true) ∧ Hid (Below w.heap.size w wr)) (fun i _ => l.length - (intOf i).toNat)
  case atStart => exact ⟨0, Nat.zero_le _, rfl, (fun j _ h => by omega), Below.refl _ _⟩
  case round =>
    obtain ⟨q, hq, rfl, Ho, Hb⟩ := hrel
    by_cases hlt : q < l.length
    · obtain ⟨bb, off, rfl, hat⟩ := HX.out.below Hb.out (by omega)
      obtain ⟨c0, c1⟩ := hat q hlt
      have HCx := hide (HC.out (l[q]'hlt) wr Hb.out)
      have Hy : Hid (wgP (l[q]'hlt) = false → l.all wgP = false) := fun h => all_badK hlt h
      have Hn : Hid (wgP (l[q]'hlt) = true → ∀ j (hj : j < l.length), j < q + 1 → wgP (l[j]'hj) = true) := fun h j hj hjq => by
        by_cases e : j = q
        · subst e; exact h
        · exact Ho.out j hj (by omega)
      clear Ho hat HC
      generalize wgP (l[q]'hlt) = r at *
      generalize (l[q]'hlt).1 = z0 at *
      generalize (l[q]'hlt).2 = z1 at *
      cases r with
      | false =>
        have HN := hide (Hy.out (by first | rfl | trivial))
        clear Hy Hn
        go_wp2_with fail
        refine HCx.out.mono ?_
        rintro e w1 ⟨rfl, hb1⟩
        go_wp2
        go_ret
        exact ⟨_, rfl, .inr ⟨HN.out, by omega⟩, Hb.out.trans (hb1.mono Hb.out.size)⟩
      | true =>
        have HN := hide (Hn.out (by first | rfl | trivial))
        clear Hy Hn
        go_wp2_with fail
        refine HCx.out.mono ?_
        rintro e w1 ⟨rfl, hb1⟩
        go_wp2
        go_roundw
        case rel => exact ⟨q + 1, by omega, by go_num, HN, Hb.out.trans (hb1.mono Hb.out.size)⟩
        case measure => simp [intOf]; omega
    · have e : q = l.length := by omega
      subst e
      have HN := hide (all_endK (p := wgP) (fun j hj => Ho.out j hj hj))
      clear Ho HX HC
      go_wp2
      go_ret
      exact ⟨_, rfl, .inl ⟨HN.out, rfl⟩, Hb.out⟩
set_option maxHeartbeats 800000 in
theorem cfWg_any (l : List WgD) (a : Option Addr) (cap b : Nat) (w : World) (hl : l.length ≤ maxLen) (hx : wgsOf w a l) (hc : w.cell? ⟨b, 0, none⟩ = some (.func (.func 145) #[] #[])) :
    Calls Try.prog 202 #[.slice a l.length cap, .func (.func 203) #[] #[.pointer (some ⟨b, 0, none⟩)]] w fun e w' => e = .returned (.bool (!l.all wgP)) ∧ Below w.heap.size w w' := by
  have HC := hide (ixWg_any l a cap b w hl hx hc)
  clear hx hc
  go_enter Try.func202, Try.ntmps202
  go_wp2_with fail
  refine HC.out.mono ?_
  rintro e w1 ⟨r, rfl, ⟨hr, rfl⟩ | ⟨hr, h0⟩, hb⟩
  · have HN := hide hr
    clear hr
    go_wp2
    go_ret
    exact ⟨ret_bool (by rw [HN.out]; rfl), hb⟩
  · have HN := hide hr
    clear hr
    go_wp2
    go_ret
    exact ⟨ret_bool (by rw [HN.out]; first | (simp; done) | (simp; omega)), hb⟩
set_option maxHeartbeats 800000 in
theorem allOkWg_any (l : List WgD) (a : Option Addr) (cap : Nat) (m : Nat) (w : World) (hl : l.length ≤ maxLen) (hx : wgsOf w a l) :
    Calls Try.prog 146 #[.slice a l.length cap, .int .i64 (m : Int), .func (.func 145) #[] #[]] w fun e w' => e = .returned (.bool (decide (l.length ≤ m) && l.all wgP)) ∧ Below w.heap.size w w' := by
  have OX : Hid (objU (w.alloc (.cells #[.func (.func 145) #[] #[]] 202)) w.heap.size 202 [.func (.func 145) #[] #[]]) := objU.new _ _ _
  have BX : Hid (Below w.heap.size w (w.alloc (.cells #[.func (.func 145) #[] #[]] 202))) := (Below.refl _ _).alloc (Nat.le_refl _) _
  have HC := hide (cfWg_any l a cap w.heap.size _ hl (hx.below BX.out) (OX.out.cell 0 _ rfl))
  unfold maxLen at hl
  go_enter Try.func146, Try.ntmps146
  by_cases h4 : l.length ≤ m
  · have h4' : (l.length : Int) ≤ (m : Int) := by omega
    rw [decide_eq_true h4, Bool.true_and]
    clear h4
    generalize l.all wgP = r at *
    go_wp2_with fail
    refine HC.out.mono ?_
    rintro e w1 ⟨rfl, hb1⟩
    have BX1 : Hid (Below w.heap.size w w1) := BX.out.trans (hb1.mono BX.out.size)
    clear hb1 OX BX
    go_wp2
    go_ret
    exact ⟨ret_bool (by simp), BX1.out⟩
  · have h4' : ¬ (l.length : Int) ≤ (m : Int) := by omega
    rw [decide_eq_false h4, Bool.false_and]
    clear h4 HC
    go_wp2
    go_ret
    exact ⟨rfl, BX.out⟩
set_option maxRecDepth 100000 in
set_option maxHeartbeats 800000 in
theorem ascByWg_any (a : Option Addr) (cap : Nat) (L : List WgD) (w : World) (hl : L.length ≤ 1048576) (hrow : wgsOf w a L) :
    Calls Try.prog 147 #[.slice a L.length cap, .func (.func 148) #[] #[]] w fun e w' => e = .returned (.bool (valsB (L.map Prod.fst))) ∧ Below w.heap.size w w' := by
  obtain ⟨i0, hi, hz0, hz1, hz2⟩ := info_parts Try.infoStr
  have Hr := hide hrow
  clear hrow
  go_enter Try.func147, Try.ntmps147
  go_wp2
  go_loopw [5, 11] (fun s i wr => ∃ (k : Nat), k ≤ L.length ∧ i = .int .i64 k ∧ Hid (s ≠ .slice none 0 0) ∧ Hid (wr.ownsRow w.heap.size 9 1 s k (strVs (nmsL L k))) ∧ Below w.heap.size w wr) (fun _ i _ => L.length - (intOf i).toNat)
  case atStart => exact ⟨0, Nat.zero_le _, rfl, (fun h => by cases h), World.ownsRow_lit w #[] 0 (Nat.le_refl _) (by decide) rfl, (Below.refl _ _).alloc (Nat.le_refl _) _⟩
  case round =>
    obtain ⟨k, hk, rfl, Hnn, How, hbw⟩ := hrel
    by_cases hlt : k < L.length
    · obtain ⟨b, off, rfl, hat⟩ := (Hr.out.below hbw) (by omega)
      have c0 := (hat k hlt).1
      have c1 := (hat k hlt).2
      have Hsu := hide (nmsL_succ hlt)
      clear hat
      generalize L[k]'hlt = X at *
      obtain ⟨K, N⟩ := X
      dsimp only at *
      have HC : Hid (∀ wx, Calls Try.prog 148 #[.agg #[.string K, .int .i64 N]] wx fun e w' => e = .returned (.string K) ∧ Below wx.heap.size wx w') := fun wx => wgName_any (K, N) wx
      have hbw1 : Below w.heap.size w (wr.alloc (.cells #[.string K, .int .i64 N] 110)) := hbw.alloc hbw.size _
      have How1 := hide (How.out.alloc (.cells #[.string K, .int .i64 N] 110))
      go_wp2_with fail
      refine (HC.out _).mono ?_
      rintro e w2 ⟨rfl, hb2⟩
      have How2 := hide (owns_below_any How1.out hb2)
      have hbw2 := hbw1.trans (hb2.mono hbw1.size)
      clear HC hbw hbw1 hb2 How1 c0 c1
      go_wp2_with (at_builtin; refine wpList_append_own _ rfl _ _ 25 rfl w.heap.size 9 i0 _ 1 16 Try.underlying25 hi hz0 hz1 hz2 rfl (by decide) _ _ _ rfl (How2.out.alloc _) ⟨w2.heap.size, 0, none⟩ 1 1 [.string K] rfl rfl (cell_one_at1 _ _ rfl _ _) (fun x hx => by simp at hx; rcases hx with rfl; rfl) (by unfold maxLen; omega) (by omega) (by have := hbw2.size; simp; omega) ?_; intro v' w3 hown' hgrow3 hnil3)
      go_roundw
      case rel => exact ⟨k + 1, by omega, by go_num, (fun h => Hnn.out (hnil3.1 h).1), by rw [Hsu.out]; exact hown', Below.grown (hbw2.alloc hbw2.size _) hgrow3 (by have := hbw2.size; simp; omega) (fun j hj => (How.out.lt _ hj).1)⟩
      case measure => simp [intOf]; omega
    · have e : k = L.length := by omega
      subst e
      have Hf : Hid (∃ g cap, u5 = Value.slice (some ⟨g, 0, none⟩) L.length cap) := by
        rcases How.out.2 with ⟨h, _⟩ | ⟨g, cap, cur, h, _⟩
        · exact absurd h Hnn.out
        · exact ⟨g, cap, h⟩
      obtain ⟨g, cp, hv⟩ := Hf.out
      subst hv
      have HC := hide (iasc_any (some ⟨g, 0, none⟩) cp (L.map Prod.fst) wr (by unfold maxLen; simp; omega) (strOf_owns (by rw [← nmsL_all]; exact How.out)))
      rw [List.length_map] at HC
      clear Hr How Hnn Hf
      go_wp2_with fail
      refine HC.out.mono ?_
      rintro e w1 ⟨rfl, hb1⟩
      go_wp2
      go_ret
      exact ⟨rfl, hbw.trans (hb1.mono hbw.size)⟩
set_option maxHeartbeats 800000 in
theorem weighsOk_any (a : Option Addr) (cap : Nat) (L : List WgD) (w : World) (hl : L.length ≤ maxLen) (hz : okWgs L) (hrow : wgsOf w a L) :
    Calls Try.prog 73 #[.slice a L.length cap] w fun e w' => e = .returned (.bool (wgsB L)) ∧ Below w.heap.size w w' := by
  have E := hide (wgsB_three L)
  have HA : Hid (Calls Try.prog 146 #[.slice a L.length cap, .int .i64 12, .func (.func 145) #[] #[]] w fun e w' => e = .returned (.bool (decide (L.length ≤ 12) && L.all wgP)) ∧ Below w.heap.size w w') := allOkWg_any L a cap 12 w hl hrow
  have HB : Hid (L.length ≤ 12 → ∀ wx, Below w.heap.size w wx → Calls Try.prog 147 #[.slice a L.length cap, .func (.func 148) #[] #[]] wx fun e w' => e = .returned (.bool (valsB (L.map Prod.fst))) ∧ Below wx.heap.size wx w') := fun h wx hb => ascByWg_any a cap L wx (by omega) (hrow.below hb)
  have H12 : Hid ((decide (L.length ≤ 12) && L.all wgP) = true → L.length ≤ 12) := fun h => by
    rw [Bool.and_eq_true, decide_eq_true_eq] at h
    exact h.1
  clear hl hz hrow
  generalize (decide (L.length ≤ 12) && L.all wgP) = b0 at *
  go_enter Try.func73, Try.ntmps73
  go_wp2_with fail
  refine HA.out.mono ?_
  rintro e w1 ⟨rfl, hb1⟩
  have HB1 := hide hb1
  clear hb1 HA
  cases b0 with
  | false =>
    clear HB H12
    go_wp2
    go_ret
    exact ⟨ret_bool E.out.symm, HB1.out⟩
  | true =>
    have HC := hide (HB.out (H12.out rfl) w1 HB1.out)
    clear HB H12
    generalize valsB (L.map Prod.fst) = b1 at *
    go_wp2_with fail
    refine HC.out.mono ?_
    rintro e w2 ⟨rfl, hb2⟩
    go_wp2
    go_ret
    exact ⟨ret_bool (by rw [E.out]; simp), HB1.out.trans (hb2.mono HB1.out.size)⟩
end Go.Proofs.Ytdnodaoeflbfkaa
/- Right wants, on both sides. -/
namespace Go.Proofs.Ytdnodaoeflbfkaa
open Go.RowKit Go.BigFrame
set_option linter.unusedVariables false

set_option maxRecDepth 20000 in
set_option maxHeartbeats 1600000 in
theorem sWantOk_any (W : WaD) (xs : List Value) (w : World) (hq : okWa W) (hx : waH w W xs) :
    Calls Try.prog 17 #[.agg xs.toArray] w fun e w' => e = .returned (.bool (wanB W)) ∧ Below w.heap.size w w' := by
  obtain ⟨c1, c2, c3, rfl, ⟨a1, p1, rfl, h1⟩, ⟨a2, p2, rfl, h2⟩, a, p, rfl, h3⟩ := hx
  obtain ⟨z, T, B, L⟩ := W
  obtain ⟨q0, ⟨q1, q2⟩, ⟨q3, q4⟩, q5, q6⟩ := hq
  have E : Hid (wanB (z, T, B, L) = (inB z 0 10000 && selB T && nmsB B 8 && wgsB L)) := rfl
  dsimp only at *
  have HC0 : Hid (∀ wx, Calls Try.prog 65 #[.int .i64 z, .int .i64 0, .int .i64 10000] wx fun e w' => e = .returned (.bool (inB z 0 10000)) ∧ w' = wx) := fun wx => l1In_any z 0 10000 wx
  have HC1 : Hid (∀ wx, Below w.heap.size w wx → Calls Try.prog 66 #[.slice a1 T.length p1] wx fun e w' => e = .returned (.bool (selB T)) ∧ Below wx.heap.size wx w') := fun wx hb => sselOk_any a1 p1 T wx q1 q2 (h1.below hb)
  have HC2 : Hid (∀ wx, Below w.heap.size w wx → Calls Try.prog 67 #[.slice a2 B.length p2, .int .i64 8] wx fun e w' => e = .returned (.bool (nmsB B 8)) ∧ Below wx.heap.size wx w') := fun wx hb => l10Names_any a2 p2 8 B wx q3 q4 (h2.below hb)
  have OX : Hid (objU (w.alloc (.cells #[.int .i64 z, .slice a1 T.length p1, .slice a2 B.length p2, .slice a L.length p] 41)) w.heap.size 41 [.int .i64 z, .slice a1 T.length p1, .slice a2 B.length p2, .slice a L.length p]) := objU.new _ _ _
  have BX : Hid (Below w.heap.size w (w.alloc (.cells #[.int .i64 z, .slice a1 T.length p1, .slice a2 B.length p2, .slice a L.length p] 41))) := (Below.refl _ _).alloc (Nat.le_refl _) _
  have Hr := hide h3
  have Hz := hide q6
  unfold maxLen at q5
  clear h1 h2 h3 q0 q1 q2 q3 q4 q6
  generalize wanB (z, T, B, L) = R at *
  generalize inB z 0 10000 = b0 at *
  generalize selB T = b1 at *
  generalize nmsB B 8 = b2 at *
  go_enter Try.func17, Try.ntmps17
  go_wp2
  go_loopw [3] (fun i wr => ∃ (k : Nat), k ≤ L.length ∧ i = .int .i64 k ∧ Hid (∀ j, j < k → okW L j) ∧ Hid (objU wr w.heap.size 41 [.int .i64 z, .slice a1 T.length p1, .slice a2 B.length p2, .slice a L.length p]) ∧ Hid (Below w.heap.size w wr)) (fun i _ => L.length - (intOf i).toNat)
  case atStart => exact ⟨0, Nat.zero_le _, rfl, fun j h => by omega, OX, BX⟩
  case round =>
    clear OX BX
    obtain ⟨k, hk, rfl, Hx, HO, HB⟩ := hrel
    have o3 := HO.out.cell 3 _ rfl
    by_cases hlt : k < L.length
    · obtain ⟨b, off, rfl, hat⟩ := (Hr.out.below HB.out) (by omega)
      have c0 : wr.cell? ⟨b, off + k * 2, none⟩ = some (.string (wgK L k)) := by rw [wgK_get hlt]; exact (hat k hlt).1
      have c2 : wr.cell? ⟨b, off + k * 2 + 1, none⟩ = some (.int .i64 (wgN L k)) := by rw [wgN_get hlt]; exact (hat k hlt).2
      have cp : 0 < k → wr.cell? ⟨b, off + (k - 1) * 2, none⟩ = some (.string (wgK L (k - 1))) := fun h => by rw [wgK_get (show k - 1 < L.length by omega)]; exact (hat (k - 1) (by omega)).1
      have hzK : (wgK L k).size ≤ maxLen := by rw [wgK_get hlt]; exact (Hz.out _ (List.getElem_mem hlt)).1
      have Hs : Hid (okW L k → ∀ j, j < k + 1 → okW L j) := fun h => okW_succ Hx.out h
      have Hb : Hid (¬ okW L k → R = false) := fun h => by rw [E.out, wgsB_bad hlt h, Bool.and_false]
      have hcs := okW_cases L k
      clear hat Hx
      generalize wgK L k = K at *
      generalize wgN L k = N at *
      generalize wgK L (k - 1) = Q at *
      have hK := fun wx => (sname_any K wx hzK)
      have hV := fun wx => (l1In_any N 0 1000 wx)
      clear hzK
      rcases hcs with ⟨h1, hok⟩ | ⟨h1, h2, hok⟩ | ⟨h1, h2, h3, hok⟩ | ⟨h1, h2, h3, h4, hok⟩ | ⟨h1, h2, h3, h4, hok⟩
      · rw [h1] at hK
        have HK := hide hK
        have HV := hide hV
        clear hK hV h1 cp
        have Hn := hide (Hb.out hok.out)
        clear Hs Hb Hz Hr E
        go_wp2
        go_quiet (first | (go_at_call_of 64 K; exact Calls.quiet_of_same (HK.out _)) | (go_at_call 65; exact Calls.quiet_of_same (HV.out _)))
        go_wp2
        go_ret
        exact ⟨ret_bool Hn.out.symm, below_drewN HB.out _⟩
      · rw [h1] at hK
        rw [h2] at hV
        have HK := hide hK
        have HV := hide hV
        clear hK hV h1 h2 cp
        have Hn := hide (Hb.out hok.out)
        clear Hs Hb Hz Hr E
        go_wp2
        go_quiet (first | (go_at_call_of 64 K; exact Calls.quiet_of_same (HK.out _)) | (go_at_call 65; exact Calls.quiet_of_same (HV.out _)))
        go_wp2
        go_ret
        exact ⟨ret_bool Hn.out.symm, below_drewN HB.out _⟩
      · rw [h1] at hK
        rw [h2] at hV
        have HK := hide hK
        have HV := hide hV
        have hk0 : k = 0 := h3.out
        have h3' : decide ((0 : Int) < (k : Int)) = false := by rw [decide_eq_false_iff_not]; omega
        have h3'' : decide (0 < k) = false := by rw [decide_eq_false_iff_not]; omega
        have h3a : (k : Int) ≤ 0 := by omega
        clear hK hV h1 h2 cp h3 hk0
        have Hn := hide (Hs.out hok.out)
        clear Hs Hb
        go_wp2
        go_quiet (first | (go_at_call_of 64 K; exact Calls.quiet_of_same (HK.out _)) | (go_at_call 65; exact Calls.quiet_of_same (HV.out _)))
        go_wp2
        go_roundw
        case rel => exact ⟨k + 1, by omega, by go_num, Hn, HO.out.below (below_drewN (Below.refl _ _) _), below_drewN HB.out _⟩
        case measure => simp [intOf]; omega
      · rw [h1] at hK
        rw [h2] at hV
        have HK := hide hK
        have HV := hide hV
        have cp := cp h3
        have h3' : (0 : Int) < (k : Int) := by omega
        clear hK hV h1 h2
        have Hn := hide (Hs.out hok.out)
        clear Hs Hb
        go_wp2
        go_quiet (first | (go_at_call_of 64 K; exact Calls.quiet_of_same (HK.out _)) | (go_at_call 65; exact Calls.quiet_of_same (HV.out _)))
        go_wp2
        go_roundw
        case rel => exact ⟨k + 1, by omega, by go_num, Hn, HO.out.below (below_drewN (Below.refl _ _) _), below_drewN HB.out _⟩
        case measure => simp [intOf]; omega
      · rw [h1] at hK
        rw [h2] at hV
        have HK := hide hK
        have HV := hide hV
        have cp := cp h3
        have h3' : (0 : Int) < (k : Int) := by omega
        clear hK hV h1 h2
        have Hn := hide (Hb.out hok.out)
        clear Hs Hb E
        go_wp2
        go_quiet (first | (go_at_call_of 64 K; exact Calls.quiet_of_same (HK.out _)) | (go_at_call 65; exact Calls.quiet_of_same (HV.out _)))
        go_wp2
        go_ret
        exact ⟨ret_bool Hn.out.symm, below_drewN HB.out _⟩
    · have e : k = L.length := by omega
      subst e
      have E2 : Hid (R = (b0 && b1 && b2 && decide (L.length ≤ 12))) := by show _ = _; rw [E.out, wgsB_end Hx.out]
      clear E Hx Hr Hz
      have x0 := HO.out.cell 0 _ rfl
      cases b0 with
      | false =>
        clear HO
        go_wp2_with (go_at_call 65; refine (HC0.out _).mono ?_; rintro e w' ⟨rfl, rfl⟩)
        go_ret
        exact ⟨ret_bool E2.out.symm, HB.out⟩
      | true =>
        have x1 := HO.out.cell 1 _ rfl
        go_wp2_with (go_at_call 65; refine (HC0.out _).mono ?_; rintro e w' ⟨rfl, rfl⟩)
        refine (HC1.out _ HB.out).mono ?_
        rintro e w1 ⟨rfl, hb1⟩
        have OX1 := hide (HO.out.below hb1)
        have BX1 : Hid (Below w.heap.size w w1) := HB.out.trans (hb1.mono HB.out.size)
        clear HO HB hb1 x1 x0 o3
        cases b1 with
        | false =>
          clear OX1
          go_wp2
          go_ret
          exact ⟨ret_bool E2.out.symm, BX1.out⟩
        | true =>
          have x2 := OX1.out.cell 2 _ rfl
          go_wp2_with fail
          refine (HC2.out _ BX1.out).mono ?_
          rintro e w2 ⟨rfl, hb2⟩
          have OX2 := hide (OX1.out.below hb2)
          have BX2 : Hid (Below w.heap.size w w2) := BX1.out.trans (hb2.mono BX1.out.size)
          clear OX1 BX1 hb2 x2
          cases b2 with
          | false =>
            clear OX2
            go_wp2
            go_ret
            exact ⟨ret_bool E2.out.symm, BX2.out⟩
          | true =>
            have x3 := OX2.out.cell 3 _ rfl
            go_wp2
            go_ret
            exact ⟨ret_bool (by rw [E2.out, Bool.eq_iff_iff]; simp <;> omega), BX2.out⟩
set_option maxHeartbeats 800000 in
theorem iWantOk_any (W : WaD) (xs : List Value) (w : World) (hq : okWa W) (hx : waH w W xs) :
    Calls Try.prog 19 #[.agg xs.toArray] w fun e w' => e = .returned (.bool (wanB W)) ∧ Below w.heap.size w w' := by
  obtain ⟨c1, c2, c3, rfl, ⟨a1, p1, rfl, h1⟩, ⟨a2, p2, rfl, h2⟩, a, p, rfl, h3⟩ := hx
  obtain ⟨z, T, B, L⟩ := W
  obtain ⟨q0, ⟨q1, q2⟩, ⟨q3, q4⟩, q5⟩ := hq
  have E : Hid (wanB (z, T, B, L) = (inB z 0 10000 && selB T && (valsB B && decide (B.length ≤ 8)) && wgsB L)) := rfl
  dsimp only at *
  have HC0 : Hid (∀ wx, Calls Try.prog 71 #[.int .i64 z, .int .i64 10000] wx fun e w' => e = .returned (.bool (inB z 0 10000)) ∧ w' = wx) := fun wx => withinF_any z 10000 wx
  have HC1 : Hid (∀ wx, Below w.heap.size w wx → Calls Try.prog 72 #[.slice a1 T.length p1] wx fun e w' => e = .returned (.bool (selB T)) ∧ Below wx.heap.size wx w') := fun wx hb => iselOk_any a1 p1 T wx q1 (fun t ht => (q2 t ht).2.1) (h1.below hb)
  have HC2 : Hid (∀ wx, Below w.heap.size w wx → Calls Try.prog 74 #[.slice a2 B.length p2] wx fun e w' => e = .returned (.bool (valsB B)) ∧ Below wx.heap.size wx w') := fun wx hb => iasc_any a2 p2 B wx q3 (h2.below hb)
  have HC3 : Hid (∀ wx, Below w.heap.size w wx → Calls Try.prog 73 #[.slice a L.length p] wx fun e w' => e = .returned (.bool (wgsB L)) ∧ Below wx.heap.size wx w') := fun wx hb => weighsOk_any a p L wx q5.1 q5 (h3.below hb)
  have OX : Hid (objU (w.alloc (.cells #[.int .i64 z, .slice a1 T.length p1, .slice a2 B.length p2, .slice a L.length p] 41)) w.heap.size 41 [.int .i64 z, .slice a1 T.length p1, .slice a2 B.length p2, .slice a L.length p]) := objU.new _ _ _
  have BX : Hid (Below w.heap.size w (w.alloc (.cells #[.int .i64 z, .slice a1 T.length p1, .slice a2 B.length p2, .slice a L.length p] 41))) := (Below.refl _ _).alloc (Nat.le_refl _) _
  unfold maxLen at q3
  clear h1 h2 h3 q0 q1 q2 q4 q5
  generalize wanB (z, T, B, L) = R at *
  generalize inB z 0 10000 = b0 at *
  generalize selB T = b1 at *
  generalize valsB B = b2 at *
  generalize wgsB L = b3 at *
  go_enter Try.func19, Try.ntmps19
  have x0 := OX.out.cell 0 _ rfl
  cases b0 with
  | false =>
    go_wp2_with (go_at_call 71; refine (HC0.out _).mono ?_; rintro e w' ⟨rfl, rfl⟩)
    go_ret
    exact ⟨ret_bool E.out.symm, BX.out⟩
  | true =>
    have x1 := OX.out.cell 1 _ rfl
    go_wp2_with (go_at_call 71; refine (HC0.out _).mono ?_; rintro e w' ⟨rfl, rfl⟩)
    refine (HC1.out _ BX.out).mono ?_
    rintro e w1 ⟨rfl, hb1⟩
    have OX1 := hide (OX.out.below hb1)
    have BX1 : Hid (Below w.heap.size w w1) := BX.out.trans (hb1.mono BX.out.size)
    clear OX BX hb1 x1 x0
    cases b1 with
    | false =>
      clear OX1
      go_wp2
      go_ret
      exact ⟨ret_bool E.out.symm, BX1.out⟩
    | true =>
      have x3 := OX1.out.cell 3 _ rfl
      go_wp2_with fail
      refine (HC3.out _ BX1.out).mono ?_
      rintro e w2 ⟨rfl, hb2⟩
      have OX2 := hide (OX1.out.below hb2)
      have BX2 : Hid (Below w.heap.size w w2) := BX1.out.trans (hb2.mono BX1.out.size)
      clear OX1 BX1 hb2 x3
      cases b3 with
      | false =>
        clear OX2
        go_wp2
        go_ret
        exact ⟨ret_bool (by rw [E.out, Bool.and_false]), BX2.out⟩
      | true =>
        have x2 := OX2.out.cell 2 _ rfl
        by_cases h4 : B.length ≤ 8
        · have h4' : (B.length : Int) ≤ 8 := by omega
          have E2 : Hid (R = b2) := by show _ = _; rw [E.out, decide_eq_true h4, Bool.and_true, Bool.and_true]; simp
          clear E h4
          go_wp2_with fail
          refine (HC2.out _ BX2.out).mono ?_
          rintro e w3 ⟨rfl, hb3⟩
          go_wp2
          go_ret
          exact ⟨ret_bool E2.out.symm, BX2.out.trans (hb3.mono BX2.out.size)⟩
        · have h4' : ¬ (B.length : Int) ≤ 8 := by omega
          have E2 : Hid (R = false) := by show _ = _; rw [E.out, decide_eq_false h4, Bool.and_false]; simp
          clear E h4
          go_wp2
          go_ret
          exact ⟨ret_bool E2.out.symm, BX2.out⟩
end Go.Proofs.Ytdnodaoeflbfkaa
