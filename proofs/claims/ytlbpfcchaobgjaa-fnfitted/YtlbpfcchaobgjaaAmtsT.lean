import Derived.Test.YtlbpfcchaobgjaaAmts3
import Derived.BigQuiet
import Derived.Deep.QuietTactic
namespace Go.Proofs.Ytlbpfcchaobgjaa
open Go.RowKit Go.BigFrame
set_option linter.unusedVariables false
theorem Has3.drew {w : World} {b : Nat} {x y z : Int} (h : Has3 w b x y z) : Has3 w.drew b x y z := ⟨h.c0, h.c1, h.c2, h.f0, h.f1, h.f2⟩
theorem Has3.drewN {w : World} {b : Nat} {x y z : Int} (h : Has3 w b x y z) (n : Nat) : Has3 (w.drewN n) b x y z := ⟨h.c0, h.c1, h.c2, h.f0, h.f1, h.f2⟩
/-- two arguments in their boxes, all older blocks as they were -/
structure Two (W : World) (H : Nat) (a b c x y z : Int) (wx : World) : Prop where
  l : Has3 wx H a b c
  r : Has3 wx (H + 1) x y z
  bel : Below W.heap.size W wx
theorem Two.later {W w w' : World} {H : Nat} {a b c x y z : Int} (q : Two W H a b c x y z w) (hb : Below w.heap.size w w') : Two W H a b c x y z w' := ⟨q.l.later hb, q.r.later hb, q.bel.trans (hb.mono q.bel.size)⟩
theorem Two.drew {W w : World} {H : Nat} {a b c x y z : Int} (q : Two W H a b c x y z w) : Two W H a b c x y z w.drew := ⟨q.l.drew, q.r.drew, Below.drew q.bel⟩
theorem Two.drewN {W w : World} {H : Nat} {a b c x y z : Int} (q : Two W H a b c x y z w) (n : Nat) : Two W H a b c x y z (w.drewN n) := ⟨q.l.drewN n, q.r.drewN n, below_drewN q.bel n⟩
theorem Two.new (W : World) (a b c x y z : Int) (t t' : TypeId) : Two W W.heap.size a b c x y z ((W.alloc (.cells #[.int .i64 a, .int .i64 b, .int .i64 c] t)).alloc (.cells #[.int .i64 x, .int .i64 y, .int .i64 z] t')) :=
  ⟨by constructor <;> simp [go_sem], by constructor <;> simp [go_sem], ((Below.refl _ _).alloc (Nat.le_refl _) _).alloc (by simp) _⟩
theorem Two.cells {W w : World} {H : Nat} {a b c x y z : Int} (q : Two W H a b c x y z w) : w.cell? ⟨H, 0, none⟩ = some (.int .i64 a) ∧ w.cell? ⟨H, 1, none⟩ = some (.int .i64 b) ∧ w.cell? ⟨H, 2, none⟩ = some (.int .i64 c) ∧
    w.cell? ⟨H + 1, 0, none⟩ = some (.int .i64 x) ∧ w.cell? ⟨H + 1, 1, none⟩ = some (.int .i64 y) ∧ w.cell? ⟨H + 1, 2, none⟩ = some (.int .i64 z) := ⟨q.l.c0, q.l.c1, q.l.c2, q.r.c0, q.r.c1, q.r.c2⟩
theorem Two.cellsA {W w : World} {H : Nat} {a b c x y z : Int} (q : Two W H a b c x y z w) : (∀ o, (w.alloc o).cell? ⟨H, 0, none⟩ = some (.int .i64 a)) ∧ (∀ o, (w.alloc o).cell? ⟨H, 1, none⟩ = some (.int .i64 b)) ∧ (∀ o, (w.alloc o).cell? ⟨H, 2, none⟩ = some (.int .i64 c)) ∧
    (∀ o, (w.alloc o).cell? ⟨H + 1, 0, none⟩ = some (.int .i64 x)) ∧ (∀ o, (w.alloc o).cell? ⟨H + 1, 1, none⟩ = some (.int .i64 y)) ∧ (∀ o, (w.alloc o).cell? ⟨H + 1, 2, none⟩ = some (.int .i64 z)) := by
  have h : ∀ o, Two W H a b c x y z (w.alloc o) := fun o => q.later ((Below.refl _ _).alloc (Nat.le_refl _) o)
  exact ⟨fun o => (h o).l.c0, fun o => (h o).l.c1, fun o => (h o).l.c2, fun o => (h o).r.c0, fun o => (h o).r.c1, fun o => (h o).r.c2⟩
section
variable {W w w' : World} {H : Nat} {a b c x y z : Int}
theorem Two.next (q : Hid (Two W H a b c x y z w)) (hb : Below w.drew.heap.size w.drew w') : Hid (Two W H a b c x y z w') := q.out.drew.later hb
theorem Two.next0 (q : Hid (Two W H a b c x y z w)) (hb : Below w.heap.size w w') : Hid (Two W H a b c x y z w') := q.out.later hb
theorem below_new (w : World) (o : Obj) : Below w.heap.size w (w.alloc o) := (Below.refl _ _).alloc (Nat.le_refl _) o
theorem Two.nextA {o : Obj} (q : Hid (Two W H a b c x y z w)) (hb : Below (w.alloc o).heap.size (w.alloc o) w') : Hid (Two W H a b c x y z w') := (q.out.later (below_new w o)).later hb
theorem Two.nextAD {o : Obj} (q : Hid (Two W H a b c x y z w)) (hb : Below (w.alloc o).drew.heap.size (w.alloc o).drew w') : Hid (Two W H a b c x y z w') := (q.out.later (below_new w o)).drew.later hb
/-- a block that the call has made, of these three numbers -/
structure One (H B : Nat) (r s t : Int) (w : World) : Prop where
  gt : H < B
  has : Has3 w B r s t
variable {B : Nat} {r s t : Int}
theorem Has3.new (w : World) (r s t : Int) (T : TypeId) : Has3 (w.alloc (.cells #[.int .i64 r, .int .i64 s, .int .i64 t] T)) w.heap.size r s t := by constructor <;> simp [go_sem]
theorem Two.rlt (q : Hid (Two W H a b c x y z w)) : H + 1 < w.heap.size := q.out.r.lt
theorem One.blt (q : Hid (One H B r s t w)) : B < w.heap.size := q.out.has.lt
theorem One.new {T : TypeId} (q : H < w.heap.size) (hb : Below (w.alloc (.cells #[.int .i64 r, .int .i64 s, .int .i64 t] T)).heap.size (w.alloc (.cells #[.int .i64 r, .int .i64 s, .int .i64 t] T)) w') : Hid (One H w.heap.size r s t w') := ⟨q, (Has3.new w r s t T).later hb⟩
theorem One.newD {T : TypeId} (q : H < w.heap.size) (hb : Below (w.alloc (.cells #[.int .i64 r, .int .i64 s, .int .i64 t] T)).drew.heap.size (w.alloc (.cells #[.int .i64 r, .int .i64 s, .int .i64 t] T)).drew w') : Hid (One H w.heap.size r s t w') := ⟨q, (Has3.new w r s t T).drew.later hb⟩
theorem One.next (q : Hid (One H B r s t w)) (hb : Below w.drew.heap.size w.drew w') : Hid (One H B r s t w') := ⟨q.out.gt, q.out.has.drew.later hb⟩
theorem One.next0 (q : Hid (One H B r s t w)) (hb : Below w.heap.size w w') : Hid (One H B r s t w') := ⟨q.out.gt, q.out.has.later hb⟩
theorem One.nextA {o : Obj} (q : Hid (One H B r s t w)) (hb : Below (w.alloc o).heap.size (w.alloc o) w') : Hid (One H B r s t w') := ⟨q.out.gt, (q.out.has.later (below_new w o)).later hb⟩
theorem One.nextAD {o : Obj} (q : Hid (One H B r s t w)) (hb : Below (w.alloc o).drew.heap.size (w.alloc o).drew w') : Hid (One H B r s t w') := ⟨q.out.gt, (q.out.has.later (below_new w o)).drew.later hb⟩
theorem Has3.put (h : Has3 w B r s t) (k : Nat) (v : Value) (p : Addr) (hp : p.block ≠ B) : Has3 (w.setCell p v) B r s t :=
  ⟨(World.cell?_setCell_other _ _ _ _ (by rintro rfl; exact hp rfl)).trans h.c0, (World.cell?_setCell_other _ _ _ _ (by rintro rfl; exact hp rfl)).trans h.c1, (World.cell?_setCell_other _ _ _ _ (by rintro rfl; exact hp rfl)).trans h.c2,
    (World.frozen?_setCell _ _ _ _).trans h.f0, (World.frozen?_setCell _ _ _ _).trans h.f1, (World.frozen?_setCell _ _ _ _).trans h.f2⟩
theorem Has3.put3 (h : Has3 w B r s t) (v0 v1 v2 : Value) (k : Nat) (hp : k ≠ B) : Has3 (((w.setCell ⟨k, 0, none⟩ v0).setCell ⟨k, 1, none⟩ v1).setCell ⟨k, 2, none⟩ v2) B r s t := ((h.put 0 v0 ⟨k, 0, none⟩ hp).put 0 v1 ⟨k, 1, none⟩ hp).put 0 v2 ⟨k, 2, none⟩ hp
theorem Has3.set3 (h : Has3 w B r s t) (r' s' t' : Int) : Has3 (((w.setCell ⟨B, 0, none⟩ (.int .i64 r')).setCell ⟨B, 1, none⟩ (.int .i64 s')).setCell ⟨B, 2, none⟩ (.int .i64 t')) B r' s' t' := by
  obtain ⟨a0, a1, a2, f0, f1, f2⟩ := h
  constructor <;> simp [go_sem, a0, a1, a2, f0, f1, f2]
/-- the end of the first region: the two arguments, and what was answered in a block B -/
structure Got (W : World) (H : Nat) (a b c x y z : Int) (B : Nat) (r s t : Int) (w : World) : Prop where
  two : Two W H a b c x y z w
  one : One (H + 1) B r s t w
theorem Got.fresh (q : Hid (Two W H a b c x y z w)) (r s t : Int) (T : TypeId) : Hid (Got W H a b c x y z w.heap.size r s t (w.alloc (.cells #[.int .i64 r, .int .i64 s, .int .i64 t] T))) :=
  ⟨q.out.later (below_new _ _), q.out.r.lt, Has3.new _ _ _ _ _⟩
theorem Got.put {r0 s0 t0 : Int} (hW : W.heap.size = H) (q : Hid (Two W H a b c x y z w)) (o : Hid (One (H + 1) B r0 s0 t0 w)) (r s t : Int) : Hid (Got W H a b c x y z B r s t (((w.setCell ⟨B, 0, none⟩ (.int .i64 r)).setCell ⟨B, 1, none⟩ (.int .i64 s)).setCell ⟨B, 2, none⟩ (.int .i64 t))) := by
  have hg := o.out.gt
  exact ⟨⟨q.out.l.put3 _ _ _ _ (by omega), q.out.r.put3 _ _ _ _ (by omega), ((q.out.bel.setCell (by show _ ≤ B; omega) _).setCell (by show _ ≤ B; omega) _).setCell (by show _ ≤ B; omega) _⟩, ⟨hg, o.out.has.set3 r s t⟩⟩
/-- the end of the second: both answers -/
structure Done (W : World) (B : Nat) (r s t : Int) (B' : Nat) (r' s' t' : Int) (w : World) : Prop where
  l : Has3 w B r s t
  r : Has3 w B' r' s' t'
  bel : Below W.heap.size W w
theorem Done.fresh (q : Hid (Two W H a b c x y z w)) (o : Hid (One (H + 1) B r s t w)) (r' s' t' : Int) (T : TypeId) : Hid (Done W B r s t w.heap.size r' s' t' (w.alloc (.cells #[.int .i64 r', .int .i64 s', .int .i64 t'] T))) :=
  ⟨o.out.has.later (below_new _ _), Has3.new _ _ _ _ _, q.out.bel.alloc q.out.bel.size _⟩
theorem Done.put {B' : Nat} {r0 s0 t0 : Int} (hW : W.heap.size = H) (q : Hid (Two W H a b c x y z w)) (o : Hid (One (H + 1) B r s t w)) (o' : Hid (One B B' r0 s0 t0 w)) (r' s' t' : Int) : Hid (Done W B r s t B' r' s' t' (((w.setCell ⟨B', 0, none⟩ (.int .i64 r')).setCell ⟨B', 1, none⟩ (.int .i64 s')).setCell ⟨B', 2, none⟩ (.int .i64 t'))) := by
  have h1 := o.out.gt
  have h2 := o'.out.gt
  exact ⟨o.out.has.put3 _ _ _ _ (by omega), o'.out.has.set3 _ _ _, ((q.out.bel.setCell (by show _ ≤ B'; omega) _).setCell (by show _ ≤ B'; omega) _).setCell (by show _ ≤ B'; omega) _⟩
end
end Go.Proofs.Ytlbpfcchaobgjaa
