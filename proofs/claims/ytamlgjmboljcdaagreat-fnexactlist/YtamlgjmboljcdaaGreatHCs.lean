/- Copying a tree row by row: what stands at the head of a round, without and within. -/
import Derived.Test.YtamlgjmboljcdaaGreatHCp
import Derived.Test.YtamlgjmboljcdaaGreatPMap2
namespace Go.Proofs.YtamlgjmboljcdaaGreat
open Go.RowKit
set_option linter.unusedVariables false

/-- addresses whose blocks are another's, and not among those that are yet to be met -/
def okS (H : Nat) (Ss : List Nat) (c : Addr) : Prop := c.block < H ∧ c.block ∉ Ss
/-- a copier: how much is left, and its map -/
def Cop (w : World) (t : TypeId) (f1 : Field) (b mm : Nat) (ok : Addr → Prop) : Prop := (∃ z, objU w b t [.int .i64 z, .map (some mm)]) ∧ PMap w [f1] mm ok
theorem Cop.mono {w : World} {t : TypeId} {f1 : Field} {b mm : Nat} {ok ok' : Addr → Prop} (h : Cop w t f1 b mm ok) (hm : ∀ c, ok c → ok' c) : Cop w t f1 b mm ok' := ⟨h.1, h.2.mono hm⟩
theorem Cop.outS {w w' : World} {t : TypeId} {f1 : Field} {b mm : Nat} {ok : Addr → Prop} {Q : List Nat} (h : Cop w t f1 b mm ok) (ho : OutS Q w w') (hb : b ∉ Q) (hmm : mm ∉ Q) (hq : ∀ c, ok c → c.block ∉ Q) : Cop w' t f1 b mm ok := by
  obtain ⟨⟨z, h1⟩, es, clock, h2, h3⟩ := h
  refine ⟨⟨z, h1.outS ho hb⟩, es, clock, (ho.block mm (Array.getElem?_eq_some_iff.1 h2).1 hmm).trans h2, fun e he => ?_⟩
  obtain ⟨c, ys, g1, g2, g3, cs, ty, g4⟩ := h3 e he
  exact ⟨c, ys, g1, g2, g3, cs, ty, (ho.block _ (Array.getElem?_eq_some_iff.1 g4).1 (hq c g3)).trans g4⟩
theorem Cop.below {w w' : World} {t : TypeId} {f1 : Field} {b mm : Nat} {ok : Addr → Prop} (h : Cop w t f1 b mm ok) (hb : Below w.heap.size w w') : Cop w' t f1 b mm ok := by
  obtain ⟨⟨z, h1⟩, h2⟩ := h
  exact ⟨⟨z, h1.below hb⟩, h2.below hb⟩
structure CpC where
  H : Nat
  T : TypeId
  Tl : TypeId
  tk : TypeId
  td : TypeId
  fk : Field
  fd : Field
  bk : Nat
  mp : Nat
  bd : Nat
  md : Nat
def CpC.fix (c : CpC) : List Nat := [c.bk, c.mp, c.bd, c.md]
structure CpO (c : CpC) (w wr : World) (d : UD) (vw lv : Value) (m : Nat) (L : List HL) (S Ss : List Nat) (gl capl : Nat) : Prop where
  elv : lv = .slice (some ⟨gl, 0, none⟩) L.length capl
  left : wr.ownsRow c.H c.Tl 1 (.slice (some ⟨gl, 0, none⟩) L.length capl) L.length (L.map HL.v)
  tree : hH wr (.l 5 1 d .nil) [vw] S L
  src : Srcs wr c.T c.H L Ss
  nnew : (S ++ L.map HL.g).Nodup
  anew : ∀ s ∈ S ++ L.map HL.g, c.H ≤ s ∧ s < wr.heap.size ∧ s ∉ c.fix ∧ s ≠ gl
  nsrc : Ss.Nodup
  asrc : ∀ s ∈ Ss, s < c.H
  ck : Cop wr c.tk c.fk c.bk c.mp (okS c.H Ss)
  cd : Cop wr c.td c.fd c.bd c.md (okS c.H Ss)
  fx : ∀ s ∈ c.fix, c.H ≤ s ∧ s < wr.heap.size ∧ s ≠ gl
  nfx : c.fix.Nodup
  mea : hWt L ≤ m
  bel : Below c.H w wr
structure CpI (c : CpC) (w wr : World) (d : UD) (vw lv : Value) (m : Nat) (h : HL) (q : Nat) (L0 : List HL) (S0 Ss0 : List Nat) (Lq : List HL) (Sq Ssq Sr : List Nat) (zs : List Value) (gl capl : Nat) : Prop where
  elv : lv = .slice (some ⟨gl, 0, none⟩) (L0 ++ Lq).length capl
  left : wr.ownsRow c.H c.Tl 1 (.slice (some ⟨gl, 0, none⟩) (L0 ++ Lq).length capl) (L0 ++ Lq).length ((L0 ++ Lq).map HL.v)
  tree : hH wr (.l 5 1 d .nil) [vw] S0 (L0 ++ [h])
  ty : tyS 5 h.n h.cs 6
  row : wr.ownsRow c.H c.T 5 h.v h.n zs
  done : hH wr (h.cs.takeN (q * 5)) (zs.take (q * 5)) Sq Lq
  rest : oH wr (h.cs.dropN (q * 5)) (zs.drop (q * 5)) Sr
  src0 : Srcs wr c.T c.H L0 Ss0
  srcq : Srcs wr c.T c.H Lq Ssq
  nnew : ((S0 ++ L0.map HL.g) ++ (h.g :: (Sq ++ Lq.map HL.g))).Nodup
  anew : ∀ s ∈ (S0 ++ L0.map HL.g) ++ (h.g :: (Sq ++ Lq.map HL.g)), c.H ≤ s ∧ s < wr.heap.size ∧ s ∉ c.fix ∧ s ≠ gl
  nsrc : ((Ss0 ++ Ssq) ++ Sr).Nodup
  asrc : ∀ s ∈ (Ss0 ++ Ssq) ++ Sr, s < c.H
  ck : Cop wr c.tk c.fk c.bk c.mp (okS c.H ((Ss0 ++ Ssq) ++ Sr))
  cd : Cop wr c.td c.fd c.bd c.md (okS c.H ((Ss0 ++ Ssq) ++ Sr))
  fx : ∀ s ∈ c.fix, c.H ≤ s ∧ s < wr.heap.size ∧ s ≠ gl
  nfx : c.fix.Nodup
  mea : hWt L0 + hWt Lq + uszD (h.cs.dropN (q * 5)) + q ≤ m
  bel : Below c.H w wr
theorem owns_base {w : World} {B : Nat} {e : TypeId} {k n : Nat} {v : Value} {xs : List Value} (h : w.ownsRow B e k v n xs) : w.ownsRow 0 e k v n xs := by
  refine ⟨h.1, ?_⟩
  rcases h.2 with hh | ⟨g, cap, cur, a1, a2, a3⟩
  · exact .inl hh
  · exact .inr ⟨g, cap, cur, a1, Nat.zero_le _, a3⟩
/-- the last row is taken off -/
theorem CpI.start {c : CpC} {w wr : World} {d : UD} {vw lv : Value} {m : Nat} {L : List HL} {h : HL} {S Ss : List Nat} {gl capl : Nat} (o : CpO c w wr d vw lv m (L ++ [h]) S Ss gl capl) :
    ∃ Ss0 Sr zs, CpI c w wr d vw (.slice (some ⟨gl, 0, none⟩) L.length capl) m h 0 L S Ss0 [] [] [] Sr zs gl capl ∧ 0 < h.n := by
  obtain ⟨Ss0, S1, rfl, h1, ⟨zs, Sr, S3, rfl, h2, h3, h4, h5, rfl⟩⟩ := o.src.split
  refine ⟨Ss0, Sr, zs, ⟨by simp, ?_, o.tree, h3, h4, ?_, ?_, h1, rfl, ?_, ?_, ?_, ?_, ?_, ?_, o.fx, o.nfx, ?_, o.bel⟩, h2⟩
  · have := owns_short o.left (m := L.length) (by simp)
    rw [List.append_nil]
    have e : ((L ++ [h]).map HL.v).take (L.length * 1) = L.map HL.v := by simp
    rw [e] at this
    exact this
  · rw [Nat.zero_mul]; exact ⟨by simp, rfl, rfl⟩
  · rw [Nat.zero_mul, UD.dropN_zero, List.drop_zero]; exact h5
  · have := o.nnew
    simp only [List.map_append, List.map_cons, List.map_nil, List.append_nil] at this ⊢
    rw [List.append_assoc]; exact this
  · intro s hs
    apply o.anew s
    simp only [List.map_append, List.map_cons, List.map_nil, List.append_nil, List.mem_append, List.mem_cons, List.not_mem_nil, or_false] at hs ⊢
    grind
  · have := o.nsrc; simpa using this
  · have := o.asrc; simpa using this
  · have := o.ck; simpa using this
  · have := o.cd; simpa using this
  · have := o.mea; rw [hWt_app, hWt_one] at this; rw [hWt_nil, Nat.zero_mul, UD.dropN_zero]; omega
/-- the row is through -/
theorem CpI.over {c : CpC} {w wr : World} {d : UD} {vw lv : Value} {m : Nat} {h : HL} {L0 : List HL} {S0 Ss0 : List Nat} {Lq : List HL} {Sq Ssq Sr : List Nat} {zs : List Value} {gl capl : Nat} (i : CpI c w wr d vw lv m h h.n L0 S0 Ss0 Lq Sq Ssq Sr zs gl capl) (hn : 0 < h.n) :
    ∃ S' m', m' < m ∧ CpO c w wr d vw lv m' (L0 ++ Lq) S' (Ss0 ++ Ssq) gl capl := by
  have hlen : h.cs.len = h.n * 5 := i.ty.2.2.2.1
  have e1 : h.cs.takeN (h.n * 5) = h.cs := by apply UD.ext; unfold UD.takeN; rw [UD.toL_ofL]; exact List.take_of_length_le (Nat.le_of_eq hlen)
  have e2 : zs.take (h.n * 5) = zs := List.take_of_length_le (by rw [i.row.1]; exact Nat.le_refl _)
  have hd := i.done
  rw [e1, e2] at hd
  obtain ⟨S', h1, h2⟩ := hH.fill (g := h.g) (n := h.n) (cap := h.cap) (dc := h.cs) (owns_base i.row) hd _ _ _ _ L0 i.tree rfl
  have hmem : ∀ s ∈ S', s ∈ S0 ++ h.g :: Sq := fun s hs => h2.mem_iff.1 hs
  have hm := i.mea
  refine ⟨S', hWt L0 + hWt Lq, by omega, ⟨i.elv, i.left, h1, i.src0.app i.srcq, ?_, ?_, ?_, ?_, ?_, ?_, i.fx, i.nfx, by rw [hWt_app]; exact Nat.le_refl _, i.bel⟩⟩
  · have hp : (S' ++ (L0 ++ Lq).map HL.g).Perm ((S0 ++ L0.map HL.g) ++ (h.g :: (Sq ++ Lq.map HL.g))) := by
      refine (h2.append_right _).trans ?_
      simp only [List.map_append, List.append_assoc, List.cons_append]
      refine List.Perm.append_left S0 ?_
      have : (h.g :: (Sq ++ (L0.map HL.g ++ Lq.map HL.g))).Perm ((h.g :: Sq) ++ L0.map HL.g ++ Lq.map HL.g) := by simp
      refine this.trans ?_
      have : ((h.g :: Sq) ++ L0.map HL.g ++ Lq.map HL.g).Perm ((L0.map HL.g ++ (h.g :: Sq)) ++ Lq.map HL.g) := List.Perm.append_right _ List.perm_append_comm
      refine this.trans ?_
      simp
    exact hp.nodup_iff.2 i.nnew
  · intro s hs
    apply i.anew s
    simp only [List.map_append, List.mem_append, List.mem_cons] at hs ⊢
    rcases hs with hs | hs | hs
    · have := hmem s hs
      simp only [List.mem_append, List.mem_cons] at this
      grind
    · grind
    · grind
  · exact (List.nodup_append.1 i.nsrc).1
  · exact fun s hs => i.asrc s (by simp at hs ⊢; grind)
  · exact i.ck.mono (fun a ha => ⟨ha.1, fun hs => ha.2 (List.mem_append_left _ hs)⟩)
  · exact i.cd.mono (fun a ha => ⟨ha.1, fun hs => ha.2 (List.mem_append_left _ hs)⟩)
theorem mWt_row5 (da : UD) (q : Nat) : uszD (da.dropN (q * 5)) = uszD (rowU da 5 q) + uszD (da.dropN ((q + 1) * 5)) := by rw [← uszD_app, ← UD.drop_row]
theorem set34 (A ys : List Value) (n : Nat) (hA : A.length = n) (z0 z1 z2 s3 s4 kv dv : Value) : ((A ++ (z0 :: z1 :: z2 :: s3 :: s4 :: ys)).set (n + 3) kv).set (n + 4) dv = A ++ (z0 :: z1 :: z2 :: kv :: dv :: ys) := by
  subst hA
  simp
theorem CpI.step {c : CpC} {w wr w' : World} {d : UD} {vw lv : Value} {m : Nat} {h : HL} {q : Nat} {L0 : List HL} {S0 Ss0 : List Nat} {Lq : List HL} {Sq Ssq Sr : List Nat} {zs : List Value} {gl capl : Nat} (i : CpI c w wr d vw lv m h q L0 S0 Ss0 Lq Sq Ssq Sr zs gl capl) (hq : q < h.n)
    {z0 z1 z2 s3 s4 kv dv : Value} {n3 n4 : Nat} {c3 c4 : UD} (hR : rowU h.cs 5 q = .p z0 (.p z1 (.p z2 (.l 1 n3 c3 (.l 5 n4 c4 .nil))))) {ys : List Value} (hz : zs.drop (q * 5) = z0 :: z1 :: z2 :: s3 :: s4 :: ys) {S3 S4 Sb : List Nat} (hSr : Sr = (S3 ++ S4) ++ Sb) (hb : oH wr (h.cs.dropN ((q + 1) * 5)) ys Sb)
    (hout : OutS (c.fix ++ [gl, h.g]) wr w') (hrow : w'.ownsRow c.H c.T 5 h.v h.n ((zs.set (q * 5 + 3) kv).set (q * 5 + 4) dv)) {Sk : List Nat} (hk : hH w' (.l 1 n3 c3 .nil) [kv] Sk []) (hSk : own2 Sk wr.heap.size w'.heap.size)
    {M : List HL} {S4' : List Nat} (hd : hH w' (.l 5 n4 c4 .nil) [dv] [] M) (hM : Srcs w' c.T c.H M S4') (hMn : (M.map HL.g).Nodup) (hMs : ∀ s ∈ M.map HL.g, wr.heap.size ≤ s ∧ s < w'.heap.size ∧ s ∉ Sk) (hS4 : S4'.Nodup) (hS4' : ∀ s ∈ S4', s ∈ S4)
    {gl' capl' : Nat} (hleft : w'.ownsRow c.H c.Tl 1 (.slice (some ⟨gl', 0, none⟩) (L0 ++ (Lq ++ M)).length capl') (L0 ++ (Lq ++ M)).length ((L0 ++ (Lq ++ M)).map HL.v)) (hgl : gl' = gl ∨ (wr.heap.size ≤ gl' ∧ gl' ∉ Sk ∧ gl' ∉ M.map HL.g))
    (hck : Cop w' c.tk c.fk c.bk c.mp (okS c.H ((Ss0 ++ (Ssq ++ S4')) ++ Sb))) (hcd : Cop w' c.td c.fd c.bd c.md (okS c.H ((Ss0 ++ (Ssq ++ S4')) ++ Sb))) (hwt : hWt M ≤ uszD c4) :
    ∃ Sq' zs', CpI c w w' d vw (.slice (some ⟨gl', 0, none⟩) (L0 ++ (Lq ++ M)).length capl') m h (q + 1) L0 S0 Ss0 (Lq ++ M) Sq' (Ssq ++ S4') Sb zs' gl' capl' := by
  have hsz := hout.size
  have hlen := i.row.1
  have hle : (q + 1) * 5 ≤ h.n * 5 := Nat.mul_le_mul_right 5 hq
  have hgln : c.H ≤ gl ∧ gl < wr.heap.size := ublk_lt i.left gl (by simp [blkOf, Value.ownBlock])
  have hgH : c.H ≤ h.g ∧ h.g < wr.heap.size := ublk_lt i.row h.g (by simp [HL.v, blkOf, Value.ownBlock])
  have hA : (zs.take (q * 5)).length = q * 5 := by rw [List.length_take]; omega
  have hzs : zs = zs.take (q * 5) ++ (z0 :: z1 :: z2 :: s3 :: s4 :: ys) := by rw [← hz, List.take_append_drop]
  have hset : (zs.set (q * 5 + 3) kv).set (q * 5 + 4) dv = zs.take (q * 5) ++ (z0 :: z1 :: z2 :: kv :: dv :: ys) := by
    have := set34 (zs.take (q * 5)) ys (q * 5) hA z0 z1 z2 s3 s4 kv dv
    rw [← hzs] at this; exact this
  rw [hset] at hrow
  have hnew := i.anew
  have hnn := i.nnew
  have hQ : ∀ s, s ∈ (S0 ++ L0.map HL.g) ++ (Sq ++ Lq.map HL.g) → s ∉ c.fix ++ [gl, h.g] := by
    intro s hs hx
    have h1 : s ∈ (S0 ++ L0.map HL.g) ++ (h.g :: (Sq ++ Lq.map HL.g)) := by simp only [List.mem_append, List.mem_cons] at hs ⊢; grind
    have h2 := hnew s h1
    simp only [List.mem_append, List.mem_cons, List.not_mem_nil, or_false] at hx
    rcases hx with hx | rfl | rfl
    · exact h2.2.2.1 hx
    · exact h2.2.2.2 rfl
    · have := List.nodup_append.1 hnn
      have h3 := List.nodup_cons.1 this.2.1
      simp only [List.mem_append] at hs
      rcases hs with hs | hs
      · exact this.2.2 _ (by simpa using hs) h.g (by simp) rfl
      · exact h3.1 (by simpa using hs)
  have hQH : ∀ s, s < c.H → s ∉ c.fix ++ [gl, h.g] := by
    intro s hs hx
    simp only [List.mem_append, List.mem_cons, List.not_mem_nil, or_false] at hx
    rcases hx with hx | rfl | rfl
    · have := (i.fx s hx).1; omega
    · omega
    · omega
  have fr : ∀ s, s < wr.heap.size → s ∉ c.fix ++ [gl, h.g] → w'.heap[s]? = wr.heap[s]? := fun s h1 h2 => hout.block s h1 h2
  refine ⟨Sq ++ (Sk ++ []), _, ⟨rfl, hleft, i.tree.frame _ _ _ _ (fun s hs => fr s (i.tree.lt _ _ _ _ s hs) (hQ s (by simp [hs]))), i.ty, hrow, ?_, ?_, i.src0.frame (fun s hs => fr s (i.src0.lt.1 s hs) (hQH s (i.asrc s (by simp [hs])))) (fun x hx => fr x.g (i.src0.lt.2 x hx).2 (hQ x.g (by simp only [List.mem_append, List.mem_map]; exact .inl (.inr ⟨x, hx, rfl⟩)))), ?_, ?_, ?_, ?_, ?_, hck, hcd, ?_, i.nfx, ?_, ?_⟩⟩
  · rw [UD.take_row, hR]
    have e : (zs.take (q * 5) ++ (z0 :: z1 :: z2 :: kv :: dv :: ys)).take ((q + 1) * 5) = zs.take (q * 5) ++ [z0, z1, z2, kv, dv] := by
      rw [Nat.succ_mul, List.take_append, hA, Nat.add_sub_cancel_left, List.take_of_length_le (by omega)]; rfl
    rw [e]
    refine hH.app (i.done.frame _ _ _ _ (fun s hs => fr s (i.done.lt _ _ _ _ s hs) (hQ s (by simp [hs])))) ?_
    obtain ⟨kc, kys, k1, k2, k3, k4, e1, e2, e3, k5, k6, e4, e5, e6⟩ := hk
    subst e4 e5 e6
    cases e1
    rw [List.append_nil] at e2 e3
    subst e2
    subst e3
    exact ⟨_, rfl, _, rfl, _, rfl, kv, [dv], Sk, [], [], M, rfl, rfl, rfl, k5, k6, hd⟩
  · have e : (zs.take (q * 5) ++ (z0 :: z1 :: z2 :: kv :: dv :: ys)).drop ((q + 1) * 5) = ys := by
      rw [Nat.succ_mul, List.drop_append, hA, Nat.add_sub_cancel_left, List.drop_of_length_le (by omega)]; rfl
    rw [e]
    exact hb.frame _ _ _ (fun s hs => fr s (hb.lt _ _ _ s hs) (hQH s (i.asrc s (by simp [hSr, hs]))))
  · exact (i.srcq.frame (fun s hs => fr s (i.srcq.lt.1 s hs) (hQH s (i.asrc s (by simp [hs])))) (fun x hx => fr x.g (i.srcq.lt.2 x hx).2 (hQ x.g (by simp only [List.mem_append, List.mem_map]; exact .inr (.inr ⟨x, hx, rfl⟩))))).app hM
  · simp only [List.map_append, List.append_nil]
    have hk1 := hSk.1
    have hk2 := hSk.2
    have hlt : ∀ s ∈ (S0 ++ L0.map HL.g) ++ (h.g :: (Sq ++ Lq.map HL.g)), s < wr.heap.size := fun s hs => (hnew s hs).2.1
    simp only [List.nodup_append, List.nodup_cons, List.mem_append, List.mem_cons] at hnn hlt ⊢
    grind
  · intro s hs
    have hfx := i.fx
    have hk2 := hSk.2
    simp only [List.map_append, List.append_nil, List.mem_append, List.mem_cons] at hs hnew
    have hold : ∀ s, s < wr.heap.size → s ≠ gl → s ≠ gl' := by
      intro s h1 h2
      rcases hgl with rfl | ⟨h3, _, _⟩
      · exact h2
      · omega
    have hnf : ∀ s, wr.heap.size ≤ s → s ∉ c.fix ∧ s ≠ gl := fun s h1 => ⟨fun h2 => by have := (hfx s h2).2.1; omega, by omega⟩
    grind
  · have hn2 := i.nsrc
    rw [hSr] at hn2
    simp only [List.nodup_append, List.mem_append] at hn2 ⊢
    grind
  · intro s hs
    apply i.asrc s
    rw [hSr]
    simp only [List.mem_append] at hs ⊢
    grind
  · intro s hs
    have := i.fx s hs
    refine ⟨this.1, by omega, ?_⟩
    rcases hgl with rfl | ⟨h3, _, _⟩
    · exact this.2.2
    · omega
  · have hm := i.mea
    have e := mWt_row5 h.cs q
    rw [hR] at e
    have e2 : uszD (UD.p z0 (.p z1 (.p z2 (.l 1 n3 c3 (.l 5 n4 c4 .nil))))) = uszD c3 + uszD c4 + 5 := by simp only [uszD]; omega
    rw [e2] at e
    rw [hWt_app]
    omega
  · exact i.bel.trans (hout.below (fun t ht => by
      simp only [List.mem_append, List.mem_cons, List.not_mem_nil, or_false] at ht
      rcases ht with ht | rfl | rfl
      · exact (i.fx t ht).1
      · exact hgln.1
      · exact hgH.1) (by omega))
end Go.Proofs.YtamlgjmboljcdaaGreat
