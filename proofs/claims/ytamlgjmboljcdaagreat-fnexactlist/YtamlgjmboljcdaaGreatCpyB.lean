/- Copying any value: what the steps within a round leave. -/
import Derived.Test.YtamlgjmboljcdaaGreatCpy1
import Derived.Test.YtamlgjmboljcdaaGreatCpy2
import Derived.Test.YtamlgjmboljcdaaGreatUTValue
namespace Go.Proofs.YtamlgjmboljcdaaGreat
open Go.RowKit Go.BigFrame
set_option linter.unusedVariables false

def cpc (H N : Nat) : CpC := ⟨H, 31, 29, 219, 222, cpS1, cpV1, H + 1, H, N + 1, N⟩
theorem UD.nil_of {d : UD} (h : d.len = 0) : d = .nil := by
  cases d with
  | nil => rfl
  | p v r => rw [UD.len_p] at h; omega
  | l k n cs r => rw [UD.len_l] at h; omega
theorem tyS.one6 {d : UD} (h : tyL d (uE 6)) : tyS 5 1 d 6 := by
  refine ⟨by decide, rfl, by decide, by rw [h.len]; rfl, ?_⟩
  have := tyU.row (fs := uE 6) (by decide) (d := d) (rest := .nil) (i := 0) (j := 0) (by rw [List.drop_zero]; exact h) (Nat.zero_mod _) trivial
  have e : d.app .nil = d := by apply UD.ext; rw [UD.app_toL]; show d.toL ++ [] = _; rw [List.append_nil]
  rw [e] at this
  exact this
/-- the first row: a list of the value alone -/
theorem CpO.start {w0 w2 : World} {d : UD} {xs : List Value} {S : List Nat} {N : Nat} (ht : tyL d (uE 6)) (hx : oH w0 d xs S) (hS : S.Nodup) (hl : xs.length = 5) (hN : N = w0.heap.size + 2) (h2 : w2.heap.size = N + 2) (hb : Below w0.heap.size w0 w2)
    (hk : Cop w2 219 cpS1 (w0.heap.size + 1) w0.heap.size (fun _ => False)) (hd : Cop w2 222 cpV1 (N + 1) N (fun _ => False)) :
    CpO (cpc w0.heap.size N) w0 ((w2.alloc (.cells xs.toArray 31)).alloc (.cells #[.slice (some ⟨w2.heap.size, 0, none⟩) 1 1] 29)) d (.slice (some ⟨w2.heap.size, 0, none⟩) 1 1) (.slice (some ⟨w2.heap.size + 1, 0, none⟩) 1 1) (uszD d) [⟨w2.heap.size, 1, d, 1⟩] [] S (w2.heap.size + 1) 1 := by
  have b2 : Below w2.heap.size w2 ((w2.alloc (.cells xs.toArray 31)).alloc (.cells #[.slice (some ⟨w2.heap.size, 0, none⟩) 1 1] 29)) := ((Below.refl _ _).alloc (Nat.le_refl _) _).alloc (by simp) _
  have hxl : ∀ s ∈ S, s < w0.heap.size := fun s hs => hx.lt _ _ _ s hs
  refine ⟨rfl, ?_, ?_, ?_, by simp, ?_, hS, hxl, ?_, ?_, ?_, ?_, by simp [hWt], hb.trans (b2.mono hb.size)⟩
  · have := World.ownsRow_lit (base := w0.heap.size) (size := 1) (e := 29) (w2.alloc (.cells xs.toArray 31)) #[.slice (some ⟨w2.heap.size, 0, none⟩) 1 1] 1 (by simp; omega) (by decide) (by rfl)
    simpa [cpc, HL.v] using this
  · exact ⟨_, [], [], [], [⟨w2.heap.size, 1, d, 1⟩], [], rfl, rfl, rfl, by decide, .inr ⟨rfl, rfl, _, 1, rfl, rfl⟩, rfl, rfl, rfl⟩
  · refine ⟨xs, S, [], by simp, Nat.one_pos, tyS.one6 ht, ?_, ?_, rfl⟩
    · have := World.ownsRow_lit (base := w0.heap.size) (size := 5) (e := 31) w2 xs.toArray 1 (by omega) (by decide) (by simp [hl])
      have h3 : (w2.alloc (.cells xs.toArray 31)).ownsRow w0.heap.size 31 5 (.slice (some ⟨w2.heap.size, 0, none⟩) 1 1) 1 xs := by simpa using this
      exact uowns_frame h3 (fun x hx => ((Below.refl _ _).alloc (Nat.le_refl _) _).block x (ublk_lt h3 x hx).2)
    · exact (hx.below hb).below (b2.mono (Nat.le_refl _))
  · intro s hs
    simp only [List.map_cons, List.map_nil, List.nil_append, List.mem_cons, List.not_mem_nil, or_false] at hs
    subst hs
    simp only [cpc, CpC.fix, List.mem_cons, List.not_mem_nil, or_false]
    refine ⟨by omega, by simp; omega, by omega, by omega⟩
  · exact (hk.below b2).mono (fun c h => h.elim)
  · exact (hd.below b2).mono (fun c h => h.elim)
  · intro s hs
    simp only [cpc, CpC.fix, List.mem_cons, List.not_mem_nil, or_false] at hs ⊢
    simp
    omega
  · simp only [cpc, CpC.fix, List.nodup_cons, List.mem_cons, List.not_mem_nil, or_false, not_or, List.nodup_nil, and_true, not_false_eq_true]
    omega
/-- the keys that were copied -/
theorem cpy_keys {w w3 w' : World} {te tc : TypeId} {f1 : Field} {n3 : Nat} {c3 : UD} {zs : List Value} {bc bm : Nat} {ok : Addr → Prop} {a : Option Addr} {kv : Value} {fl : Bool} (h : CpyR w w3 te tc f1 1 n3 zs bc bm ok a kv fl) (ht : tyS 1 n3 c3 0) {Si : List Nat} (ho : oH w c3 zs Si)
    (hf : ∀ g ∈ blkOf kv, w'.heap[g]? = w3.heap[g]?) (hs : w3.heap.size ≤ w'.heap.size) : hH w' (.l 1 n3 c3 .nil) [kv] (blkOf kv) [] ∧ own2 (blkOf kv) w.heap.size w'.heap.size := by
  have hp : ∀ f ∈ uE 0, ∀ k t, f ≠ .l k t := by intro f hf k t e; subst e; simp [uE] at hf
  rcases h.res with ⟨h0, rfl, _⟩ | ⟨h0, _, g', cap, rfl, h1, h2⟩
  · subst h0
    have : c3 = .nil := UD.nil_of (by rw [ht.2.2.2.1])
    subst this
    exact ⟨⟨_, [], [], [], [], [], rfl, rfl, rfl, by decide, .inl ⟨te, [], [], rfl, World.ownsRow_nil _ _ _ _, rfl, rfl, rfl⟩, rfl, rfl, rfl⟩, own2.nil _ _⟩
  · have h3 := uowns_frame h2 hf
    have ho2 : oH w' c3 zs [] := plain_own hp ht.2.2.2.2 (ho.hand (lo := 0) (hi := w.heap.size) (fun g hg => ⟨Nat.zero_le _, ho.lt _ _ _ g hg⟩))
    refine ⟨⟨_, [], blkOf (.slice (some ⟨g', 0, none⟩) n3 cap), [], [], [], rfl, by simp, rfl, by decide, .inl ⟨te, zs, [], by simp, owns_base h3, ho2.hole _ _ _⟩, rfl, rfl, rfl⟩, ?_⟩
    exact ⟨by unfold blkOf; split <;> simp, fun s hs => ⟨(ublk_lt h3 s hs).1, (ublk_lt h3 s hs).2⟩⟩
theorem cpy_kids0 {w w3 w' : World} {te tc : TypeId} {f1 : Field} {c4 : UD} {zs : List Value} {bc bm : Nat} {ok : Addr → Prop} {a : Option Addr} {dv : Value} {fl : Bool} (h : CpyR w w3 te tc f1 5 0 zs bc bm ok a dv fl) (ht : tyS 5 0 c4 6) : dv = .slice none 0 0 ∧ fl = false ∧ hH w' (.l 5 0 c4 .nil) [dv] [] [] := by
  rcases h.res with ⟨h0, rfl, h1⟩ | ⟨h0, _⟩
  · have : c4 = .nil := UD.nil_of (by rw [ht.2.2.2.1])
    subst this
    exact ⟨rfl, h1, ⟨_, [], [], [], [], [], rfl, rfl, rfl, by decide, .inl ⟨te, [], [], rfl, World.ownsRow_nil _ _ _ _, rfl, rfl, rfl⟩, rfl, rfl, rfl⟩⟩
  · omega
theorem hH.open {w' : World} (g n cap : Nat) (c4 : UD) : hH w' (.l 5 n c4 .nil) [.slice (some ⟨g, 0, none⟩) n cap] [] [⟨g, n, c4, cap⟩] :=
  ⟨_, [], [], [], [⟨g, n, c4, cap⟩], [], rfl, rfl, rfl, by decide, .inr ⟨rfl, rfl, g, cap, rfl, rfl⟩, rfl, rfl, rfl⟩
end Go.Proofs.YtamlgjmboljcdaaGreat
