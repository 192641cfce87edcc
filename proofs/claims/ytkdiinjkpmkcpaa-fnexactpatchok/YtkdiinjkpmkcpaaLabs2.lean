import Derived.Test.YtkdiinjkpmkcpaaLabs
import Derived.Deep.RegionWith
namespace Go.Proofs.Ytkdiinjkpmkcpaa
open Go.RowKit

theorem below_drewN {B : Nat} {a w : World} (h : Below B a w) (n : Nat) : Below B a (w.drewN n) := h.trans ⟨rfl, rfl, rfl, Nat.le_refl _, fun _ _ => rfl⟩
/-- where a slice value of labels leads, in a world -/
def rowOf (w : World) (a : Option Addr) (ls : List (ByteArray × ByteArray)) : Prop := 0 < ls.length → ∃ b off, a = some ⟨b, off, none⟩ ∧ labsAt w b off ls

end Go.Proofs.Ytkdiinjkpmkcpaa
