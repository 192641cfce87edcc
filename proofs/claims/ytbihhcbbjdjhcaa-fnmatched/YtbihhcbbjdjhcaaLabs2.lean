import Derived.Test.YtbihhcbbjdjhcaaLabs
import Derived.Deep.RegionWith
namespace Go.Proofs.Ytbihhcbbjdjhcaa
open Go.RowKit

/-- where a slice value of labels leads, in a world -/
def rowOf (w : World) (a : Option Addr) (ls : List (ByteArray × ByteArray)) : Prop := 0 < ls.length → ∃ b off, a = some ⟨b, off, none⟩ ∧ labsAt w b off ls

end Go.Proofs.Ytbihhcbbjdjhcaa
