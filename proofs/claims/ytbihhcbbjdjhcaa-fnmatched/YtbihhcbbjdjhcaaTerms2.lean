/- Whether two slices of terms are the same. -/
import Derived.Test.YtbihhcbbjdjhcaaTerms
namespace Go.Proofs.Ytbihhcbbjdjhcaa
open Go.RowKit
set_option linter.unusedVariables false

end Go.Proofs.Ytbihhcbbjdjhcaa
