/- spec.SameValue: it answers whether the cells are the same, all through. -/
import Derived.Test.YtkdiinjkpmkcpaaDoorVSmN
namespace Go.Proofs.YtkdiinjkpmkcpaaDoor
open Go.RowKit Go.BigFrame
set_option linter.unusedVariables false
end Go.Proofs.YtkdiinjkpmkcpaaDoor
