/- A term's text, in spec and in impl. -/
import Derived.Test.YtbadjopaocindaaJn
import Derived.Test.YtbadjopaocindaaSelTxS
import Derived.Test.YtbadjopaocindaaMatch2
namespace Go.Proofs.Ytbadjopaocindaa
open Go.RowKit Go.BigFrame
set_option linter.unusedVariables false

end Go.Proofs.Ytbadjopaocindaa
