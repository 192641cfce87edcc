/- A term's text, plain. -/
import Derived.Test.YtbadjopaocindaaJn0
import Derived.Test.YtbadjopaocindaaSel
import Derived.Test.YtbadjopaocindaaTerm1
namespace Go.Proofs.Ytbadjopaocindaa
set_option linter.unusedVariables false

def termTx (t : TD) : ByteArray :=
  if t.1 = 1 then (t.2.1 ++ ⟨#[61]⟩) ++ ssAt t.2.2 0 else if t.1 = 2 then (t.2.1 ++ ⟨#[33, 61]⟩) ++ ssAt t.2.2 0 else if t.1 = 4 then t.2.1 else if t.1 = 5 then ⟨#[33]⟩ ++ t.2.1
  else ((t.2.1 ++ ⟨#[32, 105, 110, 32, 40]⟩) ++ jn 32 t.2.2) ++ ⟨#[41]⟩
end Go.Proofs.Ytbadjopaocindaa
