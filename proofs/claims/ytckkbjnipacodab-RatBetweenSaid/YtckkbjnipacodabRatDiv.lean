/-
  PACKAGE rat: Div.
-/
import Derived.Test.YtckkbjnipacodabRatStr
namespace Go.Proofs.Ytckkbjnipacodab
open Go.RowKit
open Num
set_option linter.unusedVariables false
set_option maxRecDepth 100000
set_option linter.unusedSimpArgs false

end Go.Proofs.Ytckkbjnipacodab

