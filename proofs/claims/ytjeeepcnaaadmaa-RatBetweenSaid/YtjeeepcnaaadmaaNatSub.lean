import Derived.Test.YtjeeepcnaaadmaaNat
namespace Go.Proofs.Ytjeeepcnaaadmaa
open Go.RowKit
open Num
set_option linter.unusedVariables false
set_option maxRecDepth 100000
set_option linter.unusedSimpArgs false

/-- What a piece of work leaves that tells an error. -/
def Failed (w : World) (k : Int) : Value → World → Prop := fun v w' => v = errno k ∧ Below w.heap.size w w'

end Go.Proofs.Ytjeeepcnaaadmaa

