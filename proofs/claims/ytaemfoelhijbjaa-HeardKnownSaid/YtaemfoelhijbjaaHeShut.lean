/-
  From a row's premises to what the walks ask: calls that came in.
-/
import Derived.Test.YtaemfoelhijbjaaRows
import Derived.Test.YtaemfoelhijbjaaHeHeavy
import Derived.Lib.SmallJoins
import Derived.ProofKit
import Derived.OpenShut
import Derived.ShutString
import Derived.ChangeOld
import Derived.Below
namespace Go.Proofs.Ytaemfoelhijbjaa
open Go.Joins Go.ChangeShapes Go.WideShapes Go.ChangeAt Go.RowKit Go.Deep
set_option linter.unusedVariables false

theorem own : ownKnob Try.prog.godebug = none := by kernel_rfl
theorem laidOut : laidOutB Try.prog = true := by kernel_rfl

end Go.Proofs.Ytaemfoelhijbjaa
