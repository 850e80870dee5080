/-
  Contracts of num.Power, num.GCD and of the reference's.
-/
import Derived.Test.YtkblcnomjgocmaaDoorNumE
namespace Go.Proofs.YtkblcnomjgocmaaDoor.numF
open Go.RowKit
open Go.Proofs.YtkblcnomjgocmaaDoor.numM Go.Proofs.YtkblcnomjgocmaaDoor.numA Go.Proofs.YtkblcnomjgocmaaDoor.numB Go.Proofs.YtkblcnomjgocmaaDoor.numD Go.Proofs.YtkblcnomjgocmaaDoor.numE
set_option linter.unusedVariables false

end Go.Proofs.YtkblcnomjgocmaaDoor.numF
