/-
  Contracts of num.Add, num.Sub and of the reference's Add, Sub: each returns the integer, or (0, 9) where it is no int; the world is as it was.
-/
import Derived.Test.YtjblfmgiafdefaaChecked
import Derived.Test.YtjblfmgiafdefaaNumMath
import Derived.WalkKit
import Derived.IntWalk
import Derived.WalkLawsBesides
namespace Go.Proofs.Ytjblfmgiafdefaa.numA
open Go.RowKit
open Go.Proofs.Ytjblfmgiafdefaa.numM


end Go.Proofs.Ytjblfmgiafdefaa.numA
