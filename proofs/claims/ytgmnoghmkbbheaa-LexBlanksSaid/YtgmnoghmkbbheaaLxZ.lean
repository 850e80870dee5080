/-
  The record of contracts of the landed lex.
-/
import Derived.Test.YtgmnoghmkbbheaaLxQ
import Derived.Test.YtgmnoghmkbbheaaLxI
import Derived.Test.YtgmnoghmkbbheaaLxT
namespace Go.Proofs.Ytgmnoghmkbbheaa.lxZ
open Go.Proofs.Ytgmnoghmkbbheaa.lxQ

def iP : PLx where
  inv := fun _ => True
  stay := fun _ _ => trivial
  scan := fun s X E o hs hX w _ => lxI.scan_any s hs X E o hX w
  long := fun s h hs w _ => lxI.scan_long s h hs w
  join := fun A n c X T hn hN hc hT hl w _ hI => lxT.join_any A n c X T hn hN hc hT hl w hI
end Go.Proofs.Ytgmnoghmkbbheaa.lxZ
