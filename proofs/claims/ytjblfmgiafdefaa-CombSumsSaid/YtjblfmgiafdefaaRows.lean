/-
  No cell of these rows narrows 'for every input' (looked for: loops, veiled, ifaces, maps, wideKeys, modest, calm, conditions, laid).
  DERIVED. THE GIVEN ROWS OF THIS SEAT. 7 by the template 'for every input the law returns true; each argument reads behind the call as it read before'; 0 by the template 'total and deterministic' (their statements: YtjblfmgiafdefaaTotals.lean).
  GIVEN WITH THE SEED: the statements are not yours to turn. If you find one false, say at which input.
  Laid BY PROGRAM, IN A SANDBOX (cutbox-rows.mjs): the forced cells as the released guide's own fill.sh prints them over the translation df817c15d13cfcf8… (all of the seat's roots in one cut). By AI agents, Wed Nov 11 2026. No macro, syntax, notation, axiom, sorry.
-/
import Derived.Test.YtjblfmgiafdefaaChecked
import GoSem.Claim
import GoSem.ClaimJoined
import GoSem.ClaimMapViews
import Derived.JoinedTies
import Derived.KernelRfl
namespace Go.Proofs.Ytjblfmgiafdefaa
/- THE CELL 'sum', in the pinned program and in every row, IS THE sha256 OF THE DUMP (.gsa) THAT YtjblfmgiafdefaaProg.lean LOADS. Nothing in Lean hashes anything: it is a label: what it is worth is what the hold of that sum in a sandbox is worth. -/
noncomputable def Try.pinned : Pinned := { name := "ytjblfmgiafdefaa", sum := "df817c15d13cfcf808eae56a403ac3f7a82a9bc9f9f05ac5e2ac9e502f00ba71", checked := Try.checked }
namespace Rows
def none {H : Type} : Left H := { results := [], args := [] }

/-- 'lotterylaw05.CombCounts': WHATEVER THE INPUT: true; the input reads as it did. -/
def combCountsSpec : ChangeSpec := { name := "combCounts", fn := fun _ => fun
  | [d1, d2] => { results := [.lit (.bool true)], args := [d1, d2] }
  | _ => none }
def combCountsRow : OpenClaim := { program := "ytjblfmgiafdefaa", sum := "df817c15d13cfcf808eae56a403ac3f7a82a9bc9f9f05ac5e2ac9e502f00ba71", func := "lottery/lotterylaw05.CombCounts", spec := "combCounts", named := ["math/bits.divideError", "math/bits.overflowError"], apart := false }
def CombCountsSaid : Prop := combCountsRow.holds Try.pinned (OpenSpec.ofChange combCountsSpec)

/-- ITS FALSE NEIGHBOUR: 'it returns false'. Refute it at one input. -/
def combCountsWrong : ChangeSpec := { name := "combCounts", fn := fun _ => fun
  | [d1, d2] => { results := [.lit (.bool false)], args := [d1, d2] }
  | _ => none }
def CombCountsWrongFalsely : Prop := combCountsRow.holds Try.pinned (OpenSpec.ofChange combCountsWrong)

/-- 'lotterylaw05.CombHits': WHATEVER THE INPUT: true; the input reads as it did. -/
def combHitsSpec : ChangeSpec := { name := "combHits", fn := fun _ => fun
  | [d] => { results := [.lit (.bool true)], args := [d] }
  | _ => none }
def combHitsRow : OpenClaim := { program := "ytjblfmgiafdefaa", sum := "df817c15d13cfcf808eae56a403ac3f7a82a9bc9f9f05ac5e2ac9e502f00ba71", func := "lottery/lotterylaw05.CombHits", spec := "combHits", named := ["math/bits.divideError", "math/bits.overflowError"], apart := false }
def CombHitsSaid : Prop := combHitsRow.holds Try.pinned (OpenSpec.ofChange combHitsSpec)

/-- ITS FALSE NEIGHBOUR: 'it returns false'. Refute it at one input. -/
def combHitsWrong : ChangeSpec := { name := "combHits", fn := fun _ => fun
  | [d] => { results := [.lit (.bool false)], args := [d] }
  | _ => none }
def CombHitsWrongFalsely : Prop := combHitsRow.holds Try.pinned (OpenSpec.ofChange combHitsWrong)

/-- 'lotterylaw05.CombOrders': WHATEVER THE INPUT: true; the input reads as it did. -/
def combOrdersSpec : ChangeSpec := { name := "combOrders", fn := fun _ => fun
  | [d1, d2] => { results := [.lit (.bool true)], args := [d1, d2] }
  | _ => none }
def combOrdersRow : OpenClaim := { program := "ytjblfmgiafdefaa", sum := "df817c15d13cfcf808eae56a403ac3f7a82a9bc9f9f05ac5e2ac9e502f00ba71", func := "lottery/lotterylaw05.CombOrders", spec := "combOrders", named := ["math/bits.divideError", "math/bits.overflowError"], apart := false }
def CombOrdersSaid : Prop := combOrdersRow.holds Try.pinned (OpenSpec.ofChange combOrdersSpec)

/-- ITS FALSE NEIGHBOUR: 'it returns false'. Refute it at one input. -/
def combOrdersWrong : ChangeSpec := { name := "combOrders", fn := fun _ => fun
  | [d1, d2] => { results := [.lit (.bool false)], args := [d1, d2] }
  | _ => none }
def CombOrdersWrongFalsely : Prop := combOrdersRow.holds Try.pinned (OpenSpec.ofChange combOrdersWrong)

/-- 'lotterylaw05.CombUnranks': WHATEVER THE INPUT: true; the input reads as it did. -/
def combUnranksSpec : ChangeSpec := { name := "combUnranks", fn := fun _ => fun
  | [d1, d2, d3] => { results := [.lit (.bool true)], args := [d1, d2, d3] }
  | _ => none }
def combUnranksRow : OpenClaim := { program := "ytjblfmgiafdefaa", sum := "df817c15d13cfcf808eae56a403ac3f7a82a9bc9f9f05ac5e2ac9e502f00ba71", func := "lottery/lotterylaw05.CombUnranks", spec := "combUnranks", named := ["math/bits.divideError", "math/bits.overflowError"], apart := false }
def CombUnranksSaid : Prop := combUnranksRow.holds Try.pinned (OpenSpec.ofChange combUnranksSpec)

/-- ITS FALSE NEIGHBOUR: 'it returns false'. Refute it at one input. -/
def combUnranksWrong : ChangeSpec := { name := "combUnranks", fn := fun _ => fun
  | [d1, d2, d3] => { results := [.lit (.bool false)], args := [d1, d2, d3] }
  | _ => none }
def CombUnranksWrongFalsely : Prop := combUnranksRow.holds Try.pinned (OpenSpec.ofChange combUnranksWrong)

/-- 'lotterylaw05.CombRanks': WHATEVER THE INPUT: true; the input reads as it did. -/
def combRanksSpec : ChangeSpec := { name := "combRanks", fn := fun _ => fun
  | [d1, d2, d3] => { results := [.lit (.bool true)], args := [d1, d2, d3] }
  | _ => none }
def combRanksRow : OpenClaim := { program := "ytjblfmgiafdefaa", sum := "df817c15d13cfcf808eae56a403ac3f7a82a9bc9f9f05ac5e2ac9e502f00ba71", func := "lottery/lotterylaw05.CombRanks", spec := "combRanks", named := ["math/bits.divideError", "math/bits.overflowError"], apart := false }
def CombRanksSaid : Prop := combRanksRow.holds Try.pinned (OpenSpec.ofChange combRanksSpec)

/-- ITS FALSE NEIGHBOUR: 'it returns false'. Refute it at one input. -/
def combRanksWrong : ChangeSpec := { name := "combRanks", fn := fun _ => fun
  | [d1, d2, d3] => { results := [.lit (.bool false)], args := [d1, d2, d3] }
  | _ => none }
def CombRanksWrongFalsely : Prop := combRanksRow.holds Try.pinned (OpenSpec.ofChange combRanksWrong)

/-- 'lotterylaw05.CombAdds': WHATEVER THE INPUT: true; the input reads as it did. -/
def combAddsSpec : ChangeSpec := { name := "combAdds", fn := fun _ => fun
  | [d1, d2] => { results := [.lit (.bool true)], args := [d1, d2] }
  | _ => none }
def combAddsRow : OpenClaim := { program := "ytjblfmgiafdefaa", sum := "df817c15d13cfcf808eae56a403ac3f7a82a9bc9f9f05ac5e2ac9e502f00ba71", func := "lottery/lotterylaw05.CombAdds", spec := "combAdds", named := ["math/bits.divideError", "math/bits.overflowError"], apart := false }
def CombAddsSaid : Prop := combAddsRow.holds Try.pinned (OpenSpec.ofChange combAddsSpec)

/-- ITS FALSE NEIGHBOUR: 'it returns false'. Refute it at one input. -/
def combAddsWrong : ChangeSpec := { name := "combAdds", fn := fun _ => fun
  | [d1, d2] => { results := [.lit (.bool false)], args := [d1, d2] }
  | _ => none }
def CombAddsWrongFalsely : Prop := combAddsRow.holds Try.pinned (OpenSpec.ofChange combAddsWrong)

/-- 'lotterylaw05.CombSums': WHATEVER THE INPUT: true; the input reads as it did. -/
def combSumsSpec : ChangeSpec := { name := "combSums", fn := fun _ => fun
  | [d1, d2, d3] => { results := [.lit (.bool true)], args := [d1, d2, d3] }
  | _ => none }
def combSumsRow : OpenClaim := { program := "ytjblfmgiafdefaa", sum := "df817c15d13cfcf808eae56a403ac3f7a82a9bc9f9f05ac5e2ac9e502f00ba71", func := "lottery/lotterylaw05.CombSums", spec := "combSums", named := ["math/bits.divideError", "math/bits.overflowError"], apart := false }
def CombSumsSaid : Prop := combSumsRow.holds Try.pinned (OpenSpec.ofChange combSumsSpec)

/-- ITS FALSE NEIGHBOUR: 'it returns false'. Refute it at one input. -/
def combSumsWrong : ChangeSpec := { name := "combSums", fn := fun _ => fun
  | [d1, d2, d3] => { results := [.lit (.bool false)], args := [d1, d2, d3] }
  | _ => none }
def CombSumsWrongFalsely : Prop := combSumsRow.holds Try.pinned (OpenSpec.ofChange combSumsWrong)

/- THE SECOND FORM. 'bulk': how many values and letters a reading holds, each counted each time it is reached (what is shared counts as often as it is met; a slice's spare places count too). A statement '..UptoSaid' is the law's where the arguments, and the package variables that the reading takes, are together of bulk at most 1048576: NARROWER than '..Said'. Prove '..Said' where nothing that the law and all that it calls make is longer than what came in: it says more and counts as full. Else prove '..UptoSaid'. A law counts once. -/
mutual
def uptoBulk {H : Type} : DataW H → Nat
  | .lit (.string bytes) => bytes.length + 1
  | .lit _ => 1
  | .nil => 1
  | .ptr d => uptoBulk d + 1
  | .slice elems spare => uptoBulkAll elems + uptoBulkAll spare + 1
  | .agg parts => uptoBulkAll parts + 1
  | .iface _ d => uptoBulk d + 1
  | .map entries => uptoBulkEntries entries + 1
  | .held _ => 1
def uptoBulkAll {H : Type} : List (DataW H) → Nat
  | [] => 0
  | d :: r => uptoBulk d + uptoBulkAll r
def uptoBulkEntries {H : Type} : List (Lit × DataW H) → Nat
  | [] => 0
  | x :: r => uptoBulkEntry x + uptoBulkEntries r
def uptoBulkEntry {H : Type} : Lit × DataW H → Nat
  | (.string bytes, d) => bytes.length + uptoBulk d + 1
  | (_, d) => uptoBulk d + 1
 end
def uptoSmall : (H : Type) → List (DataW H) → Bool := fun _ ds => decide (uptoBulkAll ds ≤ 1048576)
def OpenSpec.upto (s : _root_.Go.ChangeSpec) : _root_.Go.OpenSpec := { _root_.Go.OpenSpec.ofChange s with cond := some uptoSmall }

/-- 'lotterylaw05.CombCounts', WHERE WHAT IT READS IS OF BULK AT MOST 1048576: true; the input reads as it did. -/
def combCountsUptoRow : OpenClaim := { program := "ytjblfmgiafdefaa", sum := "df817c15d13cfcf808eae56a403ac3f7a82a9bc9f9f05ac5e2ac9e502f00ba71", func := "lottery/lotterylaw05.CombCounts", spec := "combCounts", named := ["math/bits.divideError", "math/bits.overflowError"], apart := false, narrowed := true }
def CombCountsUptoSaid : Prop := combCountsUptoRow.holds Try.pinned (OpenSpec.upto combCountsSpec)

/-- 'lotterylaw05.CombHits', WHERE WHAT IT READS IS OF BULK AT MOST 1048576: true; the input reads as it did. -/
def combHitsUptoRow : OpenClaim := { program := "ytjblfmgiafdefaa", sum := "df817c15d13cfcf808eae56a403ac3f7a82a9bc9f9f05ac5e2ac9e502f00ba71", func := "lottery/lotterylaw05.CombHits", spec := "combHits", named := ["math/bits.divideError", "math/bits.overflowError"], apart := false, narrowed := true }
def CombHitsUptoSaid : Prop := combHitsUptoRow.holds Try.pinned (OpenSpec.upto combHitsSpec)

/-- 'lotterylaw05.CombOrders', WHERE WHAT IT READS IS OF BULK AT MOST 1048576: true; the input reads as it did. -/
def combOrdersUptoRow : OpenClaim := { program := "ytjblfmgiafdefaa", sum := "df817c15d13cfcf808eae56a403ac3f7a82a9bc9f9f05ac5e2ac9e502f00ba71", func := "lottery/lotterylaw05.CombOrders", spec := "combOrders", named := ["math/bits.divideError", "math/bits.overflowError"], apart := false, narrowed := true }
def CombOrdersUptoSaid : Prop := combOrdersUptoRow.holds Try.pinned (OpenSpec.upto combOrdersSpec)

/-- 'lotterylaw05.CombUnranks', WHERE WHAT IT READS IS OF BULK AT MOST 1048576: true; the input reads as it did. -/
def combUnranksUptoRow : OpenClaim := { program := "ytjblfmgiafdefaa", sum := "df817c15d13cfcf808eae56a403ac3f7a82a9bc9f9f05ac5e2ac9e502f00ba71", func := "lottery/lotterylaw05.CombUnranks", spec := "combUnranks", named := ["math/bits.divideError", "math/bits.overflowError"], apart := false, narrowed := true }
def CombUnranksUptoSaid : Prop := combUnranksUptoRow.holds Try.pinned (OpenSpec.upto combUnranksSpec)

/-- 'lotterylaw05.CombRanks', WHERE WHAT IT READS IS OF BULK AT MOST 1048576: true; the input reads as it did. -/
def combRanksUptoRow : OpenClaim := { program := "ytjblfmgiafdefaa", sum := "df817c15d13cfcf808eae56a403ac3f7a82a9bc9f9f05ac5e2ac9e502f00ba71", func := "lottery/lotterylaw05.CombRanks", spec := "combRanks", named := ["math/bits.divideError", "math/bits.overflowError"], apart := false, narrowed := true }
def CombRanksUptoSaid : Prop := combRanksUptoRow.holds Try.pinned (OpenSpec.upto combRanksSpec)

/-- 'lotterylaw05.CombAdds', WHERE WHAT IT READS IS OF BULK AT MOST 1048576: true; the input reads as it did. -/
def combAddsUptoRow : OpenClaim := { program := "ytjblfmgiafdefaa", sum := "df817c15d13cfcf808eae56a403ac3f7a82a9bc9f9f05ac5e2ac9e502f00ba71", func := "lottery/lotterylaw05.CombAdds", spec := "combAdds", named := ["math/bits.divideError", "math/bits.overflowError"], apart := false, narrowed := true }
def CombAddsUptoSaid : Prop := combAddsUptoRow.holds Try.pinned (OpenSpec.upto combAddsSpec)

/-- 'lotterylaw05.CombSums', WHERE WHAT IT READS IS OF BULK AT MOST 1048576: true; the input reads as it did. -/
def combSumsUptoRow : OpenClaim := { program := "ytjblfmgiafdefaa", sum := "df817c15d13cfcf808eae56a403ac3f7a82a9bc9f9f05ac5e2ac9e502f00ba71", func := "lottery/lotterylaw05.CombSums", spec := "combSums", named := ["math/bits.divideError", "math/bits.overflowError"], apart := false, narrowed := true }
def CombSumsUptoSaid : Prop := combSumsUptoRow.holds Try.pinned (OpenSpec.upto combSumsSpec)

end Rows
end Go.Proofs.Ytjblfmgiafdefaa
