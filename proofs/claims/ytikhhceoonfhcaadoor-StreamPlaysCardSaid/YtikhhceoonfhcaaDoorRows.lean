/-
  NARROWER THAN 'FOR EVERY INPUT', by the rows' own cells (each row's printed sentence says how): StreamNexts: laid · StreamPlays: laid · StreamBelow: laid · StreamShuffles: laid · StreamSamples: laid · StreamRepeats: laid · StreamNil: laid.
  DERIVED. THE GIVEN ROWS OF THIS SEAT. 7 by the template 'for every input the law returns true; each argument reads behind the call as it read before'; 0 by the template 'total and deterministic' (their statements: YtikhhceoonfhcaaDoorTotals.lean).
  GIVEN WITH THE SEED: the statements are not yours to turn. If you find one false, say at which input.
  Laid BY PROGRAM, IN A SANDBOX (cutbox-rows.mjs): the forced cells as the released guide's own fill.sh prints them over the translation 164648cffce2b584… (all of the seat's roots in one cut). By AI agents, Wed Nov 11 2026. No macro, syntax, notation, axiom, sorry.
-/
import Derived.Test.YtikhhceoonfhcaaDoorChecked
import GoSem.Claim
import GoSem.ClaimJoined
import GoSem.ClaimMapViews
import Derived.JoinedTies
import Derived.KernelRfl
namespace Go.Proofs.YtikhhceoonfhcaaDoor
/- THE CELL 'sum', in the pinned program and in every row, IS THE sha256 OF THE DUMP (.gsa) THAT YtikhhceoonfhcaaDoorProg.lean LOADS. Nothing in Lean hashes anything: it is a label: what it is worth is what the hold of that sum in a sandbox is worth. -/
noncomputable def Tryd.pinned : Pinned := { name := "ytikhhceoonfhcaadoor", sum := "164648cffce2b5840a598e89745be3a3fa9ceb2412ded3f5ff8ba569f24df7a2", checked := Tryd.checked }
namespace Rows
def none {H : Type} : Left H := { results := [], args := [] }

/- WHAT THE LISTED PACKAGE-LEVEL VARIABLES READ AS WHEN THE CALL BEGINS. Each datum BY PROGRAM (the guide's laid-datum.mjs) off the statement by which the dump's own 'gosem.cut.vars' lays the variable. In a bare row this is a premise. The card (YtikhhceoonfhcaaDoorCards.lean) ties it to the program's text. -/
def laid_lottery_digest_rounds {H : Type} : DataW H := .agg [.agg [.lit (.int .i64 30), .lit (.int .u64 13787848793156543929), .lit (.int .u64 10871156337175269513)], .agg [.lit (.int .i64 27), .lit (.int .u64 10723151780598845931), .lit (.int .u64 3573116690164977347)], .agg [.lit (.int .i64 31), .lit (.int .u64 1), .lit (.int .u64 1)]]

/-- 'lotterylaw09.StreamNexts': WHATEVER THE INPUT: true; the input reads as it did. -/
def streamNextsSpec : ChangeSpec := { name := "streamNexts", fn := fun _ => fun
  | [d1, d2] => { results := [.lit (.bool true)], args := [d1, d2] }
  | _ => none }
def streamNextsRow : OpenClaim := { program := "ytikhhceoonfhcaadoor", sum := "164648cffce2b5840a598e89745be3a3fa9ceb2412ded3f5ff8ba569f24df7a2", func := "lottery/lotterylaw09.StreamNexts", spec := "streamNexts", unfollowed := true, recurses := true, named := ["lottery/digest.rounds"], apart := false, laid := [("lottery/digest.rounds", laid_lottery_digest_rounds)] }
def StreamNextsSaid : Prop := streamNextsRow.holds Tryd.pinned (OpenSpec.ofChange streamNextsSpec)

/-- ITS FALSE NEIGHBOUR: 'it returns false'. Refute it at one input. -/
def streamNextsWrong : ChangeSpec := { name := "streamNexts", fn := fun _ => fun
  | [d1, d2] => { results := [.lit (.bool false)], args := [d1, d2] }
  | _ => none }
def StreamNextsWrongFalsely : Prop := streamNextsRow.holds Tryd.pinned (OpenSpec.ofChange streamNextsWrong)

/-- 'lotterylaw09.StreamPlays': WHATEVER THE INPUT: true; the input reads as it did. -/
def streamPlaysSpec : ChangeSpec := { name := "streamPlays", fn := fun _ => fun
  | [d1, d2] => { results := [.lit (.bool true)], args := [d1, d2] }
  | _ => none }
def streamPlaysRow : OpenClaim := { program := "ytikhhceoonfhcaadoor", sum := "164648cffce2b5840a598e89745be3a3fa9ceb2412ded3f5ff8ba569f24df7a2", func := "lottery/lotterylaw09.StreamPlays", spec := "streamPlays", unfollowed := true, recurses := true, named := ["lottery/digest.rounds"], apart := false, laid := [("lottery/digest.rounds", laid_lottery_digest_rounds)] }
def StreamPlaysSaid : Prop := streamPlaysRow.holds Tryd.pinned (OpenSpec.ofChange streamPlaysSpec)

/-- ITS FALSE NEIGHBOUR: 'it returns false'. Refute it at one input. -/
def streamPlaysWrong : ChangeSpec := { name := "streamPlays", fn := fun _ => fun
  | [d1, d2] => { results := [.lit (.bool false)], args := [d1, d2] }
  | _ => none }
def StreamPlaysWrongFalsely : Prop := streamPlaysRow.holds Tryd.pinned (OpenSpec.ofChange streamPlaysWrong)

/-- 'lotterylaw09.StreamBelow': WHATEVER THE INPUT: true; the input reads as it did. -/
def streamBelowSpec : ChangeSpec := { name := "streamBelow", fn := fun _ => fun
  | [d1, d2] => { results := [.lit (.bool true)], args := [d1, d2] }
  | _ => none }
def streamBelowRow : OpenClaim := { program := "ytikhhceoonfhcaadoor", sum := "164648cffce2b5840a598e89745be3a3fa9ceb2412ded3f5ff8ba569f24df7a2", func := "lottery/lotterylaw09.StreamBelow", spec := "streamBelow", unfollowed := true, recurses := true, named := ["lottery/digest.rounds"], apart := false, laid := [("lottery/digest.rounds", laid_lottery_digest_rounds)] }
def StreamBelowSaid : Prop := streamBelowRow.holds Tryd.pinned (OpenSpec.ofChange streamBelowSpec)

/-- ITS FALSE NEIGHBOUR: 'it returns false'. Refute it at one input. -/
def streamBelowWrong : ChangeSpec := { name := "streamBelow", fn := fun _ => fun
  | [d1, d2] => { results := [.lit (.bool false)], args := [d1, d2] }
  | _ => none }
def StreamBelowWrongFalsely : Prop := streamBelowRow.holds Tryd.pinned (OpenSpec.ofChange streamBelowWrong)

/-- 'lotterylaw09.StreamShuffles': WHATEVER THE INPUT: true; the input reads as it did. -/
def streamShufflesSpec : ChangeSpec := { name := "streamShuffles", fn := fun _ => fun
  | [d1, d2] => { results := [.lit (.bool true)], args := [d1, d2] }
  | _ => none }
def streamShufflesRow : OpenClaim := { program := "ytikhhceoonfhcaadoor", sum := "164648cffce2b5840a598e89745be3a3fa9ceb2412ded3f5ff8ba569f24df7a2", func := "lottery/lotterylaw09.StreamShuffles", spec := "streamShuffles", unfollowed := true, recurses := true, named := ["lottery/digest.rounds"], apart := false, laid := [("lottery/digest.rounds", laid_lottery_digest_rounds)] }
def StreamShufflesSaid : Prop := streamShufflesRow.holds Tryd.pinned (OpenSpec.ofChange streamShufflesSpec)

/-- ITS FALSE NEIGHBOUR: 'it returns false'. Refute it at one input. -/
def streamShufflesWrong : ChangeSpec := { name := "streamShuffles", fn := fun _ => fun
  | [d1, d2] => { results := [.lit (.bool false)], args := [d1, d2] }
  | _ => none }
def StreamShufflesWrongFalsely : Prop := streamShufflesRow.holds Tryd.pinned (OpenSpec.ofChange streamShufflesWrong)

/-- 'lotterylaw09.StreamSamples': WHATEVER THE INPUT: true; the input reads as it did. -/
def streamSamplesSpec : ChangeSpec := { name := "streamSamples", fn := fun _ => fun
  | [d1, d2, d3, d4] => { results := [.lit (.bool true)], args := [d1, d2, d3, d4] }
  | _ => none }
def streamSamplesRow : OpenClaim := { program := "ytikhhceoonfhcaadoor", sum := "164648cffce2b5840a598e89745be3a3fa9ceb2412ded3f5ff8ba569f24df7a2", func := "lottery/lotterylaw09.StreamSamples", spec := "streamSamples", unfollowed := true, recurses := true, named := ["lottery/digest.rounds"], apart := false, laid := [("lottery/digest.rounds", laid_lottery_digest_rounds)] }
def StreamSamplesSaid : Prop := streamSamplesRow.holds Tryd.pinned (OpenSpec.ofChange streamSamplesSpec)

/-- ITS FALSE NEIGHBOUR: 'it returns false'. Refute it at one input. -/
def streamSamplesWrong : ChangeSpec := { name := "streamSamples", fn := fun _ => fun
  | [d1, d2, d3, d4] => { results := [.lit (.bool false)], args := [d1, d2, d3, d4] }
  | _ => none }
def StreamSamplesWrongFalsely : Prop := streamSamplesRow.holds Tryd.pinned (OpenSpec.ofChange streamSamplesWrong)

/-- 'lotterylaw09.StreamRepeats': WHATEVER THE INPUT: true; the input reads as it did. -/
def streamRepeatsSpec : ChangeSpec := { name := "streamRepeats", fn := fun _ => fun
  | [d1, d2] => { results := [.lit (.bool true)], args := [d1, d2] }
  | _ => none }
def streamRepeatsRow : OpenClaim := { program := "ytikhhceoonfhcaadoor", sum := "164648cffce2b5840a598e89745be3a3fa9ceb2412ded3f5ff8ba569f24df7a2", func := "lottery/lotterylaw09.StreamRepeats", spec := "streamRepeats", unfollowed := true, recurses := true, named := ["lottery/digest.rounds"], apart := false, laid := [("lottery/digest.rounds", laid_lottery_digest_rounds)] }
def StreamRepeatsSaid : Prop := streamRepeatsRow.holds Tryd.pinned (OpenSpec.ofChange streamRepeatsSpec)

/-- ITS FALSE NEIGHBOUR: 'it returns false'. Refute it at one input. -/
def streamRepeatsWrong : ChangeSpec := { name := "streamRepeats", fn := fun _ => fun
  | [d1, d2] => { results := [.lit (.bool false)], args := [d1, d2] }
  | _ => none }
def StreamRepeatsWrongFalsely : Prop := streamRepeatsRow.holds Tryd.pinned (OpenSpec.ofChange streamRepeatsWrong)

/-- 'lotterylaw09.StreamNil': WHATEVER THE INPUT: true; the input reads as it did. -/
def streamNilSpec : ChangeSpec := { name := "streamNil", fn := fun _ => fun
  | [d1, d2] => { results := [.lit (.bool true)], args := [d1, d2] }
  | _ => none }
def streamNilRow : OpenClaim := { program := "ytikhhceoonfhcaadoor", sum := "164648cffce2b5840a598e89745be3a3fa9ceb2412ded3f5ff8ba569f24df7a2", func := "lottery/lotterylaw09.StreamNil", spec := "streamNil", unfollowed := true, recurses := true, named := ["lottery/digest.rounds"], apart := false, laid := [("lottery/digest.rounds", laid_lottery_digest_rounds)] }
def StreamNilSaid : Prop := streamNilRow.holds Tryd.pinned (OpenSpec.ofChange streamNilSpec)

/-- ITS FALSE NEIGHBOUR: 'it returns false'. Refute it at one input. -/
def streamNilWrong : ChangeSpec := { name := "streamNil", fn := fun _ => fun
  | [d1, d2] => { results := [.lit (.bool false)], args := [d1, d2] }
  | _ => none }
def StreamNilWrongFalsely : Prop := streamNilRow.holds Tryd.pinned (OpenSpec.ofChange streamNilWrong)

/- THE SECOND FORM. 'bulk': how many values and letters a reading holds, each counted each time it is reached (what is shared counts as often as it is met; a slice's spare places count too). A statement '..UptoSaid' is the law's where the arguments, and the package variables that the reading takes, are together of bulk at most 1048576: NARROWER than '..Said'. Prove '..Said' where nothing that the law and all that it calls make is longer than what came in: it says more and counts as full. Else prove '..UptoSaid'. A law counts once. -/
mutual
def uptoBulk {H : Type} : DataW H → Nat
  | .lit (.string bytes) => bytes.length + 1
  | .lit _ => 1
  | .nil => 1
  | .ptr d => uptoBulk d + 1
  | .slice elems spare => uptoBulkAll elems + uptoBulkAll spare + 1
  | .agg parts => uptoBulkAll parts + 1
  | .iface _ d => uptoBulk d + 1
  | .map entries => uptoBulkEntries entries + 1
  | .held _ => 1
def uptoBulkAll {H : Type} : List (DataW H) → Nat
  | [] => 0
  | d :: r => uptoBulk d + uptoBulkAll r
def uptoBulkEntries {H : Type} : List (Lit × DataW H) → Nat
  | [] => 0
  | x :: r => uptoBulkEntry x + uptoBulkEntries r
def uptoBulkEntry {H : Type} : Lit × DataW H → Nat
  | (.string bytes, d) => bytes.length + uptoBulk d + 1
  | (_, d) => uptoBulk d + 1
 end
def uptoSmall : (H : Type) → List (DataW H) → Bool := fun _ ds => decide (uptoBulkAll ds ≤ 1048576)
def OpenSpec.upto (s : _root_.Go.ChangeSpec) : _root_.Go.OpenSpec := { _root_.Go.OpenSpec.ofChange s with cond := some uptoSmall }

/-- 'lotterylaw09.StreamNexts', WHERE WHAT IT READS IS OF BULK AT MOST 1048576: true; the input reads as it did. -/
def streamNextsUptoRow : OpenClaim := { program := "ytikhhceoonfhcaadoor", sum := "164648cffce2b5840a598e89745be3a3fa9ceb2412ded3f5ff8ba569f24df7a2", func := "lottery/lotterylaw09.StreamNexts", spec := "streamNexts", unfollowed := true, recurses := true, named := ["lottery/digest.rounds"], apart := false, laid := [("lottery/digest.rounds", laid_lottery_digest_rounds)], narrowed := true }
def StreamNextsUptoSaid : Prop := streamNextsUptoRow.holds Tryd.pinned (OpenSpec.upto streamNextsSpec)

/-- 'lotterylaw09.StreamPlays', WHERE WHAT IT READS IS OF BULK AT MOST 1048576: true; the input reads as it did. -/
def streamPlaysUptoRow : OpenClaim := { program := "ytikhhceoonfhcaadoor", sum := "164648cffce2b5840a598e89745be3a3fa9ceb2412ded3f5ff8ba569f24df7a2", func := "lottery/lotterylaw09.StreamPlays", spec := "streamPlays", unfollowed := true, recurses := true, named := ["lottery/digest.rounds"], apart := false, laid := [("lottery/digest.rounds", laid_lottery_digest_rounds)], narrowed := true }
def StreamPlaysUptoSaid : Prop := streamPlaysUptoRow.holds Tryd.pinned (OpenSpec.upto streamPlaysSpec)

/-- 'lotterylaw09.StreamBelow', WHERE WHAT IT READS IS OF BULK AT MOST 1048576: true; the input reads as it did. -/
def streamBelowUptoRow : OpenClaim := { program := "ytikhhceoonfhcaadoor", sum := "164648cffce2b5840a598e89745be3a3fa9ceb2412ded3f5ff8ba569f24df7a2", func := "lottery/lotterylaw09.StreamBelow", spec := "streamBelow", unfollowed := true, recurses := true, named := ["lottery/digest.rounds"], apart := false, laid := [("lottery/digest.rounds", laid_lottery_digest_rounds)], narrowed := true }
def StreamBelowUptoSaid : Prop := streamBelowUptoRow.holds Tryd.pinned (OpenSpec.upto streamBelowSpec)

/-- 'lotterylaw09.StreamShuffles', WHERE WHAT IT READS IS OF BULK AT MOST 1048576: true; the input reads as it did. -/
def streamShufflesUptoRow : OpenClaim := { program := "ytikhhceoonfhcaadoor", sum := "164648cffce2b5840a598e89745be3a3fa9ceb2412ded3f5ff8ba569f24df7a2", func := "lottery/lotterylaw09.StreamShuffles", spec := "streamShuffles", unfollowed := true, recurses := true, named := ["lottery/digest.rounds"], apart := false, laid := [("lottery/digest.rounds", laid_lottery_digest_rounds)], narrowed := true }
def StreamShufflesUptoSaid : Prop := streamShufflesUptoRow.holds Tryd.pinned (OpenSpec.upto streamShufflesSpec)

/-- 'lotterylaw09.StreamSamples', WHERE WHAT IT READS IS OF BULK AT MOST 1048576: true; the input reads as it did. -/
def streamSamplesUptoRow : OpenClaim := { program := "ytikhhceoonfhcaadoor", sum := "164648cffce2b5840a598e89745be3a3fa9ceb2412ded3f5ff8ba569f24df7a2", func := "lottery/lotterylaw09.StreamSamples", spec := "streamSamples", unfollowed := true, recurses := true, named := ["lottery/digest.rounds"], apart := false, laid := [("lottery/digest.rounds", laid_lottery_digest_rounds)], narrowed := true }
def StreamSamplesUptoSaid : Prop := streamSamplesUptoRow.holds Tryd.pinned (OpenSpec.upto streamSamplesSpec)

/-- 'lotterylaw09.StreamRepeats', WHERE WHAT IT READS IS OF BULK AT MOST 1048576: true; the input reads as it did. -/
def streamRepeatsUptoRow : OpenClaim := { program := "ytikhhceoonfhcaadoor", sum := "164648cffce2b5840a598e89745be3a3fa9ceb2412ded3f5ff8ba569f24df7a2", func := "lottery/lotterylaw09.StreamRepeats", spec := "streamRepeats", unfollowed := true, recurses := true, named := ["lottery/digest.rounds"], apart := false, laid := [("lottery/digest.rounds", laid_lottery_digest_rounds)], narrowed := true }
def StreamRepeatsUptoSaid : Prop := streamRepeatsUptoRow.holds Tryd.pinned (OpenSpec.upto streamRepeatsSpec)

/-- 'lotterylaw09.StreamNil', WHERE WHAT IT READS IS OF BULK AT MOST 1048576: true; the input reads as it did. -/
def streamNilUptoRow : OpenClaim := { program := "ytikhhceoonfhcaadoor", sum := "164648cffce2b5840a598e89745be3a3fa9ceb2412ded3f5ff8ba569f24df7a2", func := "lottery/lotterylaw09.StreamNil", spec := "streamNil", unfollowed := true, recurses := true, named := ["lottery/digest.rounds"], apart := false, laid := [("lottery/digest.rounds", laid_lottery_digest_rounds)], narrowed := true }
def StreamNilUptoSaid : Prop := streamNilUptoRow.holds Tryd.pinned (OpenSpec.upto streamNilSpec)

end Rows
end Go.Proofs.YtikhhceoonfhcaaDoor
