/-
  NARROWER THAN 'FOR EVERY INPUT', by the rows' own cells (each row's printed sentence says how): DigestSums: laid · DigestAppends: laid · DigestMixes: laid · DigestInverts: laid · DigestKeyed: laid · DigestKeys: laid · DigestHexes: laid · DigestParses: laid.
  DERIVED. THE GIVEN ROWS OF THIS SEAT. 8 by the template 'for every input the law returns true; each argument reads behind the call as it read before'; 0 by the template 'total and deterministic' (their statements: YthnbddacglfldaaDoorTotals.lean).
  GIVEN WITH THE SEED: the statements are not yours to turn. If you find one false, say at which input.
  Laid BY PROGRAM, IN A SANDBOX (cutbox-rows.mjs): the forced cells as the released guide's own fill.sh prints them over the translation 4e75cde3b47db22e… (all of the seat's roots in one cut). By AI agents, Wed Nov 11 2026. No macro, syntax, notation, axiom, sorry.
-/
import Derived.Test.YthnbddacglfldaaDoorChecked
import GoSem.Claim
import GoSem.ClaimJoined
import GoSem.ClaimMapViews
import Derived.JoinedTies
import Derived.KernelRfl
namespace Go.Proofs.YthnbddacglfldaaDoor
/- THE CELL 'sum', in the pinned program and in every row, IS THE sha256 OF THE DUMP (.gsa) THAT YthnbddacglfldaaDoorProg.lean LOADS. Nothing in Lean hashes anything: it is a label: what it is worth is what the hold of that sum in a sandbox is worth. -/
noncomputable def Tryd.pinned : Pinned := { name := "ythnbddacglfldaadoor", sum := "4e75cde3b47db22e54faf04ee7fe7b36434d21301b682f7a79ba19b14cf2505e", checked := Tryd.checked }
namespace Rows
def none {H : Type} : Left H := { results := [], args := [] }

/- WHAT THE LISTED PACKAGE-LEVEL VARIABLES READ AS WHEN THE CALL BEGINS. Each datum BY PROGRAM (the guide's laid-datum.mjs) off the statement by which the dump's own 'gosem.cut.vars' lays the variable. In a bare row this is a premise. The card (YthnbddacglfldaaDoorCards.lean) ties it to the program's text. -/
def laid_lottery_digest_rounds {H : Type} : DataW H := .agg [.agg [.lit (.int .i64 30), .lit (.int .u64 13787848793156543929), .lit (.int .u64 10871156337175269513)], .agg [.lit (.int .i64 27), .lit (.int .u64 10723151780598845931), .lit (.int .u64 3573116690164977347)], .agg [.lit (.int .i64 31), .lit (.int .u64 1), .lit (.int .u64 1)]]
def laid_lottery_digest_digits {H : Type} : DataW H := .agg [.lit (.int .u8 48), .lit (.int .u8 49), .lit (.int .u8 50), .lit (.int .u8 51), .lit (.int .u8 52), .lit (.int .u8 53), .lit (.int .u8 54), .lit (.int .u8 55), .lit (.int .u8 56), .lit (.int .u8 57), .lit (.int .u8 97), .lit (.int .u8 98), .lit (.int .u8 99), .lit (.int .u8 100), .lit (.int .u8 101), .lit (.int .u8 102)]

/-- 'lotterylaw07.DigestSums': WHATEVER THE INPUT: true; the input reads as it did. -/
def digestSumsSpec : ChangeSpec := { name := "digestSums", fn := fun _ => fun
  | [d] => { results := [.lit (.bool true)], args := [d] }
  | _ => none }
def digestSumsRow : OpenClaim := { program := "ythnbddacglfldaadoor", sum := "4e75cde3b47db22e54faf04ee7fe7b36434d21301b682f7a79ba19b14cf2505e", func := "lottery/lotterylaw07.DigestSums", spec := "digestSums", named := ["lottery/digest.digits", "lottery/digest.rounds"], apart := false, laid := [("lottery/digest.rounds", laid_lottery_digest_rounds), ("lottery/digest.digits", laid_lottery_digest_digits)] }
def DigestSumsSaid : Prop := digestSumsRow.holds Tryd.pinned (OpenSpec.ofChange digestSumsSpec)

/-- ITS FALSE NEIGHBOUR: 'it returns false'. Refute it at one input. -/
def digestSumsWrong : ChangeSpec := { name := "digestSums", fn := fun _ => fun
  | [d] => { results := [.lit (.bool false)], args := [d] }
  | _ => none }
def DigestSumsWrongFalsely : Prop := digestSumsRow.holds Tryd.pinned (OpenSpec.ofChange digestSumsWrong)

/-- 'lotterylaw07.DigestAppends': WHATEVER THE INPUT: true; the input reads as it did. -/
def digestAppendsSpec : ChangeSpec := { name := "digestAppends", fn := fun _ => fun
  | [d1, d2, d3] => { results := [.lit (.bool true)], args := [d1, d2, d3] }
  | _ => none }
def digestAppendsRow : OpenClaim := { program := "ythnbddacglfldaadoor", sum := "4e75cde3b47db22e54faf04ee7fe7b36434d21301b682f7a79ba19b14cf2505e", func := "lottery/lotterylaw07.DigestAppends", spec := "digestAppends", named := ["lottery/digest.digits", "lottery/digest.rounds"], apart := false, laid := [("lottery/digest.rounds", laid_lottery_digest_rounds), ("lottery/digest.digits", laid_lottery_digest_digits)] }
def DigestAppendsSaid : Prop := digestAppendsRow.holds Tryd.pinned (OpenSpec.ofChange digestAppendsSpec)

/-- ITS FALSE NEIGHBOUR: 'it returns false'. Refute it at one input. -/
def digestAppendsWrong : ChangeSpec := { name := "digestAppends", fn := fun _ => fun
  | [d1, d2, d3] => { results := [.lit (.bool false)], args := [d1, d2, d3] }
  | _ => none }
def DigestAppendsWrongFalsely : Prop := digestAppendsRow.holds Tryd.pinned (OpenSpec.ofChange digestAppendsWrong)

/-- 'lotterylaw07.DigestMixes': WHATEVER THE INPUT: true; the input reads as it did. -/
def digestMixesSpec : ChangeSpec := { name := "digestMixes", fn := fun _ => fun
  | [d] => { results := [.lit (.bool true)], args := [d] }
  | _ => none }
def digestMixesRow : OpenClaim := { program := "ythnbddacglfldaadoor", sum := "4e75cde3b47db22e54faf04ee7fe7b36434d21301b682f7a79ba19b14cf2505e", func := "lottery/lotterylaw07.DigestMixes", spec := "digestMixes", named := ["lottery/digest.rounds", "lottery/digest.digits"], apart := false, laid := [("lottery/digest.rounds", laid_lottery_digest_rounds), ("lottery/digest.digits", laid_lottery_digest_digits)] }
def DigestMixesSaid : Prop := digestMixesRow.holds Tryd.pinned (OpenSpec.ofChange digestMixesSpec)

/-- ITS FALSE NEIGHBOUR: 'it returns false'. Refute it at one input. -/
def digestMixesWrong : ChangeSpec := { name := "digestMixes", fn := fun _ => fun
  | [d] => { results := [.lit (.bool false)], args := [d] }
  | _ => none }
def DigestMixesWrongFalsely : Prop := digestMixesRow.holds Tryd.pinned (OpenSpec.ofChange digestMixesWrong)

/-- 'lotterylaw07.DigestInverts': WHATEVER THE INPUT: true; the input reads as it did. -/
def digestInvertsSpec : ChangeSpec := { name := "digestInverts", fn := fun _ => fun
  | [d1, d2] => { results := [.lit (.bool true)], args := [d1, d2] }
  | _ => none }
def digestInvertsRow : OpenClaim := { program := "ythnbddacglfldaadoor", sum := "4e75cde3b47db22e54faf04ee7fe7b36434d21301b682f7a79ba19b14cf2505e", func := "lottery/lotterylaw07.DigestInverts", spec := "digestInverts", named := ["lottery/digest.rounds", "lottery/digest.digits"], apart := false, laid := [("lottery/digest.rounds", laid_lottery_digest_rounds), ("lottery/digest.digits", laid_lottery_digest_digits)] }
def DigestInvertsSaid : Prop := digestInvertsRow.holds Tryd.pinned (OpenSpec.ofChange digestInvertsSpec)

/-- ITS FALSE NEIGHBOUR: 'it returns false'. Refute it at one input. -/
def digestInvertsWrong : ChangeSpec := { name := "digestInverts", fn := fun _ => fun
  | [d1, d2] => { results := [.lit (.bool false)], args := [d1, d2] }
  | _ => none }
def DigestInvertsWrongFalsely : Prop := digestInvertsRow.holds Tryd.pinned (OpenSpec.ofChange digestInvertsWrong)

/-- 'lotterylaw07.DigestKeyed': WHATEVER THE INPUT: true; the input reads as it did. -/
def digestKeyedSpec : ChangeSpec := { name := "digestKeyed", fn := fun _ => fun
  | [d1, d2] => { results := [.lit (.bool true)], args := [d1, d2] }
  | _ => none }
def digestKeyedRow : OpenClaim := { program := "ythnbddacglfldaadoor", sum := "4e75cde3b47db22e54faf04ee7fe7b36434d21301b682f7a79ba19b14cf2505e", func := "lottery/lotterylaw07.DigestKeyed", spec := "digestKeyed", named := ["lottery/digest.digits", "lottery/digest.rounds"], apart := false, laid := [("lottery/digest.rounds", laid_lottery_digest_rounds), ("lottery/digest.digits", laid_lottery_digest_digits)] }
def DigestKeyedSaid : Prop := digestKeyedRow.holds Tryd.pinned (OpenSpec.ofChange digestKeyedSpec)

/-- ITS FALSE NEIGHBOUR: 'it returns false'. Refute it at one input. -/
def digestKeyedWrong : ChangeSpec := { name := "digestKeyed", fn := fun _ => fun
  | [d1, d2] => { results := [.lit (.bool false)], args := [d1, d2] }
  | _ => none }
def DigestKeyedWrongFalsely : Prop := digestKeyedRow.holds Tryd.pinned (OpenSpec.ofChange digestKeyedWrong)

/-- 'lotterylaw07.DigestKeys': WHATEVER THE INPUT: true; the input reads as it did. -/
def digestKeysSpec : ChangeSpec := { name := "digestKeys", fn := fun _ => fun
  | [d1, d2, d3, d4] => { results := [.lit (.bool true)], args := [d1, d2, d3, d4] }
  | _ => none }
def digestKeysRow : OpenClaim := { program := "ythnbddacglfldaadoor", sum := "4e75cde3b47db22e54faf04ee7fe7b36434d21301b682f7a79ba19b14cf2505e", func := "lottery/lotterylaw07.DigestKeys", spec := "digestKeys", named := ["lottery/digest.digits", "lottery/digest.rounds"], apart := false, laid := [("lottery/digest.rounds", laid_lottery_digest_rounds), ("lottery/digest.digits", laid_lottery_digest_digits)] }
def DigestKeysSaid : Prop := digestKeysRow.holds Tryd.pinned (OpenSpec.ofChange digestKeysSpec)

/-- ITS FALSE NEIGHBOUR: 'it returns false'. Refute it at one input. -/
def digestKeysWrong : ChangeSpec := { name := "digestKeys", fn := fun _ => fun
  | [d1, d2, d3, d4] => { results := [.lit (.bool false)], args := [d1, d2, d3, d4] }
  | _ => none }
def DigestKeysWrongFalsely : Prop := digestKeysRow.holds Tryd.pinned (OpenSpec.ofChange digestKeysWrong)

/-- 'lotterylaw07.DigestHexes': WHATEVER THE INPUT: true; the input reads as it did. -/
def digestHexesSpec : ChangeSpec := { name := "digestHexes", fn := fun _ => fun
  | [d] => { results := [.lit (.bool true)], args := [d] }
  | _ => none }
def digestHexesRow : OpenClaim := { program := "ythnbddacglfldaadoor", sum := "4e75cde3b47db22e54faf04ee7fe7b36434d21301b682f7a79ba19b14cf2505e", func := "lottery/lotterylaw07.DigestHexes", spec := "digestHexes", named := ["lottery/digest.digits", "lottery/digest.rounds"], apart := false, laid := [("lottery/digest.rounds", laid_lottery_digest_rounds), ("lottery/digest.digits", laid_lottery_digest_digits)] }
def DigestHexesSaid : Prop := digestHexesRow.holds Tryd.pinned (OpenSpec.ofChange digestHexesSpec)

/-- ITS FALSE NEIGHBOUR: 'it returns false'. Refute it at one input. -/
def digestHexesWrong : ChangeSpec := { name := "digestHexes", fn := fun _ => fun
  | [d] => { results := [.lit (.bool false)], args := [d] }
  | _ => none }
def DigestHexesWrongFalsely : Prop := digestHexesRow.holds Tryd.pinned (OpenSpec.ofChange digestHexesWrong)

/-- 'lotterylaw07.DigestParses': WHATEVER THE INPUT: true; the input reads as it did. -/
def digestParsesSpec : ChangeSpec := { name := "digestParses", fn := fun _ => fun
  | [d] => { results := [.lit (.bool true)], args := [d] }
  | _ => none }
def digestParsesRow : OpenClaim := { program := "ythnbddacglfldaadoor", sum := "4e75cde3b47db22e54faf04ee7fe7b36434d21301b682f7a79ba19b14cf2505e", func := "lottery/lotterylaw07.DigestParses", spec := "digestParses", named := ["lottery/digest.digits", "lottery/digest.rounds"], apart := false, laid := [("lottery/digest.rounds", laid_lottery_digest_rounds), ("lottery/digest.digits", laid_lottery_digest_digits)] }
def DigestParsesSaid : Prop := digestParsesRow.holds Tryd.pinned (OpenSpec.ofChange digestParsesSpec)

/-- ITS FALSE NEIGHBOUR: 'it returns false'. Refute it at one input. -/
def digestParsesWrong : ChangeSpec := { name := "digestParses", fn := fun _ => fun
  | [d] => { results := [.lit (.bool false)], args := [d] }
  | _ => none }
def DigestParsesWrongFalsely : Prop := digestParsesRow.holds Tryd.pinned (OpenSpec.ofChange digestParsesWrong)

/- THE SECOND FORM. 'bulk': how many values and letters a reading holds, each counted each time it is reached (what is shared counts as often as it is met; a slice's spare places count too). A statement '..UptoSaid' is the law's where the arguments, and the package variables that the reading takes, are together of bulk at most 1048576: NARROWER than '..Said'. Prove '..Said' where nothing that the law and all that it calls make is longer than what came in: it says more and counts as full. Else prove '..UptoSaid'. A law counts once. -/
mutual
def uptoBulk {H : Type} : DataW H → Nat
  | .lit (.string bytes) => bytes.length + 1
  | .lit _ => 1
  | .nil => 1
  | .ptr d => uptoBulk d + 1
  | .slice elems spare => uptoBulkAll elems + uptoBulkAll spare + 1
  | .agg parts => uptoBulkAll parts + 1
  | .iface _ d => uptoBulk d + 1
  | .map entries => uptoBulkEntries entries + 1
  | .held _ => 1
def uptoBulkAll {H : Type} : List (DataW H) → Nat
  | [] => 0
  | d :: r => uptoBulk d + uptoBulkAll r
def uptoBulkEntries {H : Type} : List (Lit × DataW H) → Nat
  | [] => 0
  | x :: r => uptoBulkEntry x + uptoBulkEntries r
def uptoBulkEntry {H : Type} : Lit × DataW H → Nat
  | (.string bytes, d) => bytes.length + uptoBulk d + 1
  | (_, d) => uptoBulk d + 1
 end
def uptoSmall : (H : Type) → List (DataW H) → Bool := fun _ ds => decide (uptoBulkAll ds ≤ 1048576)
def OpenSpec.upto (s : _root_.Go.ChangeSpec) : _root_.Go.OpenSpec := { _root_.Go.OpenSpec.ofChange s with cond := some uptoSmall }

/-- 'lotterylaw07.DigestSums', WHERE WHAT IT READS IS OF BULK AT MOST 1048576: true; the input reads as it did. -/
def digestSumsUptoRow : OpenClaim := { program := "ythnbddacglfldaadoor", sum := "4e75cde3b47db22e54faf04ee7fe7b36434d21301b682f7a79ba19b14cf2505e", func := "lottery/lotterylaw07.DigestSums", spec := "digestSums", named := ["lottery/digest.digits", "lottery/digest.rounds"], apart := false, laid := [("lottery/digest.rounds", laid_lottery_digest_rounds), ("lottery/digest.digits", laid_lottery_digest_digits)], narrowed := true }
def DigestSumsUptoSaid : Prop := digestSumsUptoRow.holds Tryd.pinned (OpenSpec.upto digestSumsSpec)

/-- 'lotterylaw07.DigestAppends', WHERE WHAT IT READS IS OF BULK AT MOST 1048576: true; the input reads as it did. -/
def digestAppendsUptoRow : OpenClaim := { program := "ythnbddacglfldaadoor", sum := "4e75cde3b47db22e54faf04ee7fe7b36434d21301b682f7a79ba19b14cf2505e", func := "lottery/lotterylaw07.DigestAppends", spec := "digestAppends", named := ["lottery/digest.digits", "lottery/digest.rounds"], apart := false, laid := [("lottery/digest.rounds", laid_lottery_digest_rounds), ("lottery/digest.digits", laid_lottery_digest_digits)], narrowed := true }
def DigestAppendsUptoSaid : Prop := digestAppendsUptoRow.holds Tryd.pinned (OpenSpec.upto digestAppendsSpec)

/-- 'lotterylaw07.DigestMixes', WHERE WHAT IT READS IS OF BULK AT MOST 1048576: true; the input reads as it did. -/
def digestMixesUptoRow : OpenClaim := { program := "ythnbddacglfldaadoor", sum := "4e75cde3b47db22e54faf04ee7fe7b36434d21301b682f7a79ba19b14cf2505e", func := "lottery/lotterylaw07.DigestMixes", spec := "digestMixes", named := ["lottery/digest.rounds", "lottery/digest.digits"], apart := false, laid := [("lottery/digest.rounds", laid_lottery_digest_rounds), ("lottery/digest.digits", laid_lottery_digest_digits)], narrowed := true }
def DigestMixesUptoSaid : Prop := digestMixesUptoRow.holds Tryd.pinned (OpenSpec.upto digestMixesSpec)

/-- 'lotterylaw07.DigestInverts', WHERE WHAT IT READS IS OF BULK AT MOST 1048576: true; the input reads as it did. -/
def digestInvertsUptoRow : OpenClaim := { program := "ythnbddacglfldaadoor", sum := "4e75cde3b47db22e54faf04ee7fe7b36434d21301b682f7a79ba19b14cf2505e", func := "lottery/lotterylaw07.DigestInverts", spec := "digestInverts", named := ["lottery/digest.rounds", "lottery/digest.digits"], apart := false, laid := [("lottery/digest.rounds", laid_lottery_digest_rounds), ("lottery/digest.digits", laid_lottery_digest_digits)], narrowed := true }
def DigestInvertsUptoSaid : Prop := digestInvertsUptoRow.holds Tryd.pinned (OpenSpec.upto digestInvertsSpec)

/-- 'lotterylaw07.DigestKeyed', WHERE WHAT IT READS IS OF BULK AT MOST 1048576: true; the input reads as it did. -/
def digestKeyedUptoRow : OpenClaim := { program := "ythnbddacglfldaadoor", sum := "4e75cde3b47db22e54faf04ee7fe7b36434d21301b682f7a79ba19b14cf2505e", func := "lottery/lotterylaw07.DigestKeyed", spec := "digestKeyed", named := ["lottery/digest.digits", "lottery/digest.rounds"], apart := false, laid := [("lottery/digest.rounds", laid_lottery_digest_rounds), ("lottery/digest.digits", laid_lottery_digest_digits)], narrowed := true }
def DigestKeyedUptoSaid : Prop := digestKeyedUptoRow.holds Tryd.pinned (OpenSpec.upto digestKeyedSpec)

/-- 'lotterylaw07.DigestKeys', WHERE WHAT IT READS IS OF BULK AT MOST 1048576: true; the input reads as it did. -/
def digestKeysUptoRow : OpenClaim := { program := "ythnbddacglfldaadoor", sum := "4e75cde3b47db22e54faf04ee7fe7b36434d21301b682f7a79ba19b14cf2505e", func := "lottery/lotterylaw07.DigestKeys", spec := "digestKeys", named := ["lottery/digest.digits", "lottery/digest.rounds"], apart := false, laid := [("lottery/digest.rounds", laid_lottery_digest_rounds), ("lottery/digest.digits", laid_lottery_digest_digits)], narrowed := true }
def DigestKeysUptoSaid : Prop := digestKeysUptoRow.holds Tryd.pinned (OpenSpec.upto digestKeysSpec)

/-- 'lotterylaw07.DigestHexes', WHERE WHAT IT READS IS OF BULK AT MOST 1048576: true; the input reads as it did. -/
def digestHexesUptoRow : OpenClaim := { program := "ythnbddacglfldaadoor", sum := "4e75cde3b47db22e54faf04ee7fe7b36434d21301b682f7a79ba19b14cf2505e", func := "lottery/lotterylaw07.DigestHexes", spec := "digestHexes", named := ["lottery/digest.digits", "lottery/digest.rounds"], apart := false, laid := [("lottery/digest.rounds", laid_lottery_digest_rounds), ("lottery/digest.digits", laid_lottery_digest_digits)], narrowed := true }
def DigestHexesUptoSaid : Prop := digestHexesUptoRow.holds Tryd.pinned (OpenSpec.upto digestHexesSpec)

/-- 'lotterylaw07.DigestParses', WHERE WHAT IT READS IS OF BULK AT MOST 1048576: true; the input reads as it did. -/
def digestParsesUptoRow : OpenClaim := { program := "ythnbddacglfldaadoor", sum := "4e75cde3b47db22e54faf04ee7fe7b36434d21301b682f7a79ba19b14cf2505e", func := "lottery/lotterylaw07.DigestParses", spec := "digestParses", named := ["lottery/digest.digits", "lottery/digest.rounds"], apart := false, laid := [("lottery/digest.rounds", laid_lottery_digest_rounds), ("lottery/digest.digits", laid_lottery_digest_digits)], narrowed := true }
def DigestParsesUptoSaid : Prop := digestParsesUptoRow.holds Tryd.pinned (OpenSpec.upto digestParsesSpec)

end Rows
end Go.Proofs.YthnbddacglfldaaDoor
