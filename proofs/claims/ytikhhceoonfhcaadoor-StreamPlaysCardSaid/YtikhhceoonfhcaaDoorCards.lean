/-
  DERIVED. GIVEN WITH THE SEED: THE CARDS: each row of YtikhhceoonfhcaaDoorRows.lean that lists a variable, with what it lists TIED to the program's text (the seventh form; the later family's looks); each row that meets fmt, with fmt's text TOLD by the authors' own Lean function (tested against real Go, not proved from fmt's source: count such statements apart). THE CARD IS WHAT COUNTS. Prove the row's statement (the work); the ties are given (YtikhhceoonfhcaaDoorTie.lean); close each card by the builder's one call (the guide's Derived/Test/ToyasCard.lean, 'card_holds'). Laid BY PROGRAM, IN A SANDBOX (cutbox-door.mjs). By AI agents, Wed Nov 11 2026. No macro, syntax, notation, axiom, sorry.
-/
import Derived.Test.YtikhhceoonfhcaaDoorRows
import GoSem.ClaimSeven
namespace Go.Proofs.YtikhhceoonfhcaaDoor
namespace Rows

/-- THE TIED CARD OF 'lotterylaw09.StreamNexts'. -/
def streamNextsCard : Claim7 := { stood := { row := streamNextsRow, standIns := [], harness := (true, "85b68d2ef18559505bcc1be73ea479eea7672b5c4c0516d41ec8ab78f32fba7b"), looks := false }, kinds := [], alts := [], laidByText := true, laidKinds := [.data], laidTests := true, laidLooks := .later }
def StreamNextsCardSaid : Prop := Claim7.holds Tryd.pinned (.plain (OpenSpec.ofChange streamNextsSpec)) streamNextsCard

/-- THE TIED CARD OF 'lotterylaw09.StreamPlays'. -/
def streamPlaysCard : Claim7 := { stood := { row := streamPlaysRow, standIns := [], harness := (true, "85b68d2ef18559505bcc1be73ea479eea7672b5c4c0516d41ec8ab78f32fba7b"), looks := false }, kinds := [], alts := [], laidByText := true, laidKinds := [.data], laidTests := true, laidLooks := .later }
def StreamPlaysCardSaid : Prop := Claim7.holds Tryd.pinned (.plain (OpenSpec.ofChange streamPlaysSpec)) streamPlaysCard

/-- THE TIED CARD OF 'lotterylaw09.StreamBelow'. -/
def streamBelowCard : Claim7 := { stood := { row := streamBelowRow, standIns := [], harness := (true, "85b68d2ef18559505bcc1be73ea479eea7672b5c4c0516d41ec8ab78f32fba7b"), looks := false }, kinds := [], alts := [], laidByText := true, laidKinds := [.data], laidTests := true, laidLooks := .later }
def StreamBelowCardSaid : Prop := Claim7.holds Tryd.pinned (.plain (OpenSpec.ofChange streamBelowSpec)) streamBelowCard

/-- THE TIED CARD OF 'lotterylaw09.StreamShuffles'. -/
def streamShufflesCard : Claim7 := { stood := { row := streamShufflesRow, standIns := [], harness := (true, "85b68d2ef18559505bcc1be73ea479eea7672b5c4c0516d41ec8ab78f32fba7b"), looks := false }, kinds := [], alts := [], laidByText := true, laidKinds := [.data], laidTests := true, laidLooks := .later }
def StreamShufflesCardSaid : Prop := Claim7.holds Tryd.pinned (.plain (OpenSpec.ofChange streamShufflesSpec)) streamShufflesCard

/-- THE TIED CARD OF 'lotterylaw09.StreamSamples'. -/
def streamSamplesCard : Claim7 := { stood := { row := streamSamplesRow, standIns := [], harness := (true, "85b68d2ef18559505bcc1be73ea479eea7672b5c4c0516d41ec8ab78f32fba7b"), looks := false }, kinds := [], alts := [], laidByText := true, laidKinds := [.data], laidTests := true, laidLooks := .later }
def StreamSamplesCardSaid : Prop := Claim7.holds Tryd.pinned (.plain (OpenSpec.ofChange streamSamplesSpec)) streamSamplesCard

/-- THE TIED CARD OF 'lotterylaw09.StreamRepeats'. -/
def streamRepeatsCard : Claim7 := { stood := { row := streamRepeatsRow, standIns := [], harness := (true, "85b68d2ef18559505bcc1be73ea479eea7672b5c4c0516d41ec8ab78f32fba7b"), looks := false }, kinds := [], alts := [], laidByText := true, laidKinds := [.data], laidTests := true, laidLooks := .later }
def StreamRepeatsCardSaid : Prop := Claim7.holds Tryd.pinned (.plain (OpenSpec.ofChange streamRepeatsSpec)) streamRepeatsCard

/-- THE TIED CARD OF 'lotterylaw09.StreamNil'. -/
def streamNilCard : Claim7 := { stood := { row := streamNilRow, standIns := [], harness := (true, "85b68d2ef18559505bcc1be73ea479eea7672b5c4c0516d41ec8ab78f32fba7b"), looks := false }, kinds := [], alts := [], laidByText := true, laidKinds := [.data], laidTests := true, laidLooks := .later }
def StreamNilCardSaid : Prop := Claim7.holds Tryd.pinned (.plain (OpenSpec.ofChange streamNilSpec)) streamNilCard

/-- THE SECOND FORM's CARD OF 'lotterylaw09.StreamNexts'. -/
def streamNextsUptoCard : Claim7 := { stood := { row := streamNextsUptoRow, standIns := [], harness := (true, "85b68d2ef18559505bcc1be73ea479eea7672b5c4c0516d41ec8ab78f32fba7b"), looks := false }, kinds := [], alts := [], laidByText := true, laidKinds := [.data], laidTests := true, laidLooks := .later }
def StreamNextsUptoCardSaid : Prop := Claim7.holds Tryd.pinned (.plain (OpenSpec.upto streamNextsSpec)) streamNextsUptoCard

/-- THE SECOND FORM's CARD OF 'lotterylaw09.StreamPlays'. -/
def streamPlaysUptoCard : Claim7 := { stood := { row := streamPlaysUptoRow, standIns := [], harness := (true, "85b68d2ef18559505bcc1be73ea479eea7672b5c4c0516d41ec8ab78f32fba7b"), looks := false }, kinds := [], alts := [], laidByText := true, laidKinds := [.data], laidTests := true, laidLooks := .later }
def StreamPlaysUptoCardSaid : Prop := Claim7.holds Tryd.pinned (.plain (OpenSpec.upto streamPlaysSpec)) streamPlaysUptoCard

/-- THE SECOND FORM's CARD OF 'lotterylaw09.StreamBelow'. -/
def streamBelowUptoCard : Claim7 := { stood := { row := streamBelowUptoRow, standIns := [], harness := (true, "85b68d2ef18559505bcc1be73ea479eea7672b5c4c0516d41ec8ab78f32fba7b"), looks := false }, kinds := [], alts := [], laidByText := true, laidKinds := [.data], laidTests := true, laidLooks := .later }
def StreamBelowUptoCardSaid : Prop := Claim7.holds Tryd.pinned (.plain (OpenSpec.upto streamBelowSpec)) streamBelowUptoCard

/-- THE SECOND FORM's CARD OF 'lotterylaw09.StreamShuffles'. -/
def streamShufflesUptoCard : Claim7 := { stood := { row := streamShufflesUptoRow, standIns := [], harness := (true, "85b68d2ef18559505bcc1be73ea479eea7672b5c4c0516d41ec8ab78f32fba7b"), looks := false }, kinds := [], alts := [], laidByText := true, laidKinds := [.data], laidTests := true, laidLooks := .later }
def StreamShufflesUptoCardSaid : Prop := Claim7.holds Tryd.pinned (.plain (OpenSpec.upto streamShufflesSpec)) streamShufflesUptoCard

/-- THE SECOND FORM's CARD OF 'lotterylaw09.StreamSamples'. -/
def streamSamplesUptoCard : Claim7 := { stood := { row := streamSamplesUptoRow, standIns := [], harness := (true, "85b68d2ef18559505bcc1be73ea479eea7672b5c4c0516d41ec8ab78f32fba7b"), looks := false }, kinds := [], alts := [], laidByText := true, laidKinds := [.data], laidTests := true, laidLooks := .later }
def StreamSamplesUptoCardSaid : Prop := Claim7.holds Tryd.pinned (.plain (OpenSpec.upto streamSamplesSpec)) streamSamplesUptoCard

/-- THE SECOND FORM's CARD OF 'lotterylaw09.StreamRepeats'. -/
def streamRepeatsUptoCard : Claim7 := { stood := { row := streamRepeatsUptoRow, standIns := [], harness := (true, "85b68d2ef18559505bcc1be73ea479eea7672b5c4c0516d41ec8ab78f32fba7b"), looks := false }, kinds := [], alts := [], laidByText := true, laidKinds := [.data], laidTests := true, laidLooks := .later }
def StreamRepeatsUptoCardSaid : Prop := Claim7.holds Tryd.pinned (.plain (OpenSpec.upto streamRepeatsSpec)) streamRepeatsUptoCard

/-- THE SECOND FORM's CARD OF 'lotterylaw09.StreamNil'. -/
def streamNilUptoCard : Claim7 := { stood := { row := streamNilUptoRow, standIns := [], harness := (true, "85b68d2ef18559505bcc1be73ea479eea7672b5c4c0516d41ec8ab78f32fba7b"), looks := false }, kinds := [], alts := [], laidByText := true, laidKinds := [.data], laidTests := true, laidLooks := .later }
def StreamNilUptoCardSaid : Prop := Claim7.holds Tryd.pinned (.plain (OpenSpec.upto streamNilSpec)) streamNilUptoCard
end Rows
end Go.Proofs.YtikhhceoonfhcaaDoor
