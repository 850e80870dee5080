/-
  DERIVED. GIVEN WITH THE SEED: THE CARDS: each row of YtinceponggpioaaGreatDoorRows.lean that lists a variable, with what it lists TIED to the program's text (the seventh form; the later family's looks); each row that meets fmt, with fmt's text TOLD by the authors' own Lean function (tested against real Go, not proved from fmt's source: count such statements apart). THE CARD IS WHAT COUNTS. Prove the row's statement (the work); the ties are given (YtinceponggpioaaGreatDoorTie.lean); close each card by the builder's one call (the guide's Derived/Test/ToyasCard.lean, 'card_holds'). Laid BY PROGRAM, IN A SANDBOX (cutbox-door.mjs). By AI agents, Wed Nov 11 2026. No macro, syntax, notation, axiom, sorry.
-/
import Derived.Test.YtinceponggpioaaGreatDoorRows
import GoSem.ClaimSeven
namespace Go.Proofs.YtinceponggpioaaGreatDoor
namespace Rows

/-- THE TIED CARD OF 'lotterylaw04.FracAdds'. -/
def fracAddsCard : Claim7 := { stood := { row := fracAddsRow, standIns := [], harness := (true, "3206adf85caac832a4a0a4b12ae3fb4fc448c6927a95059b2834a25059afbad1"), looks := false }, kinds := [], alts := [], laidByText := true, laidKinds := [.data, .data, .data], laidTests := true, laidLooks := .later }
def FracAddsCardSaid : Prop := Claim7.holds Tryz.pinned (.plain (OpenSpec.ofChange fracAddsSpec)) fracAddsCard

/-- THE SECOND FORM's CARD OF 'lotterylaw04.FracAdds'. -/
def fracAddsUptoCard : Claim7 := { stood := { row := fracAddsUptoRow, standIns := [], harness := (true, "3206adf85caac832a4a0a4b12ae3fb4fc448c6927a95059b2834a25059afbad1"), looks := false }, kinds := [], alts := [], laidByText := true, laidKinds := [.data, .data, .data], laidTests := true, laidLooks := .later }
def FracAddsUptoCardSaid : Prop := Claim7.holds Tryz.pinned (.plain (OpenSpec.upto fracAddsSpec)) fracAddsUptoCard
end Rows
end Go.Proofs.YtinceponggpioaaGreatDoor
