/-
  DERIVED. GIVEN WITH THE SEED: THE CARDS: each row of YtinceponggpioaaDoorRows.lean that lists a variable, with what it lists TIED to the program's text (the seventh form; the later family's looks); each row that meets fmt, with fmt's text TOLD by the authors' own Lean function (tested against real Go, not proved from fmt's source: count such statements apart). THE CARD IS WHAT COUNTS. Prove the row's statement (the work); the ties are given (YtinceponggpioaaDoorTie.lean); close each card by the builder's one call (the guide's Derived/Test/ToyasCard.lean, 'card_holds'). Laid BY PROGRAM, IN A SANDBOX (cutbox-door.mjs). By AI agents, Wed Nov 11 2026. No macro, syntax, notation, axiom, sorry.
-/
import Derived.Test.YtinceponggpioaaDoorRows
import GoSem.ClaimSeven
namespace Go.Proofs.YtinceponggpioaaDoor
namespace Rows

/-- THE TIED CARD OF 'lotterylaw04.FracMakes'. -/
def fracMakesCard : Claim7 := { stood := { row := fracMakesRow, standIns := [], harness := (true, "602609a59cdbfdf4d3cea963f91770a39586337153b1fcfce049eb75b2004fc5"), looks := false }, kinds := [], alts := [], laidByText := true, laidKinds := [.data, .data, .data], laidTests := true, laidLooks := .later }
def FracMakesCardSaid : Prop := Claim7.holds Tryd.pinned (.plain (OpenSpec.ofChange fracMakesSpec)) fracMakesCard

/-- THE TIED CARD OF 'lotterylaw04.FracOf'. -/
def fracOfCard : Claim7 := { stood := { row := fracOfRow, standIns := [], harness := (true, "602609a59cdbfdf4d3cea963f91770a39586337153b1fcfce049eb75b2004fc5"), looks := false }, kinds := [], alts := [], laidByText := true, laidKinds := [.data, .data, .data], laidTests := true, laidLooks := .later }
def FracOfCardSaid : Prop := Claim7.holds Tryd.pinned (.plain (OpenSpec.ofChange fracOfSpec)) fracOfCard

/-- THE TIED CARD OF 'lotterylaw04.FracCompares'. -/
def fracComparesCard : Claim7 := { stood := { row := fracComparesRow, standIns := [], harness := (true, "602609a59cdbfdf4d3cea963f91770a39586337153b1fcfce049eb75b2004fc5"), looks := false }, kinds := [], alts := [], laidByText := true, laidKinds := [.data, .data, .data], laidTests := true, laidLooks := .later }
def FracComparesCardSaid : Prop := Claim7.holds Tryd.pinned (.plain (OpenSpec.ofChange fracComparesSpec)) fracComparesCard

/-- THE TIED CARD OF 'lotterylaw04.FracMuls'. -/
def fracMulsCard : Claim7 := { stood := { row := fracMulsRow, standIns := [], harness := (true, "602609a59cdbfdf4d3cea963f91770a39586337153b1fcfce049eb75b2004fc5"), looks := false }, kinds := [], alts := [], laidByText := true, laidKinds := [.data, .data, .data], laidTests := true, laidLooks := .later }
def FracMulsCardSaid : Prop := Claim7.holds Tryd.pinned (.plain (OpenSpec.ofChange fracMulsSpec)) fracMulsCard

/-- THE TIED CARD OF 'lotterylaw04.FracDecimals'. -/
def fracDecimalsCard : Claim7 := { stood := { row := fracDecimalsRow, standIns := [], harness := (true, "602609a59cdbfdf4d3cea963f91770a39586337153b1fcfce049eb75b2004fc5"), looks := false }, kinds := [], alts := [], laidByText := true, laidKinds := [.data, .data, .data], laidTests := true, laidLooks := .later }
def FracDecimalsCardSaid : Prop := Claim7.holds Tryd.pinned (.plain (OpenSpec.ofChange fracDecimalsSpec)) fracDecimalsCard

/-- THE TIED CARD OF 'lotterylaw04.FracField'. -/
def fracFieldCard : Claim7 := { stood := { row := fracFieldRow, standIns := [], harness := (true, "602609a59cdbfdf4d3cea963f91770a39586337153b1fcfce049eb75b2004fc5"), looks := false }, kinds := [], alts := [], laidByText := true, laidKinds := [.data, .data, .data], laidTests := true, laidLooks := .later }
def FracFieldCardSaid : Prop := Claim7.holds Tryd.pinned (.plain (OpenSpec.ofChange fracFieldSpec)) fracFieldCard

/-- THE TIED CARD OF 'lotterylaw04.FracOrders'. -/
def fracOrdersCard : Claim7 := { stood := { row := fracOrdersRow, standIns := [], harness := (true, "602609a59cdbfdf4d3cea963f91770a39586337153b1fcfce049eb75b2004fc5"), looks := false }, kinds := [], alts := [], laidByText := true, laidKinds := [.data, .data, .data], laidTests := true, laidLooks := .later }
def FracOrdersCardSaid : Prop := Claim7.holds Tryd.pinned (.plain (OpenSpec.ofChange fracOrdersSpec)) fracOrdersCard

/-- THE TIED CARD OF 'lotterylaw04.FracLowest'. -/
def fracLowestCard : Claim7 := { stood := { row := fracLowestRow, standIns := [], harness := (true, "602609a59cdbfdf4d3cea963f91770a39586337153b1fcfce049eb75b2004fc5"), looks := false }, kinds := [], alts := [], laidByText := true, laidKinds := [.data, .data, .data], laidTests := true, laidLooks := .later }
def FracLowestCardSaid : Prop := Claim7.holds Tryd.pinned (.plain (OpenSpec.ofChange fracLowestSpec)) fracLowestCard

/-- THE SECOND FORM's CARD OF 'lotterylaw04.FracMakes'. -/
def fracMakesUptoCard : Claim7 := { stood := { row := fracMakesUptoRow, standIns := [], harness := (true, "602609a59cdbfdf4d3cea963f91770a39586337153b1fcfce049eb75b2004fc5"), looks := false }, kinds := [], alts := [], laidByText := true, laidKinds := [.data, .data, .data], laidTests := true, laidLooks := .later }
def FracMakesUptoCardSaid : Prop := Claim7.holds Tryd.pinned (.plain (OpenSpec.upto fracMakesSpec)) fracMakesUptoCard

/-- THE SECOND FORM's CARD OF 'lotterylaw04.FracOf'. -/
def fracOfUptoCard : Claim7 := { stood := { row := fracOfUptoRow, standIns := [], harness := (true, "602609a59cdbfdf4d3cea963f91770a39586337153b1fcfce049eb75b2004fc5"), looks := false }, kinds := [], alts := [], laidByText := true, laidKinds := [.data, .data, .data], laidTests := true, laidLooks := .later }
def FracOfUptoCardSaid : Prop := Claim7.holds Tryd.pinned (.plain (OpenSpec.upto fracOfSpec)) fracOfUptoCard

/-- THE SECOND FORM's CARD OF 'lotterylaw04.FracCompares'. -/
def fracComparesUptoCard : Claim7 := { stood := { row := fracComparesUptoRow, standIns := [], harness := (true, "602609a59cdbfdf4d3cea963f91770a39586337153b1fcfce049eb75b2004fc5"), looks := false }, kinds := [], alts := [], laidByText := true, laidKinds := [.data, .data, .data], laidTests := true, laidLooks := .later }
def FracComparesUptoCardSaid : Prop := Claim7.holds Tryd.pinned (.plain (OpenSpec.upto fracComparesSpec)) fracComparesUptoCard

/-- THE SECOND FORM's CARD OF 'lotterylaw04.FracMuls'. -/
def fracMulsUptoCard : Claim7 := { stood := { row := fracMulsUptoRow, standIns := [], harness := (true, "602609a59cdbfdf4d3cea963f91770a39586337153b1fcfce049eb75b2004fc5"), looks := false }, kinds := [], alts := [], laidByText := true, laidKinds := [.data, .data, .data], laidTests := true, laidLooks := .later }
def FracMulsUptoCardSaid : Prop := Claim7.holds Tryd.pinned (.plain (OpenSpec.upto fracMulsSpec)) fracMulsUptoCard

/-- THE SECOND FORM's CARD OF 'lotterylaw04.FracDecimals'. -/
def fracDecimalsUptoCard : Claim7 := { stood := { row := fracDecimalsUptoRow, standIns := [], harness := (true, "602609a59cdbfdf4d3cea963f91770a39586337153b1fcfce049eb75b2004fc5"), looks := false }, kinds := [], alts := [], laidByText := true, laidKinds := [.data, .data, .data], laidTests := true, laidLooks := .later }
def FracDecimalsUptoCardSaid : Prop := Claim7.holds Tryd.pinned (.plain (OpenSpec.upto fracDecimalsSpec)) fracDecimalsUptoCard

/-- THE SECOND FORM's CARD OF 'lotterylaw04.FracField'. -/
def fracFieldUptoCard : Claim7 := { stood := { row := fracFieldUptoRow, standIns := [], harness := (true, "602609a59cdbfdf4d3cea963f91770a39586337153b1fcfce049eb75b2004fc5"), looks := false }, kinds := [], alts := [], laidByText := true, laidKinds := [.data, .data, .data], laidTests := true, laidLooks := .later }
def FracFieldUptoCardSaid : Prop := Claim7.holds Tryd.pinned (.plain (OpenSpec.upto fracFieldSpec)) fracFieldUptoCard

/-- THE SECOND FORM's CARD OF 'lotterylaw04.FracOrders'. -/
def fracOrdersUptoCard : Claim7 := { stood := { row := fracOrdersUptoRow, standIns := [], harness := (true, "602609a59cdbfdf4d3cea963f91770a39586337153b1fcfce049eb75b2004fc5"), looks := false }, kinds := [], alts := [], laidByText := true, laidKinds := [.data, .data, .data], laidTests := true, laidLooks := .later }
def FracOrdersUptoCardSaid : Prop := Claim7.holds Tryd.pinned (.plain (OpenSpec.upto fracOrdersSpec)) fracOrdersUptoCard

/-- THE SECOND FORM's CARD OF 'lotterylaw04.FracLowest'. -/
def fracLowestUptoCard : Claim7 := { stood := { row := fracLowestUptoRow, standIns := [], harness := (true, "602609a59cdbfdf4d3cea963f91770a39586337153b1fcfce049eb75b2004fc5"), looks := false }, kinds := [], alts := [], laidByText := true, laidKinds := [.data, .data, .data], laidTests := true, laidLooks := .later }
def FracLowestUptoCardSaid : Prop := Claim7.holds Tryd.pinned (.plain (OpenSpec.upto fracLowestSpec)) fracLowestUptoCard
end Rows
end Go.Proofs.YtinceponggpioaaDoor
