/-
  DERIVED. GIVEN WITH THE SEED: THE CARDS: each row of YtfdinlomlcnjnaaDoorRows.lean that lists a variable, with what it lists TIED to the program's text (the seventh form; the later family's looks); each row that meets fmt, with fmt's text TOLD by the authors' own Lean function (tested against real Go, not proved from fmt's source: count such statements apart). THE CARD IS WHAT COUNTS. Prove the row's statement (the work); the ties are given (YtfdinlomlcnjnaaDoorTie.lean); close each card by the builder's one call (the guide's Derived/Test/ToyasCard.lean, 'card_holds'). Laid BY PROGRAM, IN A SANDBOX (cutbox-door.mjs). By AI agents, Wed Nov 11 2026. No macro, syntax, notation, axiom, sorry.
-/
import Derived.Test.YtfdinlomlcnjnaaDoorRows
import GoSem.ClaimSeven
namespace Go.Proofs.YtfdinlomlcnjnaaDoor
namespace Rows

/-- THE TIED CARD OF 'plumblinelaw03.ConvTurns'. -/
def convTurnsCard : Claim7 := { stood := { row := convTurnsRow, standIns := [], harness := (true, "2d22253cf365a60bd7155bb79663bc04cf44260508665e221caf2376b4ab5de4"), looks := false }, kinds := [], alts := [], laidByText := true, laidKinds := [.data, .data, .data], laidTests := true, laidLooks := .later }
def ConvTurnsCardSaid : Prop := Claim7.holds Tryd.pinned (.plain (OpenSpec.ofChange convTurnsSpec)) convTurnsCard

/-- THE TIED CARD OF 'plumblinelaw03.ConvInts'. -/
def convIntsCard : Claim7 := { stood := { row := convIntsRow, standIns := [], harness := (true, "2d22253cf365a60bd7155bb79663bc04cf44260508665e221caf2376b4ab5de4"), looks := false }, kinds := [], alts := [], laidByText := true, laidKinds := [.data, .data, .data], laidTests := true, laidLooks := .later }
def ConvIntsCardSaid : Prop := Claim7.holds Tryd.pinned (.plain (OpenSpec.ofChange convIntsSpec)) convIntsCard

/-- THE TIED CARD OF 'plumblinelaw03.ConvTexts'. -/
def convTextsCard : Claim7 := { stood := { row := convTextsRow, standIns := [], harness := (true, "2d22253cf365a60bd7155bb79663bc04cf44260508665e221caf2376b4ab5de4"), looks := false }, kinds := [], alts := [], laidByText := true, laidKinds := [.data, .data, .data], laidTests := true, laidLooks := .later }
def ConvTextsCardSaid : Prop := Claim7.holds Tryd.pinned (.plain (OpenSpec.ofChange convTextsSpec)) convTextsCard

/-- THE TIED CARD OF 'plumblinelaw03.ConvNeighbours'. -/
def convNeighboursCard : Claim7 := { stood := { row := convNeighboursRow, standIns := [], harness := (true, "2d22253cf365a60bd7155bb79663bc04cf44260508665e221caf2376b4ab5de4"), looks := false }, kinds := [], alts := [], laidByText := true, laidKinds := [.data, .data, .data], laidTests := true, laidLooks := .later }
def ConvNeighboursCardSaid : Prop := Claim7.holds Tryd.pinned (.plain (OpenSpec.ofChange convNeighboursSpec)) convNeighboursCard

/-- THE TIED CARD OF 'plumblinelaw03.ConvBack'. -/
def convBackCard : Claim7 := { stood := { row := convBackRow, standIns := [], harness := (true, "2d22253cf365a60bd7155bb79663bc04cf44260508665e221caf2376b4ab5de4"), looks := false }, kinds := [], alts := [], laidByText := true, laidKinds := [.data, .data, .data], laidTests := true, laidLooks := .later }
def ConvBackCardSaid : Prop := Claim7.holds Tryd.pinned (.plain (OpenSpec.ofChange convBackSpec)) convBackCard

/-- THE TIED CARD OF 'plumblinelaw03.ConvSteps'. -/
def convStepsCard : Claim7 := { stood := { row := convStepsRow, standIns := [], harness := (true, "2d22253cf365a60bd7155bb79663bc04cf44260508665e221caf2376b4ab5de4"), looks := false }, kinds := [], alts := [], laidByText := true, laidKinds := [.data, .data, .data], laidTests := true, laidLooks := .later }
def ConvStepsCardSaid : Prop := Claim7.holds Tryd.pinned (.plain (OpenSpec.ofChange convStepsSpec)) convStepsCard

/-- THE TIED CARD OF 'plumblinelaw03.ConvWhole'. -/
def convWholeCard : Claim7 := { stood := { row := convWholeRow, standIns := [], harness := (true, "2d22253cf365a60bd7155bb79663bc04cf44260508665e221caf2376b4ab5de4"), looks := false }, kinds := [], alts := [], laidByText := true, laidKinds := [.data, .data, .data], laidTests := true, laidLooks := .later }
def ConvWholeCardSaid : Prop := Claim7.holds Tryd.pinned (.plain (OpenSpec.ofChange convWholeSpec)) convWholeCard

/-- THE TIED CARD OF 'plumblinelaw03.ConvOrders'. -/
def convOrdersCard : Claim7 := { stood := { row := convOrdersRow, standIns := [], harness := (true, "2d22253cf365a60bd7155bb79663bc04cf44260508665e221caf2376b4ab5de4"), looks := false }, kinds := [], alts := [], laidByText := true, laidKinds := [.data, .data, .data], laidTests := true, laidLooks := .later }
def ConvOrdersCardSaid : Prop := Claim7.holds Tryd.pinned (.plain (OpenSpec.ofChange convOrdersSpec)) convOrdersCard

/-- THE TIED CARD OF 'plumblinelaw03.ConvHexes'. -/
def convHexesCard : Claim7 := { stood := { row := convHexesRow, standIns := [], harness := (true, "2d22253cf365a60bd7155bb79663bc04cf44260508665e221caf2376b4ab5de4"), looks := false }, kinds := [], alts := [], laidByText := true, laidKinds := [.data, .data, .data], laidTests := true, laidLooks := .later }
def ConvHexesCardSaid : Prop := Claim7.holds Tryd.pinned (.plain (OpenSpec.ofChange convHexesSpec)) convHexesCard

/-- THE SECOND FORM's CARD OF 'plumblinelaw03.ConvTurns'. -/
def convTurnsUptoCard : Claim7 := { stood := { row := convTurnsUptoRow, standIns := [], harness := (true, "2d22253cf365a60bd7155bb79663bc04cf44260508665e221caf2376b4ab5de4"), looks := false }, kinds := [], alts := [], laidByText := true, laidKinds := [.data, .data, .data], laidTests := true, laidLooks := .later }
def ConvTurnsUptoCardSaid : Prop := Claim7.holds Tryd.pinned (.plain (OpenSpec.upto convTurnsSpec)) convTurnsUptoCard

/-- THE SECOND FORM's CARD OF 'plumblinelaw03.ConvInts'. -/
def convIntsUptoCard : Claim7 := { stood := { row := convIntsUptoRow, standIns := [], harness := (true, "2d22253cf365a60bd7155bb79663bc04cf44260508665e221caf2376b4ab5de4"), looks := false }, kinds := [], alts := [], laidByText := true, laidKinds := [.data, .data, .data], laidTests := true, laidLooks := .later }
def ConvIntsUptoCardSaid : Prop := Claim7.holds Tryd.pinned (.plain (OpenSpec.upto convIntsSpec)) convIntsUptoCard

/-- THE SECOND FORM's CARD OF 'plumblinelaw03.ConvTexts'. -/
def convTextsUptoCard : Claim7 := { stood := { row := convTextsUptoRow, standIns := [], harness := (true, "2d22253cf365a60bd7155bb79663bc04cf44260508665e221caf2376b4ab5de4"), looks := false }, kinds := [], alts := [], laidByText := true, laidKinds := [.data, .data, .data], laidTests := true, laidLooks := .later }
def ConvTextsUptoCardSaid : Prop := Claim7.holds Tryd.pinned (.plain (OpenSpec.upto convTextsSpec)) convTextsUptoCard

/-- THE SECOND FORM's CARD OF 'plumblinelaw03.ConvNeighbours'. -/
def convNeighboursUptoCard : Claim7 := { stood := { row := convNeighboursUptoRow, standIns := [], harness := (true, "2d22253cf365a60bd7155bb79663bc04cf44260508665e221caf2376b4ab5de4"), looks := false }, kinds := [], alts := [], laidByText := true, laidKinds := [.data, .data, .data], laidTests := true, laidLooks := .later }
def ConvNeighboursUptoCardSaid : Prop := Claim7.holds Tryd.pinned (.plain (OpenSpec.upto convNeighboursSpec)) convNeighboursUptoCard

/-- THE SECOND FORM's CARD OF 'plumblinelaw03.ConvBack'. -/
def convBackUptoCard : Claim7 := { stood := { row := convBackUptoRow, standIns := [], harness := (true, "2d22253cf365a60bd7155bb79663bc04cf44260508665e221caf2376b4ab5de4"), looks := false }, kinds := [], alts := [], laidByText := true, laidKinds := [.data, .data, .data], laidTests := true, laidLooks := .later }
def ConvBackUptoCardSaid : Prop := Claim7.holds Tryd.pinned (.plain (OpenSpec.upto convBackSpec)) convBackUptoCard

/-- THE SECOND FORM's CARD OF 'plumblinelaw03.ConvSteps'. -/
def convStepsUptoCard : Claim7 := { stood := { row := convStepsUptoRow, standIns := [], harness := (true, "2d22253cf365a60bd7155bb79663bc04cf44260508665e221caf2376b4ab5de4"), looks := false }, kinds := [], alts := [], laidByText := true, laidKinds := [.data, .data, .data], laidTests := true, laidLooks := .later }
def ConvStepsUptoCardSaid : Prop := Claim7.holds Tryd.pinned (.plain (OpenSpec.upto convStepsSpec)) convStepsUptoCard

/-- THE SECOND FORM's CARD OF 'plumblinelaw03.ConvWhole'. -/
def convWholeUptoCard : Claim7 := { stood := { row := convWholeUptoRow, standIns := [], harness := (true, "2d22253cf365a60bd7155bb79663bc04cf44260508665e221caf2376b4ab5de4"), looks := false }, kinds := [], alts := [], laidByText := true, laidKinds := [.data, .data, .data], laidTests := true, laidLooks := .later }
def ConvWholeUptoCardSaid : Prop := Claim7.holds Tryd.pinned (.plain (OpenSpec.upto convWholeSpec)) convWholeUptoCard

/-- THE SECOND FORM's CARD OF 'plumblinelaw03.ConvOrders'. -/
def convOrdersUptoCard : Claim7 := { stood := { row := convOrdersUptoRow, standIns := [], harness := (true, "2d22253cf365a60bd7155bb79663bc04cf44260508665e221caf2376b4ab5de4"), looks := false }, kinds := [], alts := [], laidByText := true, laidKinds := [.data, .data, .data], laidTests := true, laidLooks := .later }
def ConvOrdersUptoCardSaid : Prop := Claim7.holds Tryd.pinned (.plain (OpenSpec.upto convOrdersSpec)) convOrdersUptoCard

/-- THE SECOND FORM's CARD OF 'plumblinelaw03.ConvHexes'. -/
def convHexesUptoCard : Claim7 := { stood := { row := convHexesUptoRow, standIns := [], harness := (true, "2d22253cf365a60bd7155bb79663bc04cf44260508665e221caf2376b4ab5de4"), looks := false }, kinds := [], alts := [], laidByText := true, laidKinds := [.data, .data, .data], laidTests := true, laidLooks := .later }
def ConvHexesUptoCardSaid : Prop := Claim7.holds Tryd.pinned (.plain (OpenSpec.upto convHexesSpec)) convHexesUptoCard
end Rows
end Go.Proofs.YtfdinlomlcnjnaaDoor
