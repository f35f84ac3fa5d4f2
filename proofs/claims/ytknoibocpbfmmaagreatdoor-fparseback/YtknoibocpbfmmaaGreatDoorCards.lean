/-
  DERIVED. GIVEN WITH THE SEED: THE CARDS: each row of YtknoibocpbfmmaaGreatDoorRows.lean that lists a variable, with what it lists TIED to the program's text (the seventh form; the later family's looks); each row that meets fmt, with fmt's text TOLD by the authors' own Lean function (tested against real Go, not proved from fmt's source: count such statements apart). THE CARD IS WHAT COUNTS. Prove the row's statement (the work); the ties are given (YtknoibocpbfmmaaGreatDoorTie.lean); close each card by the builder's one call (the guide's Derived/Test/ToyasCard.lean, 'card_holds'). Laid BY PROGRAM, IN A SANDBOX (cutbox-door.mjs). By AI agents, Wed Nov 11 2026. No macro, syntax, notation, axiom, sorry.
-/
import Derived.Test.YtknoibocpbfmmaaGreatDoorRows
import GoSem.ClaimSeven
namespace Go.Proofs.YtknoibocpbfmmaaGreatDoor
namespace Rows

/-- THE TIED CARD OF 'plumblinelaw05.FparseBack'. -/
def fparseBackCard : Claim7 := { stood := { row := fparseBackRow, standIns := [], harness := (true, "1756b7acb523a664d15a6a6b2cc1a8aad8980e47100e455047e8e866bcdb0e4c"), looks := true }, kinds := [], alts := [], laidByText := true, laidKinds := [.data, .data, .data, .sentinel, .sentinel, .data], laidTests := true, laidLooks := .later }
def FparseBackCardSaid : Prop := Claim7.holds Tryz.pinned (.plain (OpenSpec.ofChange fparseBackSpec)) fparseBackCard

/-- THE TIED CARD OF 'plumblinelaw05.FparseAgain'. -/
def fparseAgainCard : Claim7 := { stood := { row := fparseAgainRow, standIns := [], harness := (true, "1756b7acb523a664d15a6a6b2cc1a8aad8980e47100e455047e8e866bcdb0e4c"), looks := true }, kinds := [], alts := [], laidByText := true, laidKinds := [.data, .data, .data, .sentinel, .sentinel, .data], laidTests := true, laidLooks := .later }
def FparseAgainCardSaid : Prop := Claim7.holds Tryz.pinned (.plain (OpenSpec.ofChange fparseAgainSpec)) fparseAgainCard

/-- THE TIED CARD OF 'plumblinelaw05.FparseOrder'. -/
def fparseOrderCard : Claim7 := { stood := { row := fparseOrderRow, standIns := [], harness := (true, "1756b7acb523a664d15a6a6b2cc1a8aad8980e47100e455047e8e866bcdb0e4c"), looks := true }, kinds := [], alts := [], laidByText := true, laidKinds := [.data, .data, .data, .sentinel, .sentinel, .data], laidTests := true, laidLooks := .later }
def FparseOrderCardSaid : Prop := Claim7.holds Tryz.pinned (.plain (OpenSpec.ofChange fparseOrderSpec)) fparseOrderCard

/-- THE TIED CARD OF 'plumblinelaw05.FparseJoins'. -/
def fparseJoinsCard : Claim7 := { stood := { row := fparseJoinsRow, standIns := [], harness := (true, "1756b7acb523a664d15a6a6b2cc1a8aad8980e47100e455047e8e866bcdb0e4c"), looks := true }, kinds := [], alts := [], laidByText := true, laidKinds := [.data, .data, .data, .sentinel, .sentinel, .data], laidTests := true, laidLooks := .later }
def FparseJoinsCardSaid : Prop := Claim7.holds Tryz.pinned (.plain (OpenSpec.ofChange fparseJoinsSpec)) fparseJoinsCard

/-- THE TIED CARD OF 'plumblinelaw05.FparseCuts'. -/
def fparseCutsCard : Claim7 := { stood := { row := fparseCutsRow, standIns := [], harness := (true, "1756b7acb523a664d15a6a6b2cc1a8aad8980e47100e455047e8e866bcdb0e4c"), looks := true }, kinds := [], alts := [], laidByText := true, laidKinds := [.data, .data, .data, .sentinel, .sentinel, .data], laidTests := true, laidLooks := .later }
def FparseCutsCardSaid : Prop := Claim7.holds Tryz.pinned (.plain (OpenSpec.ofChange fparseCutsSpec)) fparseCutsCard

/-- THE SECOND FORM's CARD OF 'plumblinelaw05.FparseBack'. -/
def fparseBackUptoCard : Claim7 := { stood := { row := fparseBackUptoRow, standIns := [], harness := (true, "1756b7acb523a664d15a6a6b2cc1a8aad8980e47100e455047e8e866bcdb0e4c"), looks := true }, kinds := [], alts := [], laidByText := true, laidKinds := [.data, .data, .data, .sentinel, .sentinel, .data], laidTests := true, laidLooks := .later }
def FparseBackUptoCardSaid : Prop := Claim7.holds Tryz.pinned (.plain (OpenSpec.upto fparseBackSpec)) fparseBackUptoCard

/-- THE SECOND FORM's CARD OF 'plumblinelaw05.FparseAgain'. -/
def fparseAgainUptoCard : Claim7 := { stood := { row := fparseAgainUptoRow, standIns := [], harness := (true, "1756b7acb523a664d15a6a6b2cc1a8aad8980e47100e455047e8e866bcdb0e4c"), looks := true }, kinds := [], alts := [], laidByText := true, laidKinds := [.data, .data, .data, .sentinel, .sentinel, .data], laidTests := true, laidLooks := .later }
def FparseAgainUptoCardSaid : Prop := Claim7.holds Tryz.pinned (.plain (OpenSpec.upto fparseAgainSpec)) fparseAgainUptoCard

/-- THE SECOND FORM's CARD OF 'plumblinelaw05.FparseOrder'. -/
def fparseOrderUptoCard : Claim7 := { stood := { row := fparseOrderUptoRow, standIns := [], harness := (true, "1756b7acb523a664d15a6a6b2cc1a8aad8980e47100e455047e8e866bcdb0e4c"), looks := true }, kinds := [], alts := [], laidByText := true, laidKinds := [.data, .data, .data, .sentinel, .sentinel, .data], laidTests := true, laidLooks := .later }
def FparseOrderUptoCardSaid : Prop := Claim7.holds Tryz.pinned (.plain (OpenSpec.upto fparseOrderSpec)) fparseOrderUptoCard

/-- THE SECOND FORM's CARD OF 'plumblinelaw05.FparseJoins'. -/
def fparseJoinsUptoCard : Claim7 := { stood := { row := fparseJoinsUptoRow, standIns := [], harness := (true, "1756b7acb523a664d15a6a6b2cc1a8aad8980e47100e455047e8e866bcdb0e4c"), looks := true }, kinds := [], alts := [], laidByText := true, laidKinds := [.data, .data, .data, .sentinel, .sentinel, .data], laidTests := true, laidLooks := .later }
def FparseJoinsUptoCardSaid : Prop := Claim7.holds Tryz.pinned (.plain (OpenSpec.upto fparseJoinsSpec)) fparseJoinsUptoCard

/-- THE SECOND FORM's CARD OF 'plumblinelaw05.FparseCuts'. -/
def fparseCutsUptoCard : Claim7 := { stood := { row := fparseCutsUptoRow, standIns := [], harness := (true, "1756b7acb523a664d15a6a6b2cc1a8aad8980e47100e455047e8e866bcdb0e4c"), looks := true }, kinds := [], alts := [], laidByText := true, laidKinds := [.data, .data, .data, .sentinel, .sentinel, .data], laidTests := true, laidLooks := .later }
def FparseCutsUptoCardSaid : Prop := Claim7.holds Tryz.pinned (.plain (OpenSpec.upto fparseCutsSpec)) fparseCutsUptoCard
end Rows
end Go.Proofs.YtknoibocpbfmmaaGreatDoor
