/-
  DERIVED. GIVEN WITH THE SEED: THE CARDS: each row of YtblclinfcdalaaaDoorRows.lean that lists a variable, with what it lists TIED to the program's text (the seventh form; the later family's looks); each row that meets fmt, with fmt's text TOLD by the authors' own Lean function (tested against real Go, not proved from fmt's source: count such statements apart). THE CARD IS WHAT COUNTS. Prove the row's statement (the work); the ties are given (YtblclinfcdalaaaDoorTie.lean); close each card by the builder's one call (the guide's Derived/Test/ToyasCard.lean, 'card_holds'). Laid BY PROGRAM, IN A SANDBOX (cutbox-door.mjs). By AI agents, Wed Nov 11 2026. No macro, syntax, notation, axiom, sorry.
-/
import Derived.Test.YtblclinfcdalaaaDoorRows
import GoSem.ClaimSeven
namespace Go.Proofs.YtblclinfcdalaaaDoor
namespace Rows

/-- THE TIED CARD OF 'hostlerlaw10.KeyMakes'. -/
def keyMakesCard : Claim7 := { stood := { row := keyMakesRow, standIns := [], harness := (true, "9e8998e8757d3cff1af6f98d168673954957b0637866eac32d80df239cf32fd8"), looks := false }, kinds := [], alts := [], laidByText := true, laidKinds := [.data], laidTests := true, laidLooks := .later }
def KeyMakesCardSaid : Prop := Claim7.holds Tryd.pinned (.plain (OpenSpec.ofChange keyMakesSpec)) keyMakesCard

/-- THE TIED CARD OF 'hostlerlaw10.KeySeals'. -/
def keySealsCard : Claim7 := { stood := { row := keySealsRow, standIns := [], harness := (true, "9e8998e8757d3cff1af6f98d168673954957b0637866eac32d80df239cf32fd8"), looks := false }, kinds := [], alts := [], laidByText := true, laidKinds := [.data, .data, .data], laidTests := true, laidLooks := .later }
def KeySealsCardSaid : Prop := Claim7.holds Tryd.pinned (.plain (OpenSpec.ofChange keySealsSpec)) keySealsCard

/-- THE TIED CARD OF 'hostlerlaw10.KeyBack'. -/
def keyBackCard : Claim7 := { stood := { row := keyBackRow, standIns := [], harness := (true, "9e8998e8757d3cff1af6f98d168673954957b0637866eac32d80df239cf32fd8"), looks := false }, kinds := [], alts := [], laidByText := true, laidKinds := [.data, .data, .data], laidTests := true, laidLooks := .later }
def KeyBackCardSaid : Prop := Claim7.holds Tryd.pinned (.plain (OpenSpec.ofChange keyBackSpec)) keyBackCard

/-- THE SECOND FORM's CARD OF 'hostlerlaw10.KeyMakes'. -/
def keyMakesUptoCard : Claim7 := { stood := { row := keyMakesUptoRow, standIns := [], harness := (true, "9e8998e8757d3cff1af6f98d168673954957b0637866eac32d80df239cf32fd8"), looks := false }, kinds := [], alts := [], laidByText := true, laidKinds := [.data], laidTests := true, laidLooks := .later }
def KeyMakesUptoCardSaid : Prop := Claim7.holds Tryd.pinned (.plain (OpenSpec.upto keyMakesSpec)) keyMakesUptoCard

/-- THE SECOND FORM's CARD OF 'hostlerlaw10.KeySeals'. -/
def keySealsUptoCard : Claim7 := { stood := { row := keySealsUptoRow, standIns := [], harness := (true, "9e8998e8757d3cff1af6f98d168673954957b0637866eac32d80df239cf32fd8"), looks := false }, kinds := [], alts := [], laidByText := true, laidKinds := [.data, .data, .data], laidTests := true, laidLooks := .later }
def KeySealsUptoCardSaid : Prop := Claim7.holds Tryd.pinned (.plain (OpenSpec.upto keySealsSpec)) keySealsUptoCard

/-- THE SECOND FORM's CARD OF 'hostlerlaw10.KeyBack'. -/
def keyBackUptoCard : Claim7 := { stood := { row := keyBackUptoRow, standIns := [], harness := (true, "9e8998e8757d3cff1af6f98d168673954957b0637866eac32d80df239cf32fd8"), looks := false }, kinds := [], alts := [], laidByText := true, laidKinds := [.data, .data, .data], laidTests := true, laidLooks := .later }
def KeyBackUptoCardSaid : Prop := Claim7.holds Tryd.pinned (.plain (OpenSpec.upto keyBackSpec)) keyBackUptoCard
end Rows
end Go.Proofs.YtblclinfcdalaaaDoor
