/-
  DERIVED. GIVEN WITH THE SEED: THE CARDS: each row of YtbkdjnppgdjnaaaDoorRows.lean that lists a variable, with what it lists TIED to the program's text (the seventh form; the later family's looks); each row that meets fmt, with fmt's text TOLD by the authors' own Lean function (tested against real Go, not proved from fmt's source: count such statements apart). THE CARD IS WHAT COUNTS. Prove the row's statement (the work); the ties are given (YtbkdjnppgdjnaaaDoorTie.lean); close each card by the builder's one call (the guide's Derived/Test/ToyasCard.lean, 'card_holds'). Laid BY PROGRAM, IN A SANDBOX (cutbox-door.mjs). By AI agents, Wed Nov 11 2026. No macro, syntax, notation, axiom, sorry.
-/
import Derived.Test.YtbkdjnppgdjnaaaDoorRows
import GoSem.ClaimSeven
namespace Go.Proofs.YtbkdjnppgdjnaaaDoor
namespace Rows

/-- THE TIED CARD OF 'hostlerlaw01.VarintTakes'. -/
def varintTakesCard : Claim7 := { stood := { row := varintTakesRow, standIns := [], harness := (true, "6c0baaf25cc3c778da291219b2d84c89da272ed7e2b0367297a28420175e4603"), looks := false }, kinds := [], alts := [], laidByText := true, laidKinds := [.data, .data], laidTests := true, laidLooks := .later }
def VarintTakesCardSaid : Prop := Claim7.holds Tryd.pinned (.plain (OpenSpec.ofChange varintTakesSpec)) varintTakesCard

/-- THE TIED CARD OF 'hostlerlaw01.VarintAppends'. -/
def varintAppendsCard : Claim7 := { stood := { row := varintAppendsRow, standIns := [], harness := (true, "6c0baaf25cc3c778da291219b2d84c89da272ed7e2b0367297a28420175e4603"), looks := false }, kinds := [], alts := [], laidByText := true, laidKinds := [.data, .data], laidTests := true, laidLooks := .later }
def VarintAppendsCardSaid : Prop := Claim7.holds Tryd.pinned (.plain (OpenSpec.ofChange varintAppendsSpec)) varintAppendsCard

/-- THE TIED CARD OF 'hostlerlaw01.VarintBack'. -/
def varintBackCard : Claim7 := { stood := { row := varintBackRow, standIns := [], harness := (true, "6c0baaf25cc3c778da291219b2d84c89da272ed7e2b0367297a28420175e4603"), looks := false }, kinds := [], alts := [], laidByText := true, laidKinds := [.data, .data], laidTests := true, laidLooks := .later }
def VarintBackCardSaid : Prop := Claim7.holds Tryd.pinned (.plain (OpenSpec.ofChange varintBackSpec)) varintBackCard

/-- THE SECOND FORM's CARD OF 'hostlerlaw01.VarintTakes'. -/
def varintTakesUptoCard : Claim7 := { stood := { row := varintTakesUptoRow, standIns := [], harness := (true, "6c0baaf25cc3c778da291219b2d84c89da272ed7e2b0367297a28420175e4603"), looks := false }, kinds := [], alts := [], laidByText := true, laidKinds := [.data, .data], laidTests := true, laidLooks := .later }
def VarintTakesUptoCardSaid : Prop := Claim7.holds Tryd.pinned (.plain (OpenSpec.upto varintTakesSpec)) varintTakesUptoCard

/-- THE SECOND FORM's CARD OF 'hostlerlaw01.VarintAppends'. -/
def varintAppendsUptoCard : Claim7 := { stood := { row := varintAppendsUptoRow, standIns := [], harness := (true, "6c0baaf25cc3c778da291219b2d84c89da272ed7e2b0367297a28420175e4603"), looks := false }, kinds := [], alts := [], laidByText := true, laidKinds := [.data, .data], laidTests := true, laidLooks := .later }
def VarintAppendsUptoCardSaid : Prop := Claim7.holds Tryd.pinned (.plain (OpenSpec.upto varintAppendsSpec)) varintAppendsUptoCard

/-- THE SECOND FORM's CARD OF 'hostlerlaw01.VarintBack'. -/
def varintBackUptoCard : Claim7 := { stood := { row := varintBackUptoRow, standIns := [], harness := (true, "6c0baaf25cc3c778da291219b2d84c89da272ed7e2b0367297a28420175e4603"), looks := false }, kinds := [], alts := [], laidByText := true, laidKinds := [.data, .data], laidTests := true, laidLooks := .later }
def VarintBackUptoCardSaid : Prop := Claim7.holds Tryd.pinned (.plain (OpenSpec.upto varintBackSpec)) varintBackUptoCard
end Rows
end Go.Proofs.YtbkdjnppgdjnaaaDoor
