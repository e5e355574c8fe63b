/-
  DERIVED. GIVEN WITH THE SEED: THE CARDS: each row of YtpnpbjdkldmmdaaDoorRows.lean that lists a variable, with what it lists TIED to the program's text (the seventh form; the later family's looks); each row that meets fmt, with fmt's text TOLD by the authors' own Lean function (tested against real Go, not proved from fmt's source: count such statements apart). THE CARD IS WHAT COUNTS. Prove the row's statement (the work); the ties are given (YtpnpbjdkldmmdaaDoorTie.lean); close each card by the builder's one call (the guide's Derived/Test/ToyasCard.lean, 'card_holds'). Laid BY PROGRAM, IN A SANDBOX (cutbox-door.mjs). By AI agents, Wed Nov 11 2026. No macro, syntax, notation, axiom, sorry.
-/
import Derived.Test.YtpnpbjdkldmmdaaDoorRows
import GoSem.ClaimSeven
namespace Go.Proofs.YtpnpbjdkldmmdaaDoor
namespace Rows

/-- THE TIED CARD OF 'hostlerlaw03.HeadBack'. -/
def headBackCard : Claim7 := { stood := { row := headBackRow, standIns := [], harness := (true, "06d13dcc831af3fecb220d098e545f786b9636bdc66bbe75dc2ff939a982ba8d"), looks := false }, kinds := [], alts := [], laidByText := true, laidKinds := [.data, .data], laidTests := true, laidLooks := .later }
def HeadBackCardSaid : Prop := Claim7.holds Tryd.pinned (.plain (OpenSpec.ofChange headBackSpec)) headBackCard

/-- THE TIED CARD OF 'hostlerlaw04.ParamAppends'. -/
def paramAppendsCard : Claim7 := { stood := { row := paramAppendsRow, standIns := [], harness := (true, "06d13dcc831af3fecb220d098e545f786b9636bdc66bbe75dc2ff939a982ba8d"), looks := false }, kinds := [], alts := [], laidByText := true, laidKinds := [.data, .data], laidTests := true, laidLooks := .later }
def ParamAppendsCardSaid : Prop := Claim7.holds Tryd.pinned (.plain (OpenSpec.ofChange paramAppendsSpec)) paramAppendsCard

/-- THE TIED CARD OF 'hostlerlaw04.ParamBack'. -/
def paramBackCard : Claim7 := { stood := { row := paramBackRow, standIns := [], harness := (true, "06d13dcc831af3fecb220d098e545f786b9636bdc66bbe75dc2ff939a982ba8d"), looks := false }, kinds := [], alts := [], laidByText := true, laidKinds := [.data, .data], laidTests := true, laidLooks := .later }
def ParamBackCardSaid : Prop := Claim7.holds Tryd.pinned (.plain (OpenSpec.ofChange paramBackSpec)) paramBackCard

/-- THE TIED CARD OF 'hostlerlaw04.ParamOthers'. -/
def paramOthersCard : Claim7 := { stood := { row := paramOthersRow, standIns := [], harness := (true, "06d13dcc831af3fecb220d098e545f786b9636bdc66bbe75dc2ff939a982ba8d"), looks := false }, kinds := [], alts := [], laidByText := true, laidKinds := [.data, .data], laidTests := true, laidLooks := .later }
def ParamOthersCardSaid : Prop := Claim7.holds Tryd.pinned (.plain (OpenSpec.ofChange paramOthersSpec)) paramOthersCard

/-- THE SECOND FORM's CARD OF 'hostlerlaw03.HeadBack'. -/
def headBackUptoCard : Claim7 := { stood := { row := headBackUptoRow, standIns := [], harness := (true, "06d13dcc831af3fecb220d098e545f786b9636bdc66bbe75dc2ff939a982ba8d"), looks := false }, kinds := [], alts := [], laidByText := true, laidKinds := [.data, .data], laidTests := true, laidLooks := .later }
def HeadBackUptoCardSaid : Prop := Claim7.holds Tryd.pinned (.plain (OpenSpec.upto headBackSpec)) headBackUptoCard

/-- THE SECOND FORM's CARD OF 'hostlerlaw04.ParamAppends'. -/
def paramAppendsUptoCard : Claim7 := { stood := { row := paramAppendsUptoRow, standIns := [], harness := (true, "06d13dcc831af3fecb220d098e545f786b9636bdc66bbe75dc2ff939a982ba8d"), looks := false }, kinds := [], alts := [], laidByText := true, laidKinds := [.data, .data], laidTests := true, laidLooks := .later }
def ParamAppendsUptoCardSaid : Prop := Claim7.holds Tryd.pinned (.plain (OpenSpec.upto paramAppendsSpec)) paramAppendsUptoCard

/-- THE SECOND FORM's CARD OF 'hostlerlaw04.ParamBack'. -/
def paramBackUptoCard : Claim7 := { stood := { row := paramBackUptoRow, standIns := [], harness := (true, "06d13dcc831af3fecb220d098e545f786b9636bdc66bbe75dc2ff939a982ba8d"), looks := false }, kinds := [], alts := [], laidByText := true, laidKinds := [.data, .data], laidTests := true, laidLooks := .later }
def ParamBackUptoCardSaid : Prop := Claim7.holds Tryd.pinned (.plain (OpenSpec.upto paramBackSpec)) paramBackUptoCard

/-- THE SECOND FORM's CARD OF 'hostlerlaw04.ParamOthers'. -/
def paramOthersUptoCard : Claim7 := { stood := { row := paramOthersUptoRow, standIns := [], harness := (true, "06d13dcc831af3fecb220d098e545f786b9636bdc66bbe75dc2ff939a982ba8d"), looks := false }, kinds := [], alts := [], laidByText := true, laidKinds := [.data, .data], laidTests := true, laidLooks := .later }
def ParamOthersUptoCardSaid : Prop := Claim7.holds Tryd.pinned (.plain (OpenSpec.upto paramOthersSpec)) paramOthersUptoCard
end Rows
end Go.Proofs.YtpnpbjdkldmmdaaDoor
