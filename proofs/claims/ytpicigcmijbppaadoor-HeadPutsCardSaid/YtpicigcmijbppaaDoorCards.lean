/-
  DERIVED. GIVEN WITH THE SEED: THE CARDS: each row of YtpicigcmijbppaaDoorRows.lean that lists a variable, with what it lists TIED to the program's text (the seventh form; the later family's looks); each row that meets fmt, with fmt's text TOLD by the authors' own Lean function (tested against real Go, not proved from fmt's source: count such statements apart). THE CARD IS WHAT COUNTS. Prove the row's statement (the work); the ties are given (YtpicigcmijbppaaDoorTie.lean); close each card by the builder's one call (the guide's Derived/Test/ToyasCard.lean, 'card_holds'). Laid BY PROGRAM, IN A SANDBOX (cutbox-door.mjs). By AI agents, Wed Nov 11 2026. No macro, syntax, notation, axiom, sorry.
-/
import Derived.Test.YtpicigcmijbppaaDoorRows
import GoSem.ClaimSeven
namespace Go.Proofs.YtpicigcmijbppaaDoor
namespace Rows

/-- THE TIED CARD OF 'hostlerlaw03.HeadPuts'. -/
def headPutsCard : Claim7 := { stood := { row := headPutsRow, standIns := [], harness := (true, "910df7cd19258cc0a87ab9f06d8a672e0c0a4594777e915dece2591331000a34"), looks := false }, kinds := [], alts := [], laidByText := true, laidKinds := [.data, .data], laidTests := true, laidLooks := .later }
def HeadPutsCardSaid : Prop := Claim7.holds Tryd.pinned (.plain (OpenSpec.ofChange headPutsSpec)) headPutsCard

/-- THE TIED CARD OF 'hostlerlaw03.HeadBack'. -/
def headBackCard : Claim7 := { stood := { row := headBackRow, standIns := [], harness := (true, "910df7cd19258cc0a87ab9f06d8a672e0c0a4594777e915dece2591331000a34"), looks := false }, kinds := [], alts := [], laidByText := true, laidKinds := [.data, .data], laidTests := true, laidLooks := .later }
def HeadBackCardSaid : Prop := Claim7.holds Tryd.pinned (.plain (OpenSpec.ofChange headBackSpec)) headBackCard

/-- THE TIED CARD OF 'hostlerlaw03.HeadCut'. -/
def headCutCard : Claim7 := { stood := { row := headCutRow, standIns := [], harness := (true, "910df7cd19258cc0a87ab9f06d8a672e0c0a4594777e915dece2591331000a34"), looks := false }, kinds := [], alts := [], laidByText := true, laidKinds := [.data, .data], laidTests := true, laidLooks := .later }
def HeadCutCardSaid : Prop := Claim7.holds Tryd.pinned (.plain (OpenSpec.ofChange headCutSpec)) headCutCard

/-- THE SECOND FORM's CARD OF 'hostlerlaw03.HeadPuts'. -/
def headPutsUptoCard : Claim7 := { stood := { row := headPutsUptoRow, standIns := [], harness := (true, "910df7cd19258cc0a87ab9f06d8a672e0c0a4594777e915dece2591331000a34"), looks := false }, kinds := [], alts := [], laidByText := true, laidKinds := [.data, .data], laidTests := true, laidLooks := .later }
def HeadPutsUptoCardSaid : Prop := Claim7.holds Tryd.pinned (.plain (OpenSpec.upto headPutsSpec)) headPutsUptoCard

/-- THE SECOND FORM's CARD OF 'hostlerlaw03.HeadBack'. -/
def headBackUptoCard : Claim7 := { stood := { row := headBackUptoRow, standIns := [], harness := (true, "910df7cd19258cc0a87ab9f06d8a672e0c0a4594777e915dece2591331000a34"), looks := false }, kinds := [], alts := [], laidByText := true, laidKinds := [.data, .data], laidTests := true, laidLooks := .later }
def HeadBackUptoCardSaid : Prop := Claim7.holds Tryd.pinned (.plain (OpenSpec.upto headBackSpec)) headBackUptoCard

/-- THE SECOND FORM's CARD OF 'hostlerlaw03.HeadCut'. -/
def headCutUptoCard : Claim7 := { stood := { row := headCutUptoRow, standIns := [], harness := (true, "910df7cd19258cc0a87ab9f06d8a672e0c0a4594777e915dece2591331000a34"), looks := false }, kinds := [], alts := [], laidByText := true, laidKinds := [.data, .data], laidTests := true, laidLooks := .later }
def HeadCutUptoCardSaid : Prop := Claim7.holds Tryd.pinned (.plain (OpenSpec.upto headCutSpec)) headCutUptoCard
end Rows
end Go.Proofs.YtpicigcmijbppaaDoor
