/-
  DERIVED. GIVEN WITH THE SEED: THE CARDS: each row of YtkkojhkglcigmaaDoorRows.lean that lists a variable, with what it lists TIED to the program's text (the seventh form; the later family's looks); each row that meets fmt, with fmt's text TOLD by the authors' own Lean function (tested against real Go, not proved from fmt's source: count such statements apart). THE CARD IS WHAT COUNTS. Prove the row's statement (the work); the ties are given (YtkkojhkglcigmaaDoorTie.lean); close each card by the builder's one call (the guide's Derived/Test/ToyasCard.lean, 'card_holds'). Laid BY PROGRAM, IN A SANDBOX (cutbox-door.mjs). By AI agents, Wed Nov 11 2026. No macro, syntax, notation, axiom, sorry.
-/
import Derived.Test.YtkkojhkglcigmaaDoorRows
import GoSem.ClaimSeven
namespace Go.Proofs.YtkkojhkglcigmaaDoor
namespace Rows

/-- THE TIED CARD OF 'hostlerlaw02.FrameAppends'. -/
def frameAppendsCard : Claim7 := { stood := { row := frameAppendsRow, standIns := [], harness := (true, "7bc6b0bc7b2b94bdff2e8c3504f110350dc09420b07a88ccb283f4fbf3cb0d1a"), looks := false }, kinds := [], alts := [], laidByText := true, laidKinds := [.data, .data, .data], laidTests := true, laidLooks := .later }
def FrameAppendsCardSaid : Prop := Claim7.holds Tryd.pinned (.plain (OpenSpec.ofChange frameAppendsSpec)) frameAppendsCard

/-- THE TIED CARD OF 'hostlerlaw02.FrameBack'. -/
def frameBackCard : Claim7 := { stood := { row := frameBackRow, standIns := [], harness := (true, "7bc6b0bc7b2b94bdff2e8c3504f110350dc09420b07a88ccb283f4fbf3cb0d1a"), looks := false }, kinds := [], alts := [], laidByText := true, laidKinds := [.data, .data, .data], laidTests := true, laidLooks := .later }
def FrameBackCardSaid : Prop := Claim7.holds Tryd.pinned (.plain (OpenSpec.ofChange frameBackSpec)) frameBackCard

/-- THE TIED CARD OF 'hostlerlaw02.FrameCut'. -/
def frameCutCard : Claim7 := { stood := { row := frameCutRow, standIns := [], harness := (true, "7bc6b0bc7b2b94bdff2e8c3504f110350dc09420b07a88ccb283f4fbf3cb0d1a"), looks := false }, kinds := [], alts := [], laidByText := true, laidKinds := [.data, .data, .data], laidTests := true, laidLooks := .later }
def FrameCutCardSaid : Prop := Claim7.holds Tryd.pinned (.plain (OpenSpec.ofChange frameCutSpec)) frameCutCard

/-- THE SECOND FORM's CARD OF 'hostlerlaw02.FrameAppends'. -/
def frameAppendsUptoCard : Claim7 := { stood := { row := frameAppendsUptoRow, standIns := [], harness := (true, "7bc6b0bc7b2b94bdff2e8c3504f110350dc09420b07a88ccb283f4fbf3cb0d1a"), looks := false }, kinds := [], alts := [], laidByText := true, laidKinds := [.data, .data, .data], laidTests := true, laidLooks := .later }
def FrameAppendsUptoCardSaid : Prop := Claim7.holds Tryd.pinned (.plain (OpenSpec.upto frameAppendsSpec)) frameAppendsUptoCard

/-- THE SECOND FORM's CARD OF 'hostlerlaw02.FrameBack'. -/
def frameBackUptoCard : Claim7 := { stood := { row := frameBackUptoRow, standIns := [], harness := (true, "7bc6b0bc7b2b94bdff2e8c3504f110350dc09420b07a88ccb283f4fbf3cb0d1a"), looks := false }, kinds := [], alts := [], laidByText := true, laidKinds := [.data, .data, .data], laidTests := true, laidLooks := .later }
def FrameBackUptoCardSaid : Prop := Claim7.holds Tryd.pinned (.plain (OpenSpec.upto frameBackSpec)) frameBackUptoCard

/-- THE SECOND FORM's CARD OF 'hostlerlaw02.FrameCut'. -/
def frameCutUptoCard : Claim7 := { stood := { row := frameCutUptoRow, standIns := [], harness := (true, "7bc6b0bc7b2b94bdff2e8c3504f110350dc09420b07a88ccb283f4fbf3cb0d1a"), looks := false }, kinds := [], alts := [], laidByText := true, laidKinds := [.data, .data, .data], laidTests := true, laidLooks := .later }
def FrameCutUptoCardSaid : Prop := Claim7.holds Tryd.pinned (.plain (OpenSpec.upto frameCutSpec)) frameCutUptoCard
end Rows
end Go.Proofs.YtkkojhkglcigmaaDoor
