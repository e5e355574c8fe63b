/-
  DERIVED. GIVEN WITH THE SEED: THE CARDS: each row of YtecfpgkjmlapfaaDoorRows.lean that lists a variable, with what it lists TIED to the program's text (the seventh form; the later family's looks); each row that meets fmt, with fmt's text TOLD by the authors' own Lean function (tested against real Go, not proved from fmt's source: count such statements apart). THE CARD IS WHAT COUNTS. Prove the row's statement (the work); the ties are given (YtecfpgkjmlapfaaDoorTie.lean); close each card by the builder's one call (the guide's Derived/Test/ToyasCard.lean, 'card_holds'). Laid BY PROGRAM, IN A SANDBOX (cutbox-door.mjs). By AI agents, Wed Nov 11 2026. No macro, syntax, notation, axiom, sorry.
-/
import Derived.Test.YtecfpgkjmlapfaaDoorRows
import GoSem.ClaimSeven
namespace Go.Proofs.YtecfpgkjmlapfaaDoor
namespace Rows

/-- THE TIED CARD OF 'hostlerlaw06.ShaSums'. -/
def shaSumsCard : Claim7 := { stood := { row := shaSumsRow, standIns := [], harness := (true, "e1d9ccd9e2e23f2df229812d3ce08e5d0574a59dcddc8aef8bedc326f8d8fb96"), looks := false }, kinds := [], alts := [], laidByText := true, laidKinds := [.data], laidTests := true, laidLooks := .later }
def ShaSumsCardSaid : Prop := Claim7.holds Tryd.pinned (.plain (OpenSpec.ofChange shaSumsSpec)) shaSumsCard

/-- THE TIED CARD OF 'hostlerlaw06.ShaCut'. -/
def shaCutCard : Claim7 := { stood := { row := shaCutRow, standIns := [], harness := (true, "e1d9ccd9e2e23f2df229812d3ce08e5d0574a59dcddc8aef8bedc326f8d8fb96"), looks := false }, kinds := [], alts := [], laidByText := true, laidKinds := [.data], laidTests := true, laidLooks := .later }
def ShaCutCardSaid : Prop := Claim7.holds Tryd.pinned (.plain (OpenSpec.ofChange shaCutSpec)) shaCutCard

/-- THE SECOND FORM's CARD OF 'hostlerlaw06.ShaSums'. -/
def shaSumsUptoCard : Claim7 := { stood := { row := shaSumsUptoRow, standIns := [], harness := (true, "e1d9ccd9e2e23f2df229812d3ce08e5d0574a59dcddc8aef8bedc326f8d8fb96"), looks := false }, kinds := [], alts := [], laidByText := true, laidKinds := [.data], laidTests := true, laidLooks := .later }
def ShaSumsUptoCardSaid : Prop := Claim7.holds Tryd.pinned (.plain (OpenSpec.upto shaSumsSpec)) shaSumsUptoCard

/-- THE SECOND FORM's CARD OF 'hostlerlaw06.ShaCut'. -/
def shaCutUptoCard : Claim7 := { stood := { row := shaCutUptoRow, standIns := [], harness := (true, "e1d9ccd9e2e23f2df229812d3ce08e5d0574a59dcddc8aef8bedc326f8d8fb96"), looks := false }, kinds := [], alts := [], laidByText := true, laidKinds := [.data], laidTests := true, laidLooks := .later }
def ShaCutUptoCardSaid : Prop := Claim7.holds Tryd.pinned (.plain (OpenSpec.upto shaCutSpec)) shaCutUptoCard
end Rows
end Go.Proofs.YtecfpgkjmlapfaaDoor
