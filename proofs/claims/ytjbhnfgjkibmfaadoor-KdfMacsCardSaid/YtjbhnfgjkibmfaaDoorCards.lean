/-
  DERIVED. GIVEN WITH THE SEED: THE CARDS: each row of YtjbhnfgjkibmfaaDoorRows.lean that lists a variable, with what it lists TIED to the program's text (the seventh form; the later family's looks); each row that meets fmt, with fmt's text TOLD by the authors' own Lean function (tested against real Go, not proved from fmt's source: count such statements apart). THE CARD IS WHAT COUNTS. Prove the row's statement (the work); the ties are given (YtjbhnfgjkibmfaaDoorTie.lean); close each card by the builder's one call (the guide's Derived/Test/ToyasCard.lean, 'card_holds'). Laid BY PROGRAM, IN A SANDBOX (cutbox-door.mjs). By AI agents, Wed Nov 11 2026. No macro, syntax, notation, axiom, sorry.
-/
import Derived.Test.YtjbhnfgjkibmfaaDoorRows
import GoSem.ClaimSeven
namespace Go.Proofs.YtjbhnfgjkibmfaaDoor
namespace Rows

/-- THE TIED CARD OF 'hostlerlaw07.KdfMacs'. -/
def kdfMacsCard : Claim7 := { stood := { row := kdfMacsRow, standIns := [], harness := (true, "aecebde4012b6867717ab028a6205f9041db966d208b5b2c9be07422f463315c"), looks := false }, kinds := [], alts := [], laidByText := true, laidKinds := [.data], laidTests := true, laidLooks := .later }
def KdfMacsCardSaid : Prop := Claim7.holds Tryd.pinned (.plain (OpenSpec.ofChange kdfMacsSpec)) kdfMacsCard

/-- THE TIED CARD OF 'hostlerlaw07.KdfExpands'. -/
def kdfExpandsCard : Claim7 := { stood := { row := kdfExpandsRow, standIns := [], harness := (true, "aecebde4012b6867717ab028a6205f9041db966d208b5b2c9be07422f463315c"), looks := false }, kinds := [], alts := [], laidByText := true, laidKinds := [.data], laidTests := true, laidLooks := .later }
def KdfExpandsCardSaid : Prop := Claim7.holds Tryd.pinned (.plain (OpenSpec.ofChange kdfExpandsSpec)) kdfExpandsCard

/-- THE TIED CARD OF 'hostlerlaw07.KdfFirst'. -/
def kdfFirstCard : Claim7 := { stood := { row := kdfFirstRow, standIns := [], harness := (true, "aecebde4012b6867717ab028a6205f9041db966d208b5b2c9be07422f463315c"), looks := false }, kinds := [], alts := [], laidByText := true, laidKinds := [.data], laidTests := true, laidLooks := .later }
def KdfFirstCardSaid : Prop := Claim7.holds Tryd.pinned (.plain (OpenSpec.ofChange kdfFirstSpec)) kdfFirstCard

/-- THE SECOND FORM's CARD OF 'hostlerlaw07.KdfMacs'. -/
def kdfMacsUptoCard : Claim7 := { stood := { row := kdfMacsUptoRow, standIns := [], harness := (true, "aecebde4012b6867717ab028a6205f9041db966d208b5b2c9be07422f463315c"), looks := false }, kinds := [], alts := [], laidByText := true, laidKinds := [.data], laidTests := true, laidLooks := .later }
def KdfMacsUptoCardSaid : Prop := Claim7.holds Tryd.pinned (.plain (OpenSpec.upto kdfMacsSpec)) kdfMacsUptoCard

/-- THE SECOND FORM's CARD OF 'hostlerlaw07.KdfExpands'. -/
def kdfExpandsUptoCard : Claim7 := { stood := { row := kdfExpandsUptoRow, standIns := [], harness := (true, "aecebde4012b6867717ab028a6205f9041db966d208b5b2c9be07422f463315c"), looks := false }, kinds := [], alts := [], laidByText := true, laidKinds := [.data], laidTests := true, laidLooks := .later }
def KdfExpandsUptoCardSaid : Prop := Claim7.holds Tryd.pinned (.plain (OpenSpec.upto kdfExpandsSpec)) kdfExpandsUptoCard

/-- THE SECOND FORM's CARD OF 'hostlerlaw07.KdfFirst'. -/
def kdfFirstUptoCard : Claim7 := { stood := { row := kdfFirstUptoRow, standIns := [], harness := (true, "aecebde4012b6867717ab028a6205f9041db966d208b5b2c9be07422f463315c"), looks := false }, kinds := [], alts := [], laidByText := true, laidKinds := [.data], laidTests := true, laidLooks := .later }
def KdfFirstUptoCardSaid : Prop := Claim7.holds Tryd.pinned (.plain (OpenSpec.upto kdfFirstSpec)) kdfFirstUptoCard
end Rows
end Go.Proofs.YtjbhnfgjkibmfaaDoor
