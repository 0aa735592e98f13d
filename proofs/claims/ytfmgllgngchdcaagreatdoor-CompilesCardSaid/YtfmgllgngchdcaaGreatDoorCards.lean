/-
  DERIVED. GIVEN WITH THE SEED: THE CARDS: each row of YtfmgllgngchdcaaGreatDoorRows.lean that lists a variable, with what it lists TIED to the program's text (the seventh form; the later family's looks); each row that meets fmt, with fmt's text TOLD by the authors' own Lean function (tested against real Go, not proved from fmt's source: count such statements apart). THE CARD IS WHAT COUNTS. Prove the row's statement (the work); the ties are given (YtfmgllgngchdcaaGreatDoorTie.lean); close each card by the builder's one call (the guide's Derived/Test/ToyasCard.lean, 'card_holds'). Laid BY PROGRAM, IN A SANDBOX (cutbox-door.mjs). By AI agents, Wed Nov 11 2026. No macro, syntax, notation, axiom, sorry.
-/
import Derived.Test.YtfmgllgngchdcaaGreatDoorRows
import GoSem.ClaimSeven
namespace Go.Proofs.YtfmgllgngchdcaaGreatDoor
namespace Rows

/-- THE TIED CARD OF 'traillaw.Compiles'. -/
def compilesCard : Claim7 := { stood := { row := compilesRow, standIns := [], harness := (true, "4b27b60b01ff0255c0762d39e9c59dfa4c0a851d3145d77215aac4eb376137ef"), looks := true }, kinds := [], alts := [], laidByText := true, laidKinds := [.data, .data, .data, .data, .sentinel, .sentinel, .pinned], laidTests := true, laidLooks := .later }
def CompilesCardSaid : Prop := Claim7.holds Tryz.pinned (.plain (OpenSpec.ofChange compilesSpec)) compilesCard

/-- THE TIED CARD OF 'traillaw.Selects'. -/
def selectsCard : Claim7 := { stood := { row := selectsRow, standIns := [], harness := (true, "4b27b60b01ff0255c0762d39e9c59dfa4c0a851d3145d77215aac4eb376137ef"), looks := true }, kinds := [], alts := [], laidByText := true, laidKinds := [.data, .data, .data, .data, .sentinel, .sentinel, .pinned], laidTests := true, laidLooks := .later }
def SelectsCardSaid : Prop := Claim7.holds Tryz.pinned (.plain (OpenSpec.ofChange selectsSpec)) selectsCard

/-- THE SECOND FORM's CARD OF 'traillaw.Compiles'. -/
def compilesUptoCard : Claim7 := { stood := { row := compilesUptoRow, standIns := [], harness := (true, "4b27b60b01ff0255c0762d39e9c59dfa4c0a851d3145d77215aac4eb376137ef"), looks := true }, kinds := [], alts := [], laidByText := true, laidKinds := [.data, .data, .data, .data, .sentinel, .sentinel, .pinned], laidTests := true, laidLooks := .later }
def CompilesUptoCardSaid : Prop := Claim7.holds Tryz.pinned (.plain (OpenSpec.upto compilesSpec)) compilesUptoCard

/-- THE SECOND FORM's CARD OF 'traillaw.Selects'. -/
def selectsUptoCard : Claim7 := { stood := { row := selectsUptoRow, standIns := [], harness := (true, "4b27b60b01ff0255c0762d39e9c59dfa4c0a851d3145d77215aac4eb376137ef"), looks := true }, kinds := [], alts := [], laidByText := true, laidKinds := [.data, .data, .data, .data, .sentinel, .sentinel, .pinned], laidTests := true, laidLooks := .later }
def SelectsUptoCardSaid : Prop := Claim7.holds Tryz.pinned (.plain (OpenSpec.upto selectsSpec)) selectsUptoCard
end Rows
end Go.Proofs.YtfmgllgngchdcaaGreatDoor
