/-
  DERIVED. GIVEN WITH THE SEED: THE CARDS: each row of YtcbadebjpogmlaaGreatDoorRows.lean that lists a variable, with what it lists TIED to the program's text (the seventh form; the later family's looks); each row that meets fmt, with fmt's text TOLD by the authors' own Lean function (tested against real Go, not proved from fmt's source: count such statements apart). THE CARD IS WHAT COUNTS. Prove the row's statement (the work); the ties are given (YtcbadebjpogmlaaGreatDoorTie.lean); close each card by the builder's one call (the guide's Derived/Test/ToyasCard.lean, 'card_holds'). Laid BY PROGRAM, IN A SANDBOX (cutbox-door.mjs). By AI agents, Wed Nov 11 2026. No macro, syntax, notation, axiom, sorry.
-/
import Derived.Test.YtcbadebjpogmlaaGreatDoorRows
import GoSem.ClaimSeven
namespace Go.Proofs.YtcbadebjpogmlaaGreatDoor
namespace Rows

/-- THE TIED CARD OF 'traillaw.Compiles'. -/
def compilesCard : Claim7 := { stood := { row := compilesRow, standIns := [], harness := (true, "b8360c1b9a86daccc570fa3342d12a02210a508ec8610957fe946777279773f3"), looks := true }, kinds := [], alts := [], laidByText := true, laidKinds := [.data, .data, .data, .data, .sentinel, .sentinel, .pinned], laidTests := true, laidLooks := .later }
def CompilesCardSaid : Prop := Claim7.holds Tryz.pinned (.plain (OpenSpec.ofChange compilesSpec)) compilesCard

/-- THE TIED CARD OF 'traillaw.Selects'. -/
def selectsCard : Claim7 := { stood := { row := selectsRow, standIns := [], harness := (true, "b8360c1b9a86daccc570fa3342d12a02210a508ec8610957fe946777279773f3"), looks := true }, kinds := [], alts := [], laidByText := true, laidKinds := [.data, .data, .data, .data, .sentinel, .sentinel, .pinned], laidTests := true, laidLooks := .later }
def SelectsCardSaid : Prop := Claim7.holds Tryz.pinned (.plain (OpenSpec.ofChange selectsSpec)) selectsCard

/-- THE TIED CARD OF 'trailkeep.Agreed'. -/
def agreedCard : Claim7 := { stood := { row := agreedRow, standIns := [], harness := (true, "b8360c1b9a86daccc570fa3342d12a02210a508ec8610957fe946777279773f3"), looks := true }, kinds := [], alts := [], laidByText := true, laidKinds := [.data, .data, .data, .data, .sentinel, .sentinel, .pinned], laidTests := true, laidLooks := .later }
def AgreedCardSaid : Prop := Claim7.holds Tryz.pinned (.plain (OpenSpec.ofChange agreedSpec)) agreedCard

/-- THE TIED CARD OF 'trailkeep.Ever'. -/
def everCard : Claim7 := { stood := { row := everRow, standIns := [], harness := (true, "b8360c1b9a86daccc570fa3342d12a02210a508ec8610957fe946777279773f3"), looks := true }, kinds := [], alts := [], laidByText := true, laidKinds := [.data, .data, .data, .data, .sentinel, .sentinel, .pinned], laidTests := true, laidLooks := .later }
def EverCardSaid : Prop := Claim7.holds Tryz.pinned (.plain (OpenSpec.ofChange everSpec)) everCard

/-- THE TIED CARD OF 'trailkeep.Soon'. -/
def soonCard : Claim7 := { stood := { row := soonRow, standIns := [], harness := (true, "b8360c1b9a86daccc570fa3342d12a02210a508ec8610957fe946777279773f3"), looks := true }, kinds := [], alts := [], laidByText := true, laidKinds := [.data, .data, .data, .data, .sentinel, .sentinel, .pinned], laidTests := true, laidLooks := .later }
def SoonCardSaid : Prop := Claim7.holds Tryz.pinned (.plain (OpenSpec.ofChange soonSpec)) soonCard

/-- THE TIED CARD OF 'trailkeep.Placed'. -/
def placedCard : Claim7 := { stood := { row := placedRow, standIns := [], harness := (true, "b8360c1b9a86daccc570fa3342d12a02210a508ec8610957fe946777279773f3"), looks := true }, kinds := [], alts := [], laidByText := true, laidKinds := [.data, .data, .data, .data, .sentinel, .sentinel, .pinned], laidTests := true, laidLooks := .later }
def PlacedCardSaid : Prop := Claim7.holds Tryz.pinned (.plain (OpenSpec.ofChange placedSpec)) placedCard

/-- THE TIED CARD OF 'trailkeep.Parted'. -/
def partedCard : Claim7 := { stood := { row := partedRow, standIns := [], harness := (true, "b8360c1b9a86daccc570fa3342d12a02210a508ec8610957fe946777279773f3"), looks := true }, kinds := [], alts := [], laidByText := true, laidKinds := [.data, .data, .data, .data, .sentinel, .sentinel, .pinned], laidTests := true, laidLooks := .later }
def PartedCardSaid : Prop := Claim7.holds Tryz.pinned (.plain (OpenSpec.ofChange partedSpec)) partedCard

/-- THE TIED CARD OF 'trailkeep.Written'. -/
def writtenCard : Claim7 := { stood := { row := writtenRow, standIns := [], harness := (true, "b8360c1b9a86daccc570fa3342d12a02210a508ec8610957fe946777279773f3"), looks := true }, kinds := [], alts := [], laidByText := true, laidKinds := [.data, .data, .data, .data, .sentinel, .sentinel, .pinned], laidTests := true, laidLooks := .later }
def WrittenCardSaid : Prop := Claim7.holds Tryz.pinned (.plain (OpenSpec.ofChange writtenSpec)) writtenCard

/-- THE TIED CARD OF 'trailkeep.Pointed'. -/
def pointedCard : Claim7 := { stood := { row := pointedRow, standIns := [], harness := (true, "b8360c1b9a86daccc570fa3342d12a02210a508ec8610957fe946777279773f3"), looks := true }, kinds := [], alts := [], laidByText := true, laidKinds := [.data, .data, .data, .data, .sentinel, .sentinel, .pinned], laidTests := true, laidLooks := .later }
def PointedCardSaid : Prop := Claim7.holds Tryz.pinned (.plain (OpenSpec.ofChange pointedSpec)) pointedCard

/-- THE TIED CARD OF 'traillaw.Streams'. -/
def streamsCard : Claim7 := { stood := { row := streamsRow, standIns := [], harness := (true, "b8360c1b9a86daccc570fa3342d12a02210a508ec8610957fe946777279773f3"), looks := true }, kinds := [], alts := [], laidByText := true, laidKinds := [.data, .data, .data, .data, .sentinel, .sentinel, .pinned], laidTests := true, laidLooks := .later }
def StreamsCardSaid : Prop := Claim7.holds Tryz.pinned (.plain (OpenSpec.ofChange streamsSpec)) streamsCard

/-- THE TIED CARD OF 'traillaw.All'. -/
def allCard : Claim7 := { stood := { row := allRow, standIns := [], harness := (true, "b8360c1b9a86daccc570fa3342d12a02210a508ec8610957fe946777279773f3"), looks := true }, kinds := [], alts := [], laidByText := true, laidKinds := [.data, .data, .data, .data, .sentinel, .sentinel, .pinned], laidTests := true, laidLooks := .later }
def AllCardSaid : Prop := Claim7.holds Tryz.pinned (.plain (OpenSpec.ofChange allSpec)) allCard

/-- THE SECOND FORM's CARD OF 'traillaw.Compiles'. -/
def compilesUptoCard : Claim7 := { stood := { row := compilesUptoRow, standIns := [], harness := (true, "b8360c1b9a86daccc570fa3342d12a02210a508ec8610957fe946777279773f3"), looks := true }, kinds := [], alts := [], laidByText := true, laidKinds := [.data, .data, .data, .data, .sentinel, .sentinel, .pinned], laidTests := true, laidLooks := .later }
def CompilesUptoCardSaid : Prop := Claim7.holds Tryz.pinned (.plain (OpenSpec.upto compilesSpec)) compilesUptoCard

/-- THE SECOND FORM's CARD OF 'traillaw.Selects'. -/
def selectsUptoCard : Claim7 := { stood := { row := selectsUptoRow, standIns := [], harness := (true, "b8360c1b9a86daccc570fa3342d12a02210a508ec8610957fe946777279773f3"), looks := true }, kinds := [], alts := [], laidByText := true, laidKinds := [.data, .data, .data, .data, .sentinel, .sentinel, .pinned], laidTests := true, laidLooks := .later }
def SelectsUptoCardSaid : Prop := Claim7.holds Tryz.pinned (.plain (OpenSpec.upto selectsSpec)) selectsUptoCard

/-- THE SECOND FORM's CARD OF 'trailkeep.Agreed'. -/
def agreedUptoCard : Claim7 := { stood := { row := agreedUptoRow, standIns := [], harness := (true, "b8360c1b9a86daccc570fa3342d12a02210a508ec8610957fe946777279773f3"), looks := true }, kinds := [], alts := [], laidByText := true, laidKinds := [.data, .data, .data, .data, .sentinel, .sentinel, .pinned], laidTests := true, laidLooks := .later }
def AgreedUptoCardSaid : Prop := Claim7.holds Tryz.pinned (.plain (OpenSpec.upto agreedSpec)) agreedUptoCard

/-- THE SECOND FORM's CARD OF 'trailkeep.Ever'. -/
def everUptoCard : Claim7 := { stood := { row := everUptoRow, standIns := [], harness := (true, "b8360c1b9a86daccc570fa3342d12a02210a508ec8610957fe946777279773f3"), looks := true }, kinds := [], alts := [], laidByText := true, laidKinds := [.data, .data, .data, .data, .sentinel, .sentinel, .pinned], laidTests := true, laidLooks := .later }
def EverUptoCardSaid : Prop := Claim7.holds Tryz.pinned (.plain (OpenSpec.upto everSpec)) everUptoCard

/-- THE SECOND FORM's CARD OF 'trailkeep.Soon'. -/
def soonUptoCard : Claim7 := { stood := { row := soonUptoRow, standIns := [], harness := (true, "b8360c1b9a86daccc570fa3342d12a02210a508ec8610957fe946777279773f3"), looks := true }, kinds := [], alts := [], laidByText := true, laidKinds := [.data, .data, .data, .data, .sentinel, .sentinel, .pinned], laidTests := true, laidLooks := .later }
def SoonUptoCardSaid : Prop := Claim7.holds Tryz.pinned (.plain (OpenSpec.upto soonSpec)) soonUptoCard

/-- THE SECOND FORM's CARD OF 'trailkeep.Placed'. -/
def placedUptoCard : Claim7 := { stood := { row := placedUptoRow, standIns := [], harness := (true, "b8360c1b9a86daccc570fa3342d12a02210a508ec8610957fe946777279773f3"), looks := true }, kinds := [], alts := [], laidByText := true, laidKinds := [.data, .data, .data, .data, .sentinel, .sentinel, .pinned], laidTests := true, laidLooks := .later }
def PlacedUptoCardSaid : Prop := Claim7.holds Tryz.pinned (.plain (OpenSpec.upto placedSpec)) placedUptoCard

/-- THE SECOND FORM's CARD OF 'trailkeep.Parted'. -/
def partedUptoCard : Claim7 := { stood := { row := partedUptoRow, standIns := [], harness := (true, "b8360c1b9a86daccc570fa3342d12a02210a508ec8610957fe946777279773f3"), looks := true }, kinds := [], alts := [], laidByText := true, laidKinds := [.data, .data, .data, .data, .sentinel, .sentinel, .pinned], laidTests := true, laidLooks := .later }
def PartedUptoCardSaid : Prop := Claim7.holds Tryz.pinned (.plain (OpenSpec.upto partedSpec)) partedUptoCard

/-- THE SECOND FORM's CARD OF 'trailkeep.Written'. -/
def writtenUptoCard : Claim7 := { stood := { row := writtenUptoRow, standIns := [], harness := (true, "b8360c1b9a86daccc570fa3342d12a02210a508ec8610957fe946777279773f3"), looks := true }, kinds := [], alts := [], laidByText := true, laidKinds := [.data, .data, .data, .data, .sentinel, .sentinel, .pinned], laidTests := true, laidLooks := .later }
def WrittenUptoCardSaid : Prop := Claim7.holds Tryz.pinned (.plain (OpenSpec.upto writtenSpec)) writtenUptoCard

/-- THE SECOND FORM's CARD OF 'trailkeep.Pointed'. -/
def pointedUptoCard : Claim7 := { stood := { row := pointedUptoRow, standIns := [], harness := (true, "b8360c1b9a86daccc570fa3342d12a02210a508ec8610957fe946777279773f3"), looks := true }, kinds := [], alts := [], laidByText := true, laidKinds := [.data, .data, .data, .data, .sentinel, .sentinel, .pinned], laidTests := true, laidLooks := .later }
def PointedUptoCardSaid : Prop := Claim7.holds Tryz.pinned (.plain (OpenSpec.upto pointedSpec)) pointedUptoCard

/-- THE SECOND FORM's CARD OF 'traillaw.Streams'. -/
def streamsUptoCard : Claim7 := { stood := { row := streamsUptoRow, standIns := [], harness := (true, "b8360c1b9a86daccc570fa3342d12a02210a508ec8610957fe946777279773f3"), looks := true }, kinds := [], alts := [], laidByText := true, laidKinds := [.data, .data, .data, .data, .sentinel, .sentinel, .pinned], laidTests := true, laidLooks := .later }
def StreamsUptoCardSaid : Prop := Claim7.holds Tryz.pinned (.plain (OpenSpec.upto streamsSpec)) streamsUptoCard

/-- THE SECOND FORM's CARD OF 'traillaw.All'. -/
def allUptoCard : Claim7 := { stood := { row := allUptoRow, standIns := [], harness := (true, "b8360c1b9a86daccc570fa3342d12a02210a508ec8610957fe946777279773f3"), looks := true }, kinds := [], alts := [], laidByText := true, laidKinds := [.data, .data, .data, .data, .sentinel, .sentinel, .pinned], laidTests := true, laidLooks := .later }
def AllUptoCardSaid : Prop := Claim7.holds Tryz.pinned (.plain (OpenSpec.upto allSpec)) allUptoCard
end Rows
end Go.Proofs.YtcbadebjpogmlaaGreatDoor
