/- The law Compiles: closed facts of its row. -/
import Derived.Test.YtcbadebjpogmlaaGreatDoorRows
import Derived.JoinedCond
namespace Go.Proofs.YtcbadebjpogmlaaGreatDoor
open Go
set_option maxRecDepth 100000
theorem fact_place : (Rows.compilesRow.inPlace == Tryz.pinned.checked.prog.inPlace 3) = true := by kernel_rfl
theorem fact_unf : (Rows.compilesRow.unfollowed == Tryz.pinned.checked.prog.unfollowed 3) = true := by kernel_rfl
theorem fact_rec : (Rows.compilesRow.recurses == Tryz.pinned.checked.prog.recurses 3) = true := by kernel_rfl
theorem fact_named : (Rows.compilesRow.named == Tryz.pinned.checked.prog.varsNamed 3) = true := by kernel_rfl
theorem fact_out : laidOutB Tryz.pinned.checked.prog = true := by kernel_rfl
theorem fact_maps : mapsRowed Tryz.pinned.checked.prog = true := by kernel_rfl
theorem facts : joinedFacts Tryz.pinned.checked.prog 3 Tryz.f3 (OpenSpec.ofChange Rows.compilesSpec).bare Rows.compilesRow = true := by
  unfold joinedFacts
  rw [fact_place, fact_unf, fact_rec, fact_named, fact_out, fact_maps]
  kernel_rfl

end Go.Proofs.YtcbadebjpogmlaaGreatDoor
