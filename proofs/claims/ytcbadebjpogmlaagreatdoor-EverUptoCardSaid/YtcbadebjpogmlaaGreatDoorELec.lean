import Derived.Test.YtcbadebjpogmlaaGreatDoorRows
import Derived.JoinedCond
namespace Go.Proofs.YtcbadebjpogmlaaGreatDoor
open Go
set_option maxRecDepth 100000
theorem fact_place:(Rows.everUptoRow.inPlace == Tryz.pinned.checked.prog.inPlace 6)=true:=by kernel_rfl
theorem fact_unf:(Rows.everUptoRow.unfollowed == Tryz.pinned.checked.prog.unfollowed 6)=true:=by kernel_rfl
theorem fact_rec:(Rows.everUptoRow.recurses == Tryz.pinned.checked.prog.recurses 6)=true:=by kernel_rfl
theorem fact_named:(Rows.everUptoRow.named == Tryz.pinned.checked.prog.varsNamed 6)=true:=by kernel_rfl
theorem fact_out:laidOutB Tryz.pinned.checked.prog=true:=by kernel_rfl
theorem fact_maps:mapsRowed Tryz.pinned.checked.prog=true:=by kernel_rfl
theorem facts:joinedFacts Tryz.pinned.checked.prog 6 Tryz.f6 (Rows.OpenSpec.upto Rows.everSpec).bare Rows.everUptoRow=true:=by
  unfold joinedFacts
  rw [fact_place,fact_unf,fact_rec,fact_named,fact_out,fact_maps]
  kernel_rfl
end Go.Proofs.YtcbadebjpogmlaaGreatDoor
