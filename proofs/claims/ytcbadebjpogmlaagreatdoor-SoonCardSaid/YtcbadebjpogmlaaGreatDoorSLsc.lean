import Derived.Test.YtcbadebjpogmlaaGreatDoorRows
import Derived.JoinedCond
namespace Go.Proofs.YtcbadebjpogmlaaGreatDoor
open Go
set_option maxRecDepth 100000
theorem fact_place:(Rows.soonRow.inPlace == Tryz.pinned.checked.prog.inPlace 7)=true:=by kernel_rfl
theorem fact_unf:(Rows.soonRow.unfollowed == Tryz.pinned.checked.prog.unfollowed 7)=true:=by kernel_rfl
theorem fact_rec:(Rows.soonRow.recurses == Tryz.pinned.checked.prog.recurses 7)=true:=by kernel_rfl
theorem fact_named:(Rows.soonRow.named == Tryz.pinned.checked.prog.varsNamed 7)=true:=by kernel_rfl
theorem fact_out:laidOutB Tryz.pinned.checked.prog=true:=by kernel_rfl
theorem fact_maps:mapsRowed Tryz.pinned.checked.prog=true:=by kernel_rfl
theorem facts:joinedFacts Tryz.pinned.checked.prog 7 Tryz.f7 (OpenSpec.ofChange Rows.soonSpec).bare Rows.soonRow=true:=by
 unfold joinedFacts
 rw [fact_place,fact_unf,fact_rec,fact_named,fact_out,fact_maps]
 kernel_rfl
end Go.Proofs.YtcbadebjpogmlaaGreatDoor
