import Derived.Test.YtcbadebjpogmlaaGreatDoorRows
import Derived.JoinedCond
namespace Go.Proofs.YtcbadebjpogmlaaGreatDoor
open Go
set_option maxRecDepth 100000
theorem fact_place:(Rows.agreedUptoRow.inPlace == Tryz.pinned.checked.prog.inPlace 5)=true:=by kernel_rfl
theorem fact_unf:(Rows.agreedUptoRow.unfollowed == Tryz.pinned.checked.prog.unfollowed 5)=true:=by kernel_rfl
theorem fact_rec:(Rows.agreedUptoRow.recurses == Tryz.pinned.checked.prog.recurses 5)=true:=by kernel_rfl
theorem fact_named:(Rows.agreedUptoRow.named == Tryz.pinned.checked.prog.varsNamed 5)=true:=by kernel_rfl
theorem fact_out:laidOutB Tryz.pinned.checked.prog=true:=by kernel_rfl
theorem fact_maps:mapsRowed Tryz.pinned.checked.prog=true:=by kernel_rfl
theorem facts:joinedFacts Tryz.pinned.checked.prog 5 Tryz.f5 (Rows.OpenSpec.upto Rows.agreedSpec).bare Rows.agreedUptoRow=true:=by
 unfold joinedFacts
 rw [fact_place,fact_unf,fact_rec,fact_named,fact_out,fact_maps]
 kernel_rfl
end Go.Proofs.YtcbadebjpogmlaaGreatDoor
