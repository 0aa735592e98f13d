import Derived.Test.YtcbadebjpogmlaaGreatDoorVvPlain
import Derived.Test.YtcbadebjpogmlaaGreatDoorRows
import Derived.JoinedCond
namespace Go.Proofs.YtcbadebjpogmlaaGreatDoor
open Go
set_option maxRecDepth 100000
theorem mY:(Rows.streamsUptoRow.inPlace==Tryz.pinned.checked.prog.inPlace 12)=true:=by kernel_rfl
theorem rO:(Rows.streamsUptoRow.unfollowed==Tryz.pinned.checked.prog.unfollowed 12)=true:=by kernel_rfl
theorem rQ:(Rows.streamsUptoRow.recurses==Tryz.pinned.checked.prog.recurses 12)=true:=by kernel_rfl
theorem mZ:(Rows.streamsUptoRow.named==Tryz.pinned.checked.prog.varsNamed 12)=true:=by kernel_rfl
theorem rR:laidOutB Tryz.pinned.checked.prog=true:=by kernel_rfl
theorem oZ:mapsRowed Tryz.pinned.checked.prog=true:=by kernel_rfl
theorem facts:joinedFacts Tryz.pinned.checked.prog 12 Tryz.f12 (Rows.OpenSpec.upto Rows.streamsSpec).bare Rows.streamsUptoRow=true:=by unfold joinedFacts;rw[mY,rO,rQ,mZ,rR,oZ];kernel_rfl
