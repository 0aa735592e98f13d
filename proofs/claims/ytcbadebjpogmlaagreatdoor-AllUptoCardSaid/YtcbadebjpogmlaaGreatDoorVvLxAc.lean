import Derived.Test.YtcbadebjpogmlaaGreatDoorVvPlain
import Derived.Test.YtcbadebjpogmlaaGreatDoorRows
import Derived.JoinedCond
namespace Go.Proofs.YtcbadebjpogmlaaGreatDoor
open Go
set_option maxRecDepth 100000
theorem mY:(Rows.allUptoRow.inPlace==Tryz.pinned.checked.prog.inPlace 13)=true:=by kernel_rfl
theorem rO:(Rows.allUptoRow.unfollowed==Tryz.pinned.checked.prog.unfollowed 13)=true:=by kernel_rfl
theorem rQ:(Rows.allUptoRow.recurses==Tryz.pinned.checked.prog.recurses 13)=true:=by kernel_rfl
theorem mZ:(Rows.allUptoRow.named==Tryz.pinned.checked.prog.varsNamed 13)=true:=by kernel_rfl
theorem rR:laidOutB Tryz.pinned.checked.prog=true:=by kernel_rfl
theorem oZ:mapsRowed Tryz.pinned.checked.prog=true:=by kernel_rfl
theorem facts:joinedFacts Tryz.pinned.checked.prog 13 Tryz.f13 (Rows.OpenSpec.upto Rows.allSpec).bare Rows.allUptoRow=true:=by unfold joinedFacts;rw[mY,rO,rQ,mZ,rR,oZ];kernel_rfl
