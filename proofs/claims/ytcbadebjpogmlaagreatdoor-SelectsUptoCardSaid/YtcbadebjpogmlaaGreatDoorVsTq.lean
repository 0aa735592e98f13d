import Derived.Test.YtcbadebjpogmlaaGreatDoorVsQc
import Derived.Great.BuildSlice
namespace Go.Proofs.YtcbadebjpogmlaaGreatDoor
open Go.RowKit Tr
def hdv (o:Option Nat):Value:=match o with
 | none=>.pointer none
 | some b=>nG b
end Go.Proofs.YtcbadebjpogmlaaGreatDoor
