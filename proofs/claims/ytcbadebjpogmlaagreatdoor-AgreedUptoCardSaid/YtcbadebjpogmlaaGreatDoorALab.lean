import Derived.Test.YtcbadebjpogmlaaGreatDoorCards
import Derived.WalkKit
import Derived.ProofKit
import Derived.OpenShut
import Derived.Test.YtcbadebjpogmlaaGreatDoorTie
import Derived.Deep.DeepHandedRow
import Derived.Deep.DeepWitnessRowRef
import Derived.Lib.LaidIn
namespace Go.Proofs.YtcbadebjpogmlaaGreatDoor
open Go.ChangeShapes Go.WideShapes Go.ChangeAt Go.RowKit
theorem own:ownKnob Tryz.prog.godebug=none:=by kernel_rfl
def lit1:DataW Unit→Value
 | .lit (.int k n)=>.int k n
 | _=>.nilIface
def flat1:DataW Unit→List Value
 | .agg ps=>ps.map lit1
 | d=>[lit1 d]
def flat2:DataW Unit→Array Value
 | .agg ps=>(ps.flatMap flat1).toArray
 | _=>#[]
def putIn (h:Array Obj) (g:Nat) (cs:Array Value):Array Obj:=h.modify g fun
 | .cells _ t frozen=>.cells cs t frozen
 | o=>o
def errsH:Input:=⟨#[.cells #[.string ⟨#[118,97,108,117,101,32,111,117,116,32,111,102,32,114,97,110,103,101]⟩] 336,
 .cells #[.string ⟨#[105,110,118,97,108,105,100,32,115,121,110,116,97,120]⟩] 336],#[],[]⟩
def layIn (N:Nat) (w0:World):World :=
 let h0:=putIn (putIn w0.heap 7 #[.iface 334 (.pointer (some ⟨N,0,none⟩))]) 6 #[.iface 334 (.pointer (some ⟨N+1,0,none⟩))]
 let h1:=putIn h0 4 (flat2 Rows.laid_math_bits_deBruijn32tab)
 let h2:=putIn h1 5 (flat2 Rows.laid_math_bits_deBruijn64tab)
 let h3:=putIn h2 0 (flat2 Rows.laid_internal_strconv_uint64pow10)
 let h4:=putIn h3 3 (flat2 Rows.laid_unicode_utf8_acceptRanges)
 let h5:=putIn h4 2 (flat2 Rows.laid_unicode_utf8_first)
 { w0 with heap:=h5 }
set_option maxRecDepth 100000 in
theorem laid_met (os:Os) (args:Array Value):laidMet Tryz.prog Rows.agreedUptoRow.laid ((layIn (World.settled Tryz.prog os).heap.size (World.holding Tryz.prog os errsH)).forCall (fun _ _=>0) ⟨#[],args,[]⟩).memory :=
 (LaidIn.of_run [0,1,2,3,4,5,6,7,(World.settled Tryz.prog default).heap.size,(World.settled Tryz.prog default).heap.size+1] 8 (by kernel_rfl) (by kernel_rfl) (by kernel_rfl) (by kernel_rfl)).met
theorem witness_row (os:Os) {H:Type} (enc:TypeId×Value→H) :
 (Rows.OpenSpec.upto Rows.agreedSpec).preRow enc Tryz.prog Tryz.f5 Rows.agreedUptoRow.domain false Rows.agreedUptoRow.laid ((layIn (World.settled Tryz.prog os).heap.size (World.holding Tryz.prog os errsH)).forCall (fun _ _=>0) ⟨#[],#[.slice none 0 0,.slice none 0 0,.string ⟨#[]⟩,.slice none 0 0,.slice none 0 0],[]⟩).memory #[.slice none 0 0,.slice none 0 0,.string ⟨#[]⟩,.slice none 0 0,.slice none 0 0]:=by
 have hw:(DataW.whole enc Tryz.prog ((layIn (World.settled Tryz.prog os).heap.size (World.holding Tryz.prog os errsH)).forCall (fun _ _=>0) ⟨#[],#[.slice none 0 0,.slice none 0 0,.string ⟨#[]⟩,.slice none 0 0,.slice none 0 0],[]⟩).memory Tryz.f5.params.toList Rows.agreedSpec.vars false #[Value.slice none 0 0,.slice none 0 0,.string ⟨#[]⟩,.slice none 0 0,.slice none 0 0].toList 8).map (fun x=>(x.1,x.2.1)) =
  some ([.nil,.nil,.lit (.string []),.nil,.nil],[]):=by kernel_rfl
 obtain ⟨⟨x1,x2,x3⟩,hx,hx1⟩:=Option.map_eq_some_iff.1 hw
 simp only [Prod.mk.injEq] at hx1
 obtain ⟨rfl,rfl⟩:=hx1
 exact OpenSpec.preRow_of_cond 8 hx (by kernel_rfl) (fun k hk=>by cases hk; kernel_rfl) (by kernel_rfl) (laid_met os _)
theorem wit_v (os:Os):((layIn (World.settled Tryz.prog os).heap.size (World.holding Tryz.prog os errsH)).forCall (fun _ _=>0) ⟨#[],#[.slice none 0 0,.slice none 0 0,.string ⟨#[]⟩,.slice none 0 0,.slice none 0 0],[]⟩).variablesRefB Tryz.prog=true:=by kernel_rfl
theorem wit_r (os:Os):(((layIn (World.settled Tryz.prog os).heap.size (World.holding Tryz.prog os errsH)).forCall (fun _ _=>0) ⟨#[],#[.slice none 0 0,.slice none 0 0,.string ⟨#[]⟩,.slice none 0 0,.slice none 0 0],[]⟩).heap.toList.drop Tryz.prog.globals.size).take ((begin Tryz.prog (fun _ _=>0) default).world.heap.size - Tryz.prog.globals.size) =
 (begin Tryz.prog (fun _ _=>0) default).world.heap.toList.drop Tryz.prog.globals.size:=by kernel_rfl
theorem wit_ok (os:Os):Input.okWideB Tryz.prog ((layIn (World.settled Tryz.prog os).heap.size (World.holding Tryz.prog os errsH)).forCall (fun _ _=>0) ⟨#[],#[.slice none 0 0,.slice none 0 0,.string ⟨#[]⟩,.slice none 0 0,.slice none 0 0],[]⟩) 5 ⟨#[],#[.slice none 0 0,.slice none 0 0,.string ⟨#[]⟩,.slice none 0 0,.slice none 0 0],[]⟩=true:=by kernel_rfl
theorem no_init:Tryz.prog.inits.idxOf? 5=none:=by kernel_rfl
end Go.Proofs.YtcbadebjpogmlaaGreatDoor
