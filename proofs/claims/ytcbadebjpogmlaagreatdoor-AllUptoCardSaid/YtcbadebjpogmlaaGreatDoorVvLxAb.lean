import Derived.Test.YtcbadebjpogmlaaGreatDoorVvPlain
import Derived.Test.YtcbadebjpogmlaaGreatDoorCards
import Derived.ProofKit
import Derived.OpenShut
import Derived.SevenTiedAt
import Derived.LaidSub
import Derived.LaidOnce
import Derived.Deep.DeepWitnessRowRef
import Derived.Lib.LaidIn
set_option maxRecDepth 100000
namespace Go.Proofs.YtcbadebjpogmlaaGreatDoor
open Go.ChangeShapes Go.WideShapes Go.ChangeAt Go.RowKit
theorem own:ownKnob Tryz.prog.godebug=none:=by kernel_rfl
def Ki:DataW Unit->Value|.lit (.int k n)=>.int k n|_=>.nilIface
def Kj:DataW Unit->List Value|.agg a=>a.map Ki|d=>[Ki d]
def lV:DataW Unit->Array Value|.agg a=>(a.flatMap Kj).toArray|_=>#[]
def jE(h:Array Obj)(g:Nat)(a:Array Value):Array Obj:=h.modify g fun|.cells _ t frozen=>.cells a t frozen|o=>o
def jF:Input:=⟨#[.cells #[.string ⟨#[118,97,108,117,101,32,111,117,116,32,111,102,32,114,97,110,103,101]⟩] 336,.cells #[.string ⟨#[105,110,118,97,108,105,100,32,115,121,110,116,97,120]⟩] 336],#[],[]⟩
def jG(N:Nat)(a:World):World:=let b:=jE (jE a.heap 7 #[.iface 334 (.pointer (some ⟨N,0,none⟩))]) 6 #[.iface 334 (.pointer (some ⟨N+1,0,none⟩))]
 let c:=jE b 4 (lV Rows.laid_math_bits_deBruijn32tab)
 let d:=jE c 5 (lV Rows.laid_math_bits_deBruijn64tab)
 let e:=jE d 0 (lV Rows.laid_internal_strconv_uint64pow10)
 let f:=jE e 3 (lV Rows.laid_unicode_utf8_acceptRanges)
 let g:=jE f 2 (lV Rows.laid_unicode_utf8_first)
 {a with heap:=g}
theorem rN(b:Os)(a:Array Value):laidMet Tryz.prog Rows.allUptoRow.laid ((jG (World.settled Tryz.prog b).heap.size (World.holding Tryz.prog b jF)).forCall (λ_ _=>0) ⟨#[],a,[]⟩).memory:=(LaidIn.of_run [0,1,2,3,4,5,6,7,(World.settled Tryz.prog default).heap.size,(World.settled Tryz.prog default).heap.size+1] 8 (by kernel_rfl) (by kernel_rfl) (by kernel_rfl) (by kernel_rfl)).met
theorem lX(c:Os){H:Type}(a:TypeId×Value->H):(Rows.OpenSpec.upto Rows.allSpec).preRow a Tryz.prog Tryz.f13 Rows.allUptoRow.domain false Rows.allUptoRow.laid ((jG (World.settled Tryz.prog c).heap.size (World.holding Tryz.prog c jF)).forCall (λ_ _=>0) ⟨#[],#[.slice none 0 0],[]⟩).memory #[.slice none 0 0]:=by
 have e:(DataW.whole a Tryz.prog ((jG (World.settled Tryz.prog c).heap.size (World.holding Tryz.prog c jF)).forCall (λ_ _=>0) ⟨#[],#[.slice none 0 0],[]⟩).memory Tryz.f13.params.toList Rows.allSpec.vars false #[Value.slice none 0 0].toList 8).map (λx=>(x.1,x.2.1))=some ([.nil],[]):=by kernel_rfl
 obtain⟨⟨g,h,i⟩,f,b⟩:=Option.map_eq_some_iff.1 e;simp only[Prod.mk.injEq]at b;obtain⟨rfl,rfl⟩:=b;exact OpenSpec.preRow_of_cond 8 f (by kernel_rfl) λk d=>by cases d;kernel_rfl (by kernel_rfl) (rN c _)
theorem Kk(a:Os):((jG (World.settled Tryz.prog a).heap.size (World.holding Tryz.prog a jF)).forCall (λ_ _=>0) ⟨#[],#[.slice none 0 0],[]⟩).variablesRefB Tryz.prog=true:=by kernel_rfl
theorem Kl(a:Os):(((jG (World.settled Tryz.prog a).heap.size (World.holding Tryz.prog a jF)).forCall (λ_ _=>0) ⟨#[],#[.slice none 0 0],[]⟩).heap.toList.drop Tryz.prog.globals.size).take ((begin Tryz.prog (λ_ _=>0) default).world.heap.size-Tryz.prog.globals.size)=(begin Tryz.prog (λ_ _=>0) default).world.heap.toList.drop Tryz.prog.globals.size:=by kernel_rfl
theorem AQ(a:Os):Input.okWideB Tryz.prog ((jG (World.settled Tryz.prog a).heap.size (World.holding Tryz.prog a jF)).forCall (λ_ _=>0) ⟨#[],#[.slice none 0 0],[]⟩) 13 ⟨#[],#[.slice none 0 0],[]⟩=true:=by kernel_rfl
theorem vN:Rows.allUptoRow.laidByTextAt .later Tryz.pinned [.data,.data,.data,.data,.sentinel,.sentinel,.pinned] true:=OpenClaim.laidByTextAt_pinned rfl rfl (Program.laidByTextLater_by_one 72 8 65 (by kernel_rfl) (by kernel_rfl) (by kernel_rfl) (by kernel_rfl) (by kernel_rfl) (by kernel_rfl) λ_ _=>by kernel_rfl) rfl rfl rfl rfl (λy hy e=>by simp only[Rows.allUptoRow,List.zip_cons_cons,List.zip_nil_right,List.mem_cons,List.mem_nil_iff,or_false]at hy;rcases hy with rfl|rfl|rfl|rfl|rfl|rfl|rfl<;>first|(cases e;done)|exact⟨by kernel_rfl,by kernel_rfl⟩) (by unfold Program.listedFits;rw[show Tryz.pinned.checked.prog.headLifts.contains "ownunsafe"=false by kernel_rfl];kernel_rfl)
theorem vO:Tryz.prog.inits.idxOf? 13=none:=by kernel_rfl
