/- Proved: Rows.PlacedCardSaid: the law Placed returns true, whatever numbers come in (each node that any query finds is one of the values of the text, by its path and its span, and what stands there is a value of its own); the package-level variables that the row lists start as the program's text lays them. -/
import Derived.Test.YtcbadebjpogmlaaGreatDoorPCu
import Derived.Test.YtcbadebjpogmlaaGreatDoorCards
import Derived.WalkKit
import Derived.ProofKit
import Derived.OpenShut
import Derived.Lib.LaidTab
import Derived.Stop.LaidErr
import Derived.Shaped
import Derived.ChangeStays
import Derived.Deep.Onto
import Derived.ChangeMaps5
import Derived.Test.YtcbadebjpogmlaaGreatDoorPCy
import Derived.Test.YtcbadebjpogmlaaGreatDoorPCm
import Derived.ChangeSlices
import Derived.Test.YtcbadebjpogmlaaGreatDoorPDe
import Derived.Test.YtcbadebjpogmlaaGreatDoorTie
import Derived.Deep.DeepHandedRow
import Derived.Deep.DeepWitnessRowRef
import Derived.Lib.LaidIn
import Derived.Test.YtcbadebjpogmlaaGreatDoorRows
import Derived.JoinedCond
namespace Go.Proofs.YtcbadebjpogmlaaGreatDoor
open Go.ChangeShapes Go.WideShapes Go.ChangeAt Go.RowKit Go.ChangeMaps
theorem kSyntax:Tryz.prog.globalNamed "strconv.ErrSyntax"=some 6:=by kernel_rfl
theorem kSyntaxT:(Tryz.prog.globals[6]?).map (·.type)=some 180:=by kernel_rfl
theorem kErr:Tryz.prog.cellsOf 336=1:=by kernel_rfl
theorem kStr:Tryz.prog.cellsOf 9=1:=by kernel_rfl
theorem kStar: "*"++ "errors.errorString"= "*errors.errorString":=by decide
theorem kRow (u:TypeId) (h:Tryz.prog.typeName? 3 u=some "*errors.errorString"):u=334 :=
 typeName_ptr_named (nm:= "errors.errorString") (by rw [kStar]; kernel_rfl) (by kernel_rfl) (by decide) u (by rw [kStar]; exact h)
theorem kPowT:(Tryz.prog.globals[0]?).map (·.type)=some 277:=by kernel_rfl
theorem kPowC:Tryz.prog.cellsOf 277=20:=by kernel_rfl
theorem kU64C:Tryz.prog.cellsOf 258=1:=by kernel_rfl
theorem kPow:(Rows.laid_internal_strconv_uint64pow10:DataW Unit)=Lib.tabData .u64 Lib.pow10Tab:=by kernel_rfl
def lst:List (String×DataW Unit):=[("math/bits.deBruijn32tab",Rows.laid_math_bits_deBruijn32tab),("math/bits.deBruijn64tab",Rows.laid_math_bits_deBruijn64tab),("internal/strconv.uint64pow10",Rows.laid_internal_strconv_uint64pow10),("unicode/utf8.acceptRanges",Rows.laid_unicode_utf8_acceptRanges),("strconv.ErrRange",Rows.laid_strconv_ErrRange),("strconv.ErrSyntax",Rows.laid_strconv_ErrSyntax),("unicode/utf8.first",Rows.laid_unicode_utf8_first)]
theorem shMax:(((begin Tryz.prog (fun _ _=>0) default).world.heap[1]?).bind Obj.row?)=some (#[.int .i64 0],3):=by kernel_rfl
theorem shPow:((((begin Tryz.prog (fun _ _=>0) default).world.heap[0]?).bind Obj.row?).map (·.2))=some 277:=by kernel_rfl
theorem bdInt:Tryz.prog.buildable 3=true:=by kernel_rfl
theorem ctInt:Tryz.prog.cellTypes Tryz.prog.depth 3=some [3]:=by kernel_rfl
set_option maxRecDepth 100000 in
theorem en_of {W:World} (h:laidMetH Tryz.prog lst W) (hs:W.ShapedOpen Tryz.prog):EN W:=by
 have h2:laidMet Tryz.prog lst W:=h
 have hlt:∀{g:Nat} {v:Value},W.cell? ⟨g,0,none⟩=some v→g<W.heap.size:=fun {g v} hc=>World.block_lt_of_cell? W ⟨g,0,none⟩ hc
 obtain ⟨a,s,hv,_,_,_⟩:=laid_sentinel h2.tail.tail.tail.tail.tail kSyntax kSyntaxT Tryz.underlying180 kRow Tryz.underlying334 Tryz.underlying336 rfl rfl Tryz.underlying9 kErr kStr
 have hc:W.cell? ⟨6,0,none⟩=some (.iface 334 (.pointer (some a))):=by simpa using World.var?_cell kSyntax hv 0
 have h3:=h2.tail.tail
 rw [kPow] at h3
 have hT:=Lib.tabIs_of_head gPow kPowT Tryz.underlying277 Tryz.underlying258 kU64C kPowC h3
 obtain ⟨cs,hm,hz,hok⟩:=hs.1 1 _ _ (by decide +kernel) shMax
 obtain ⟨ts,t1,t2,t3⟩:=hok bdInt
 rw [ctInt] at t1
 obtain rfl:=Option.some.inj t1
 have hz1:cs.size=1:=hz
 obtain ⟨v,hv0⟩:∃v,cs[0]?=some v:=⟨cs[0],by simp [hz1]⟩
 obtain ⟨u,hu,hcell⟩:=t3 0 v hv0
 have hu:u=3:=by simpa using hu.symm
 subst hu
 unfold Cell.ok at hcell
 rw [Tryz.underlying3] at hcell
 have hmc:W.cell? ⟨1,0,none⟩=some v:=by
  have:Blk W 1 cs 3:=hm
  rw [this.cell 0]; exact hv0
 have hpl:0<W.heap.size:=by
  obtain ⟨y,hy,hy2⟩:=Option.map_eq_some_iff.1 shPow
  obtain ⟨cs2,hm2,_⟩:=hs.1 0 y.1 y.2 (by decide +kernel) hy
  exact lt_of_some hm2
 refine ⟨⟨⟨_,hc,Or.inr ⟨_,_,rfl⟩⟩,hlt hc⟩,hT,hpl,?_,hlt hmc⟩
 cases v with
 | int k m =>
  obtain ⟨rfl,_⟩:=hcell
  exact ⟨m,hmc⟩
 | _=>exact hcell.elim
section
variable {H:Type} {enc:TypeId×Value→H} {P:Program}
theorem post_keeps {f:Func} {s:ChangeSpec} {apart fresh handsOn again:Bool} {W W':World} {args:Array Value} {v:Value} {ds gs:List (DataW H)} {before pa pv:List MemPlace}
 (hW:DataW.Whole enc P f.params.toList s.vars apart W args.toList ds gs before)
 (hres:∀(b:Nat) (sp:Nat→Bool) (hd:Bool),DataW.TrodAll enc P W' b sp hd f.resultTypes.toList (v.resultList f.resultTypes.size) (s.fn H (ds++gs)).results [])
 (hargs:∀sp:Nat→Bool,(∀p ∈ before,sp p.block=true)→DataW.TrodAll enc P W' 0 sp true f.params.toList args.toList (s.fn H (ds++gs)).args pa)
 (hvars:∀sp:Nat→Bool,(∀p ∈ before,sp p.block=true)→DataW.TrodVars enc P W' sp s.vars (s.fn H (ds++gs)).vars pv)
 (hps:before=pa++pv) (hk:Keeps W W')
 (hok:∀(j:Nat) (t:TypeId) (r:Value),f.resultTypes[j]?=some t→(v.resultList f.resultTypes.size)[j]?=some r→Value.okWide P W' .any 0 t r) :
 s.post enc P f apart fresh handsOn again W args v W':=by
 have hlt:=hW.lt
 have hb:W.keptBut W' (· ∈ before):=(World.keptBut_refl W _).congr hk.os hk.output (fun i hi=>hk.block i hi id)
 refine ⟨ds,gs,before,[],pa,pv,hW,hres _ _ _,hargs _ (fun p hp=>by simpa using hlt p hp),hvars _ (fun p hp=>by simpa using hlt p hp),
  World.keptBut_mono (fun p hp=>⟨hp,Or.inr (List.mem_append.1 (hps▸hp))⟩) hb,fun _=>?_⟩
 obtain ⟨_,_,_,_,_,hz,hn⟩:=hW
 refine ⟨hok,_,_,([]++pa)++pv,⟨[]++pa,pv,trodAll_append (hargs _ (fun _ _=>rfl)) (hres _ _ _),hvars _ (fun _ _=>rfl),rfl,fun b off hp=>?_,fun ha=>?_⟩,fun p hp _=>?_⟩
 ·have hm:MemPlace.cell b off ∈ before:=by rw [hps]; simpa using hp
  rw [hk.frozen (p:=⟨b,off,none⟩) (hlt _ hm) id]
  exact hz b off hm
 ·have:=hn ha
  rw [hps] at this
  simpa using this
 rw [hps]; simpa using hp
end
end Go.Proofs.YtcbadebjpogmlaaGreatDoor
namespace Go.Proofs.YtcbadebjpogmlaaGreatDoor
open Go.ChangeShapes Go.WideShapes Go.ChangeAt Go.RowKit Go.ChangeMaps
theorem cellsInt:Tryz.prog.cellsOf 3=1:=by kernel_rfl
def IT (t:TypeId):Prop:=t=24∨t=3
theorem itKids:Kids Tryz.prog IT:=by
  have u0:=Tryz.underlying24
  have u2:=Tryz.underlying3
  refine ⟨?_,?_,?_,?_,?_⟩
  · rintro t e (rfl | rfl) h
    · rw [u0] at h; cases h
    rw [u2] at h; cases h
  · rintro t e (rfl | rfl) h
    · rw [u0] at h; cases h; exact Or.inr rfl
    rw [u2] at h; cases h
  · rintro t e n (rfl | rfl) h
    · rw [u0] at h; cases h
    rw [u2] at h; cases h
  · rintro t fs (rfl | rfl) h
    · rw [u0] at h; cases h
    rw [u2] at h; cases h
  rintro t k e (rfl | rfl) h
  · rw [u0] at h; cases h
  rw [u2] at h; cases h
theorem itPos {t e:TypeId} (h:IT t) (hu:Tryz.prog.underlying t=some (.slice e)):0<Tryz.prog.cellsOf e:=by
  rcases itKids.slice h hu with rfl | rfl
  · rw [show Tryz.prog.cellsOf 24=1 by kernel_rfl]; decide
  rw [cellsInt]; decide
theorem slice_shape {P:Program} {w:World} {base:Nat} {t e:TypeId} {v:Value} (ht:P.underlying t=some (.slice e)) (h:Value.okWide P w .any base t v) :
    v=.slice none 0 0∨∃a len cap,v=.slice (some a) len cap∧a.block<w.heap.size:=by
  simp only [Value.okWide,Cell.okWide,Cell.ok,ht] at h
  split at h
  all_goals first
    | (rename_i heq; cases heq; done)
    | exact Or.inl rfl
    | (obtain ⟨_,_,_,_,_,_,hs,_⟩:=h
       refine Or.inr ⟨_,_,_,rfl,?_⟩
       unfold World.shape? at hs
       split at hs
       · rename_i hh; exact lt_of_some hh
       cases hs)
    | exact absurd h id
theorem wf_range {n:Int} (h:(Lit.int .i64 n).wf=true):i64R n:=by
  have e1:IntKind.i64.min=-9223372036854775808:=by decide
  have e2:IntKind.i64.max=9223372036854775807:=by decide
  simp only [Lit.wf,Bool.and_eq_true,decide_eq_true_eq,e1,e2] at h
  unfold i64R
  omega
section
variable {H:Type} {enc:TypeId×Value→H} {W:World}
set_option maxRecDepth 100000 in
theorem ints_open {base:Nat} {v:Value} {d:DataW H} {pl:List MemPlace} (hok:Value.okWide Tryz.prog W .any base 24 v) (h:DataW.Trod enc Tryz.prog W 0 (fun _=>true) true 24 v d pl):IntsAt W v:=by
  obtain ⟨fuel,h⟩:=h
  rcases slice_shape Tryz.underlying24 hok with rfl | ⟨a,len,cap,rfl,hb⟩
  · exact ⟨none,0,0,rfl,by omega,fun y=>absurd y (by omega)⟩
  rcases open_ints Tryz.underlying24 Tryz.underlying3 cellsInt h with ⟨e,_⟩ | ⟨a',len',cap',zs,e,_,hl,hm,hz,_,hc,hw⟩
  · simp [Value.cells] at e
  simp only [Value.cells,List.cons.injEq,Value.slice.injEq,Option.some.injEq,and_true] at e
  obtain ⟨rfl,rfl,rfl⟩:=e
  simp only [if_true] at hz
  refine ⟨some a,len,cap,rfl,by unfold maxLen at hm; omega,fun _=>⟨a,rfl,fun i hi=>⟨_,hc i (by omega),wf_range (hw _ ?_)⟩⟩⟩
  have hlt:i<zs.length:=by omega
  rw [List.getD_eq_getElem?_getD,List.getElem?_eq_getElem hlt]
  exact List.getElem_mem hlt
set_option maxRecDepth 100000 in
theorem ints_stay {W':World} {sp:Nat→Bool} {v:Value} {d:DataW H} {pl:List MemPlace} (h:DataW.Trod enc Tryz.prog W 0 (fun _=>true) true 24 v d pl) (hlt:∀p ∈ pl,p.block<W.heap.size) (hk:Keeps W W') (hsp:∀p ∈ pl,sp p.block=true):DataW.Trod enc Tryz.prog W' 0 sp true 24 v d pl:=by
  obtain ⟨fuel,ht⟩:=h
  exact ⟨fuel,DataW.trod_stays (w':=W') (sp':=sp) itKids itPos (fun hh=>by cases hh) (Or.inl rfl) ht (fun p hp=>by
    have hb:=hlt p hp
    cases p with
    | cell b off=>exact hk.cell (p:=⟨b,off,none⟩) hb id
    | map b=>exact hk.block b hb id) (fun p hp=>hsp p hp)⟩
end
section
variable {H:Type}
end
end Go.Proofs.YtcbadebjpogmlaaGreatDoor
namespace Go.Proofs.YtcbadebjpogmlaaGreatDoor
open Go.ChangeShapes Go.WideShapes Go.ChangeAt Go.RowKit Go.ChangeMaps
section
variable {H:Type}
set_option maxRecDepth 100000 in
theorem placed_contract (enc:TypeId×Value→H) (W:World) (base:Nat) (args:Array Value) (ds gs:List (DataW H)) (before:List MemPlace) (hX:EN W)
 (hval:∀(j:Nat) t v,Tryz.f8.params[j]?=some t→args[j]?=some v→Value.okWide Tryz.prog W .any base t v)
 (hW:DataW.Whole enc Tryz.prog Tryz.f8.params.toList Rows.placedSpec.vars false W args.toList ds gs before) :
 Calls Tryz.prog 8 args W fun e W'=>∃v,e=.returned v∧Rows.placedSpec.post enc Tryz.prog Tryz.f8 false true false false W args v W':=by
 have hW':=hW
 have hlt:=hW.lt
 obtain ⟨p,q,hA0,hV,rfl,hfz,hnd⟩:=hW
 have hA:DataW.TrodAll enc Tryz.prog W 0 (fun _=>true) true Tryz.f8.params.toList args.toList ds p:=hA0
 rw [Tryz.params8] at hA hval
 obtain ⟨v0,vs0,d0,ds0,p0,q0,hargs,rfl,rfl,h0,r0⟩:=trodAll_cons hA
 obtain ⟨v1,vs1,d1,ds1,p1,q1,rfl,rfl,rfl,h1,r1⟩:=trodAll_cons r0
 obtain ⟨rfl,rfl,rfl⟩:=trodAll_nil r1
 obtain rfl:args=#[v0,v1]:=by cases args; simp_all
 obtain ⟨rfl,rfl⟩:=trodVars_none hV
 have i0:=ints_open (hval 0 24 v0 rfl rfl) h0
 have i1:=ints_open (hval 1 24 v1 rfl rfl) h1
 clear hA0 hA
 simp only [List.append_nil] at hW' hlt
 refine (p_placed hX i0 i1).mono ?_
 rintro e W' ⟨rfl,hk'⟩
 have m0:∀p ∈ p0,p ∈ p0++p1:=fun p hp=>List.mem_append_left _ hp
 have m1:∀p ∈ p1,p ∈ p0++p1:=fun p hp=>List.mem_append_right _ hp
 refine ⟨_,rfl,post_keeps (pa:=p0++p1) (pv:=[]) hW' (fun _ _ _=>trodAll_cons_mk (shut_bool Tryz.underlying4 _) trodAll_mk0) (fun sp hsp=>?_) (fun _ _=>rfl) (by simp) hk' (ok_one (by kernel_rfl) rfl (okWide_bool_mk Tryz.underlying4 _))⟩
 have S:=trodAll_cons_mk (ints_stay (sp:=sp) h0 (fun p hp=>hlt p (m0 p hp)) hk' (fun p hp=>hsp p (m0 p hp))) (trodAll_cons_mk (ints_stay (sp:=sp) h1 (fun p hp=>hlt p (m1 p hp)) hk' (fun p hp=>hsp p (m1 p hp))) trodAll_mk0)
 rw [Tryz.params8]
 simp only [List.append_nil] at S
 exact S
end
end Go.Proofs.YtcbadebjpogmlaaGreatDoor
namespace Go.Proofs.YtcbadebjpogmlaaGreatDoor
open Go.ChangeShapes Go.WideShapes Go.ChangeAt Go.RowKit
theorem own:ownKnob Tryz.prog.godebug=none:=by kernel_rfl
def lit1:DataW Unit→Value
 | .lit (.int k n)=>.int k n
 | _=>.nilIface
def flat1:DataW Unit→List Value
 | .agg ps=>ps.map lit1
 | d=>[lit1 d]
def flat2:DataW Unit→Array Value
 | .agg ps=>(ps.flatMap flat1).toArray
 | _=>#[]
def putIn (h:Array Obj) (g:Nat) (cs:Array Value):Array Obj:=h.modify g fun
 | .cells _ t frozen=>.cells cs t frozen
 | o=>o
def errsH:Input:=⟨#[.cells #[.string ⟨#[118,97,108,117,101,32,111,117,116,32,111,102,32,114,97,110,103,101]⟩] 336,
 .cells #[.string ⟨#[105,110,118,97,108,105,100,32,115,121,110,116,97,120]⟩] 336],#[],[]⟩
def layIn (N:Nat) (w0:World):World :=
 let h0:=putIn (putIn w0.heap 7 #[.iface 334 (.pointer (some ⟨N,0,none⟩))]) 6 #[.iface 334 (.pointer (some ⟨N+1,0,none⟩))]
 let h1:=putIn h0 4 (flat2 Rows.laid_math_bits_deBruijn32tab)
 let h2:=putIn h1 5 (flat2 Rows.laid_math_bits_deBruijn64tab)
 let h3:=putIn h2 0 (flat2 Rows.laid_internal_strconv_uint64pow10)
 let h4:=putIn h3 3 (flat2 Rows.laid_unicode_utf8_acceptRanges)
 let h5:=putIn h4 2 (flat2 Rows.laid_unicode_utf8_first)
 { w0 with heap:=h5 }
set_option maxRecDepth 100000 in
theorem laid_met (os:Os) (args:Array Value):laidMet Tryz.prog Rows.placedRow.laid ((layIn (World.settled Tryz.prog os).heap.size (World.holding Tryz.prog os errsH)).forCall (fun _ _=>0) ⟨#[],args,[]⟩).memory :=
 (LaidIn.of_run [0,1,2,3,4,5,6,7,(World.settled Tryz.prog default).heap.size,(World.settled Tryz.prog default).heap.size+1] 8 (by kernel_rfl) (by kernel_rfl) (by kernel_rfl) (by kernel_rfl)).met
theorem witness_row (os:Os) {H:Type} (enc:TypeId×Value→H) :
 (OpenSpec.ofChange Rows.placedSpec).preRow enc Tryz.prog Tryz.f8 Rows.placedRow.domain false Rows.placedRow.laid ((layIn (World.settled Tryz.prog os).heap.size (World.holding Tryz.prog os errsH)).forCall (fun _ _=>0) ⟨#[],#[.slice none 0 0,.slice none 0 0],[]⟩).memory #[.slice none 0 0,.slice none 0 0]:=by
 have hw:(DataW.whole enc Tryz.prog ((layIn (World.settled Tryz.prog os).heap.size (World.holding Tryz.prog os errsH)).forCall (fun _ _=>0) ⟨#[],#[.slice none 0 0,.slice none 0 0],[]⟩).memory Tryz.f8.params.toList Rows.placedSpec.vars false #[Value.slice none 0 0,.slice none 0 0].toList 8).map (fun x=>(x.1,x.2.1)) =
  some ([.nil,.nil],[]):=by kernel_rfl
 obtain ⟨⟨x1,x2,x3⟩,hx,hx1⟩:=Option.map_eq_some_iff.1 hw
 simp only [Prod.mk.injEq] at hx1
 obtain ⟨rfl,rfl⟩:=hx1
 exact OpenSpec.preRow_of_cond 8 hx (by kernel_rfl) (fun k hk=>by cases hk) (by kernel_rfl) (laid_met os _)
theorem wit_v (os:Os):((layIn (World.settled Tryz.prog os).heap.size (World.holding Tryz.prog os errsH)).forCall (fun _ _=>0) ⟨#[],#[.slice none 0 0,.slice none 0 0],[]⟩).variablesRefB Tryz.prog=true:=by kernel_rfl
theorem wit_r (os:Os):(((layIn (World.settled Tryz.prog os).heap.size (World.holding Tryz.prog os errsH)).forCall (fun _ _=>0) ⟨#[],#[.slice none 0 0,.slice none 0 0],[]⟩).heap.toList.drop Tryz.prog.globals.size).take ((begin Tryz.prog (fun _ _=>0) default).world.heap.size - Tryz.prog.globals.size) =
 (begin Tryz.prog (fun _ _=>0) default).world.heap.toList.drop Tryz.prog.globals.size:=by kernel_rfl
theorem wit_ok (os:Os):Input.okWideB Tryz.prog ((layIn (World.settled Tryz.prog os).heap.size (World.holding Tryz.prog os errsH)).forCall (fun _ _=>0) ⟨#[],#[.slice none 0 0,.slice none 0 0],[]⟩) 8 ⟨#[],#[.slice none 0 0,.slice none 0 0],[]⟩=true:=by kernel_rfl
theorem no_init:Tryz.prog.inits.idxOf? 8=none:=by kernel_rfl
end Go.Proofs.YtcbadebjpogmlaaGreatDoor
namespace Go.Proofs.YtcbadebjpogmlaaGreatDoor
open Go
set_option maxRecDepth 100000
theorem fact_place:(Rows.placedRow.inPlace == Tryz.pinned.checked.prog.inPlace 8)=true:=by kernel_rfl
theorem fact_unf:(Rows.placedRow.unfollowed == Tryz.pinned.checked.prog.unfollowed 8)=true:=by kernel_rfl
theorem fact_rec:(Rows.placedRow.recurses == Tryz.pinned.checked.prog.recurses 8)=true:=by kernel_rfl
theorem fact_named:(Rows.placedRow.named == Tryz.pinned.checked.prog.varsNamed 8)=true:=by kernel_rfl
theorem fact_out:laidOutB Tryz.pinned.checked.prog=true:=by kernel_rfl
theorem fact_maps:mapsRowed Tryz.pinned.checked.prog=true:=by kernel_rfl
theorem facts:joinedFacts Tryz.pinned.checked.prog 8 Tryz.f8 (OpenSpec.ofChange Rows.placedSpec).bare Rows.placedRow=true:=by
 unfold joinedFacts
 rw [fact_place,fact_unf,fact_rec,fact_named,fact_out,fact_maps]
 kernel_rfl
end Go.Proofs.YtcbadebjpogmlaaGreatDoor
namespace Go.Proofs.YtcbadebjpogmlaaGreatDoor
open Go.ChangeShapes Go.WideShapes Go.ChangeAt Go.RowKit
theorem wit_all (os:Os) {H:Type} (enc:TypeId×Value→H):∃(w:World) (tape:Tape) (i:Input),w.os=os∧(w.forCall tape i).Shaped Tryz.checked.prog∧i.vars=[]∧Input.okWide Tryz.checked.prog (w.forCall tape i) .any w.heap.size 8 i ∧
 (OpenSpec.ofChange Rows.placedSpec).preRow enc Tryz.checked.prog Tryz.f8 Rows.placedRow.domain false Rows.placedRow.laid (w.forCall tape i).memory i.args∧({ modest:=false }:Assume).holds Tryz.checked.prog (lone (Frame.enter Tryz.checked.prog 8 i.args .normal) [] (w.forCall tape i)) :=
 (witness_row_atRef (enc:=enc) (C:=Tryz.checked) false (layIn (World.settled Tryz.prog os).heap.size (World.holding Tryz.prog os errsH)) #[.slice none 0 0,.slice none 0 0] rfl (wit_v os) (wit_r os) (wit_ok os) (witness_row os enc))
set_option maxRecDepth 100000 in
theorem lifted (os:Os) (started:os.Started) (H:Type) (enc:TypeId×Value→H) (F:Stop.Interp) :
 ReturnsInHanded {} Tryz.checked os 8 .any ((OpenSpec.ofChange Rows.placedSpec).preRow enc Tryz.prog Tryz.f8 Rows.placedRow.domain false Rows.placedRow.laid)
  (((OpenSpec.ofChange Rows.placedSpec).at F).post enc Tryz.prog Tryz.f8 false true false false) :=
 returnsInHanded_of_row (a:={}) (C:=Tryz.checked) (os:=os) (f:=8) (fn:=Tryz.f8) (s:=OpenSpec.ofChange Rows.placedSpec) (F:=F) (conds:=Rows.placedRow.domain) (apart:=false) (fresh:=true) (handsOn:=false) (again:=false) (laid:=Rows.placedRow.laid) own started no_init Tryz.func8 (wit_all os enc)
  (fun W base args ds gs before hval hW _ _ _ hL hsh _=>placed_contract enc W base args ds gs before (en_of hL hsh) hval hW)
theorem said:Rows.PlacedSaid :=
 OpenClaim.holds_of_cond 8 Tryz.f8 rfl rfl rfl rfl rfl rfl rfl ⟨rfl,rfl,rfl,rfl,rfl⟩ rfl rfl rfl rfl rfl (by kernel_rfl) Tryz.func8 facts
  (of_decide_eq_true (by kernel_rfl)) (by unfold Func.isWrapper; first | (rw [if_pos (by decide +kernel)]; kernel_rfl) | (rw [if_neg (by decide +kernel)]; exact ⟨rfl,rfl⟩))
  (fun os started H enc _ F=>by rw [OpenClaim.pre_eq_preRow]; exact lifted os started H enc F)
theorem plain (f:FuncId) (fn:Func) (hf:Tryz.pinned.checked.prog.funcNamed "trail/trailkeep.Placed"=some f) (hfn:Tryz.pinned.checked.prog.funcs[f]?=some fn) :
 Rows.placedCard.stood.looks=Tryz.pinned.checked.prog.looks []∧∀(j:Nat) t,fn.params[j]?=some t→Tryz.pinned.checked.prog.wantsStandIn t=false:=by
 obtain rfl:f=8:=Option.some.inj ((show Tryz.prog.funcNamed "trail/trailkeep.Placed"=some 8 by kernel_rfl).symm.trans hf) |>.symm
 obtain rfl:fn=Tryz.f8:=(Option.some.inj (Tryz.func8.symm.trans hfn)).symm
 refine ⟨by kernel_rfl,fun j t ht=>?_⟩
 rw [Tryz.params8] at ht
 have hm:=Array.mem_of_getElem? ht
 simp only [List.mem_toArray,List.mem_cons,List.not_mem_nil,or_false] at hm
 rcases hm with rfl | rfl
 ·exact (show Tryz.prog.wantsStandIn 24=false by kernel_rfl)
 exact (show Tryz.prog.wantsStandIn 24=false by kernel_rfl)
theorem placed_holds:Rows.PlacedCardSaid :=
 Claim7.holds_tied_plain_at .later [] _ _ _ _ said (fun _ h=>by cases h) (by kernel_rfl) (fun _ h=>by cases h) placed_row_tie rfl ⟨rfl,rfl⟩ (by kernel_rfl) rfl plain (by kernel_rfl)
end Go.Proofs.YtcbadebjpogmlaaGreatDoor
