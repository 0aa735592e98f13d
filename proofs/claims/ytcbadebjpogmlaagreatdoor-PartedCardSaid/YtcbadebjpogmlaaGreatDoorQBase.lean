import Derived.WalkKit
import Derived.WalkSpells
import Derived.WalkLawsBesides
import Derived.Deep.QuietTactic
import Derived.BigQuiet
import Derived.Test.YtcbadebjpogmlaaGreatDoorPPlain
import Derived.Test.YtcbadebjpogmlaaGreatDoorPBase
import Derived.Test.YtcbadebjpogmlaaGreatDoorPPlain7
import Derived.Test.YtcbadebjpogmlaaGreatDoorPCu
import Derived.Test.YtcbadebjpogmlaaGreatDoorCards
import Derived.ProofKit
import Derived.OpenShut
import Derived.Lib.LaidTab
import Derived.Stop.LaidErr
import Derived.Shaped
import Derived.ChangeStays
import Derived.Deep.Onto
import Derived.ChangeMaps5
import Derived.Test.YtcbadebjpogmlaaGreatDoorPCy
import Derived.Test.YtcbadebjpogmlaaGreatDoorPCm
import Derived.ChangeSlices
import Derived.Test.YtcbadebjpogmlaaGreatDoorPDe
import Derived.Test.YtcbadebjpogmlaaGreatDoorPCt
import Derived.Test.YtcbadebjpogmlaaGreatDoorPFb
import Derived.Test.YtcbadebjpogmlaaGreatDoorPAf
import Derived.Test.YtcbadebjpogmlaaGreatDoorPPk
import Derived.Test.YtcbadebjpogmlaaGreatDoorPPh
namespace Go.Proofs.YtcbadebjpogmlaaGreatDoor
open Go.RowKit Tr
def HasM (w:World) (b:Nat) (s:ByteArray) (t:St):Prop :=
 w.heap[b]?=some (.cells #[.string s,.int .i64 t.p,.int .i64 t.e,.int .i64 t.n] 145)
end Go.Proofs.YtcbadebjpogmlaaGreatDoor
namespace Go.Proofs.YtcbadebjpogmlaaGreatDoor
open Go.RowKit Tr
structure Rd (b:Nat) (s:ByteArray) (w:World) (t':St) (w':World):Prop where
 m:HasM w' b s t'
 f:Fr (PB b) w w'
end Go.Proofs.YtcbadebjpogmlaaGreatDoor
namespace Go.Proofs.YtcbadebjpogmlaaGreatDoor
open Go.RowKit Tr
def PartO (b:Nat) (s:ByteArray) (q c:Nat) (o:List UInt8) (n:Nat) (w:World) (r:Ending) (w':World):Prop :=
 ∃g t',r=.returned (.pointer (some ⟨g,0,none⟩))∧Rd b s w t' w'∧Ok (bs s) q c 18 o n t'∧(t'.e=0→bt (bs s) t'.p≠38∧bt (bs s) t'.p≠124)
def SO (m:Nat):Prop:=∀(w:World) (b:Nat) (s:ByteArray) (t:St) (q c n:Nat) (o:List UInt8),HasM w b s t→s.size≤120→Ok (bs s) q c 10 o n t→o.length=n→n≤6→trimR o=o→s.size - t.p≤m →
 Calls Tryz.prog 119 #[.pointer (some ⟨b,0,none⟩)] w (PartO b s q c o n w)
end Go.Proofs.YtcbadebjpogmlaaGreatDoor
namespace Tr
theorem pC_zero (s:List UInt8) (m a:Nat) (φ:Tv→Bool):pC s 0 m a φ=⟨φ,a⟩:=by simp [pC]
end Tr
namespace Go.Proofs.YtcbadebjpogmlaaGreatDoor
open Go.ChangeShapes Go.WideShapes Go.ChangeAt Go.RowKit Go.ChangeMaps
theorem kSyntax:Tryz.prog.globalNamed "strconv.ErrSyntax"=some 6:=by kernel_rfl
theorem kSyntaxT:(Tryz.prog.globals[6]?).map (·.type)=some 180:=by kernel_rfl
theorem kErr:Tryz.prog.cellsOf 336=1:=by kernel_rfl
theorem kStr:Tryz.prog.cellsOf 9=1:=by kernel_rfl
theorem kStar: "*"++ "errors.errorString"= "*errors.errorString":=by decide
theorem kRow (u:TypeId) (h:Tryz.prog.typeName? 3 u=some "*errors.errorString"):u=334 :=
 typeName_ptr_named (nm:= "errors.errorString") (by rw [kStar]; kernel_rfl) (by kernel_rfl) (by decide) u (by rw [kStar]; exact h)
theorem kPowT:(Tryz.prog.globals[0]?).map (·.type)=some 277:=by kernel_rfl
theorem kPowC:Tryz.prog.cellsOf 277=20:=by kernel_rfl
theorem kU64C:Tryz.prog.cellsOf 258=1:=by kernel_rfl
theorem kPow:(Rows.laid_internal_strconv_uint64pow10:DataW Unit)=Lib.tabData .u64 Lib.pow10Tab:=by kernel_rfl
def lst:List (String×DataW Unit):=[("math/bits.deBruijn32tab",Rows.laid_math_bits_deBruijn32tab),("math/bits.deBruijn64tab",Rows.laid_math_bits_deBruijn64tab),("internal/strconv.uint64pow10",Rows.laid_internal_strconv_uint64pow10),("unicode/utf8.acceptRanges",Rows.laid_unicode_utf8_acceptRanges),("strconv.ErrRange",Rows.laid_strconv_ErrRange),("strconv.ErrSyntax",Rows.laid_strconv_ErrSyntax),("unicode/utf8.first",Rows.laid_unicode_utf8_first)]
theorem shMax:(((begin Tryz.prog (fun _ _=>0) default).world.heap[1]?).bind Obj.row?)=some (#[.int .i64 0],3):=by kernel_rfl
theorem shPow:((((begin Tryz.prog (fun _ _=>0) default).world.heap[0]?).bind Obj.row?).map (·.2))=some 277:=by kernel_rfl
theorem bdInt:Tryz.prog.buildable 3=true:=by kernel_rfl
theorem ctInt:Tryz.prog.cellTypes Tryz.prog.depth 3=some [3]:=by kernel_rfl
set_option maxRecDepth 100000 in
theorem en_of {W:World} (h:laidMetH Tryz.prog lst W) (hs:W.ShapedOpen Tryz.prog):EN W:=by
 have h2:laidMet Tryz.prog lst W:=h
 have hlt:∀{g:Nat} {v:Value},W.cell? ⟨g,0,none⟩=some v→g<W.heap.size:=fun {g v} hc=>World.block_lt_of_cell? W ⟨g,0,none⟩ hc
 obtain ⟨a,s,hv,_,_,_⟩:=laid_sentinel h2.tail.tail.tail.tail.tail kSyntax kSyntaxT Tryz.underlying180 kRow Tryz.underlying334 Tryz.underlying336 rfl rfl Tryz.underlying9 kErr kStr
 have hc:W.cell? ⟨6,0,none⟩=some (.iface 334 (.pointer (some a))):=by simpa using World.var?_cell kSyntax hv 0
 have h3:=h2.tail.tail
 rw [kPow] at h3
 have hT:=Lib.tabIs_of_head gPow kPowT Tryz.underlying277 Tryz.underlying258 kU64C kPowC h3
 obtain ⟨cs,hm,hz,hok⟩:=hs.1 1 _ _ (by decide +kernel) shMax
 obtain ⟨ts,t1,t2,t3⟩:=hok bdInt
 rw [ctInt] at t1
 obtain rfl:=Option.some.inj t1
 have hz1:cs.size=1:=hz
 obtain ⟨v,hv0⟩:∃v,cs[0]?=some v:=⟨cs[0],by simp [hz1]⟩
 obtain ⟨u,hu,hcell⟩:=t3 0 v hv0
 have hu:u=3:=by simpa using hu.symm
 subst hu
 unfold Cell.ok at hcell
 rw [Tryz.underlying3] at hcell
 have hmc:W.cell? ⟨1,0,none⟩=some v:=by
  have:Blk W 1 cs 3:=hm
  rw [this.cell 0]; exact hv0
 have hpl:0<W.heap.size:=by
  obtain ⟨y,hy,hy2⟩:=Option.map_eq_some_iff.1 shPow
  obtain ⟨cs2,hm2,_⟩:=hs.1 0 y.1 y.2 (by decide +kernel) hy
  exact lt_of_some hm2
 refine ⟨⟨⟨_,hc,Or.inr ⟨_,_,rfl⟩⟩,hlt hc⟩,hT,hpl,?_,hlt hmc⟩
 cases v with
 | int k m =>
  obtain ⟨rfl,_⟩:=hcell
  exact ⟨m,hmc⟩
 | _=>exact hcell.elim
section
variable {H:Type} {enc:TypeId×Value→H} {P:Program}
theorem post_keeps {f:Func} {s:ChangeSpec} {apart fresh handsOn again:Bool} {W W':World} {args:Array Value} {v:Value} {ds gs:List (DataW H)} {before pa pv:List MemPlace}
 (hW:DataW.Whole enc P f.params.toList s.vars apart W args.toList ds gs before)
 (hres:∀(b:Nat) (sp:Nat→Bool) (hd:Bool),DataW.TrodAll enc P W' b sp hd f.resultTypes.toList (v.resultList f.resultTypes.size) (s.fn H (ds++gs)).results [])
 (hargs:∀sp:Nat→Bool,(∀p ∈ before,sp p.block=true)→DataW.TrodAll enc P W' 0 sp true f.params.toList args.toList (s.fn H (ds++gs)).args pa)
 (hvars:∀sp:Nat→Bool,(∀p ∈ before,sp p.block=true)→DataW.TrodVars enc P W' sp s.vars (s.fn H (ds++gs)).vars pv)
 (hps:before=pa++pv) (hk:Keeps W W')
 (hok:∀(j:Nat) (t:TypeId) (r:Value),f.resultTypes[j]?=some t→(v.resultList f.resultTypes.size)[j]?=some r→Value.okWide P W' .any 0 t r) :
 s.post enc P f apart fresh handsOn again W args v W':=by
 have hlt:=hW.lt
 have hb:W.keptBut W' (· ∈ before):=(World.keptBut_refl W _).congr hk.os hk.output (fun i hi=>hk.block i hi id)
 refine ⟨ds,gs,before,[],pa,pv,hW,hres _ _ _,hargs _ (fun p hp=>by simpa using hlt p hp),hvars _ (fun p hp=>by simpa using hlt p hp),
  World.keptBut_mono (fun p hp=>⟨hp,Or.inr (List.mem_append.1 (hps▸hp))⟩) hb,fun _=>?_⟩
 obtain ⟨_,_,_,_,_,hz,hn⟩:=hW
 refine ⟨hok,_,_,([]++pa)++pv,⟨[]++pa,pv,trodAll_append (hargs _ (fun _ _=>rfl)) (hres _ _ _),hvars _ (fun _ _=>rfl),rfl,fun b off hp=>?_,fun ha=>?_⟩,fun p hp _=>?_⟩
 ·have hm:MemPlace.cell b off ∈ before:=by rw [hps]; simpa using hp
  rw [hk.frozen (p:=⟨b,off,none⟩) (hlt _ hm) id]
  exact hz b off hm
 ·have:=hn ha
  rw [hps] at this
  simpa using this
 rw [hps]; simpa using hp
end
end Go.Proofs.YtcbadebjpogmlaaGreatDoor
namespace Go.Proofs.YtcbadebjpogmlaaGreatDoor
open Go.ChangeShapes Go.WideShapes Go.ChangeAt Go.RowKit Go.ChangeMaps
theorem cellsInt:Tryz.prog.cellsOf 3=1:=by kernel_rfl
def IT (t:TypeId):Prop:=t=24∨t=3
theorem itKids:Kids Tryz.prog IT:=by
  have u0:=Tryz.underlying24
  have u2:=Tryz.underlying3
  refine ⟨?_,?_,?_,?_,?_⟩
  · rintro t e (rfl | rfl) h
    · rw [u0] at h; cases h
    rw [u2] at h; cases h
  · rintro t e (rfl | rfl) h
    · rw [u0] at h; cases h; exact Or.inr rfl
    rw [u2] at h; cases h
  · rintro t e n (rfl | rfl) h
    · rw [u0] at h; cases h
    rw [u2] at h; cases h
  · rintro t fs (rfl | rfl) h
    · rw [u0] at h; cases h
    rw [u2] at h; cases h
  rintro t k e (rfl | rfl) h
  · rw [u0] at h; cases h
  rw [u2] at h; cases h
theorem itPos {t e:TypeId} (h:IT t) (hu:Tryz.prog.underlying t=some (.slice e)):0<Tryz.prog.cellsOf e:=by
  rcases itKids.slice h hu with rfl | rfl
  · rw [show Tryz.prog.cellsOf 24=1 by kernel_rfl]; decide
  rw [cellsInt]; decide
theorem slice_shape {P:Program} {w:World} {base:Nat} {t e:TypeId} {v:Value} (ht:P.underlying t=some (.slice e)) (h:Value.okWide P w .any base t v) :
    v=.slice none 0 0∨∃a len cap,v=.slice (some a) len cap∧a.block<w.heap.size:=by
  simp only [Value.okWide,Cell.okWide,Cell.ok,ht] at h
  split at h
  all_goals first
    | (rename_i heq; cases heq; done)
    | exact Or.inl rfl
    | (obtain ⟨_,_,_,_,_,_,hs,_⟩:=h
       refine Or.inr ⟨_,_,_,rfl,?_⟩
       unfold World.shape? at hs
       split at hs
       · rename_i hh; exact lt_of_some hh
       cases hs)
    | exact absurd h id
theorem wf_range {n:Int} (h:(Lit.int .i64 n).wf=true):i64R n:=by
  have e1:IntKind.i64.min=-9223372036854775808:=by decide
  have e2:IntKind.i64.max=9223372036854775807:=by decide
  simp only [Lit.wf,Bool.and_eq_true,decide_eq_true_eq,e1,e2] at h
  unfold i64R
  omega
section
variable {H:Type} {enc:TypeId×Value→H} {W:World}
set_option maxRecDepth 100000 in
theorem ints_open {base:Nat} {v:Value} {d:DataW H} {pl:List MemPlace} (hok:Value.okWide Tryz.prog W .any base 24 v) (h:DataW.Trod enc Tryz.prog W 0 (fun _=>true) true 24 v d pl):IntsAt W v:=by
  obtain ⟨fuel,h⟩:=h
  rcases slice_shape Tryz.underlying24 hok with rfl | ⟨a,len,cap,rfl,hb⟩
  · exact ⟨none,0,0,rfl,by omega,fun y=>absurd y (by omega)⟩
  rcases open_ints Tryz.underlying24 Tryz.underlying3 cellsInt h with ⟨e,_⟩ | ⟨a',len',cap',zs,e,_,hl,hm,hz,_,hc,hw⟩
  · simp [Value.cells] at e
  simp only [Value.cells,List.cons.injEq,Value.slice.injEq,Option.some.injEq,and_true] at e
  obtain ⟨rfl,rfl,rfl⟩:=e
  simp only [if_true] at hz
  refine ⟨some a,len,cap,rfl,by unfold maxLen at hm; omega,fun _=>⟨a,rfl,fun i hi=>⟨_,hc i (by omega),wf_range (hw _ ?_)⟩⟩⟩
  have hlt:i<zs.length:=by omega
  rw [List.getD_eq_getElem?_getD,List.getElem?_eq_getElem hlt]
  exact List.getElem_mem hlt
set_option maxRecDepth 100000 in
theorem ints_stay {W':World} {sp:Nat→Bool} {v:Value} {d:DataW H} {pl:List MemPlace} (h:DataW.Trod enc Tryz.prog W 0 (fun _=>true) true 24 v d pl) (hlt:∀p ∈ pl,p.block<W.heap.size) (hk:Keeps W W') (hsp:∀p ∈ pl,sp p.block=true):DataW.Trod enc Tryz.prog W' 0 sp true 24 v d pl:=by
  obtain ⟨fuel,ht⟩:=h
  exact ⟨fuel,DataW.trod_stays (w':=W') (sp':=sp) itKids itPos (fun hh=>by cases hh) (Or.inl rfl) ht (fun p hp=>by
    have hb:=hlt p hp
    cases p with
    | cell b off=>exact hk.cell (p:=⟨b,off,none⟩) hb id
    | map b=>exact hk.block b hb id) (fun p hp=>hsp p hp)⟩
end
section
variable {H:Type}
end
end Go.Proofs.YtcbadebjpogmlaaGreatDoor
namespace Go.Proofs.YtcbadebjpogmlaaGreatDoor
open Go.RowKit Tr
theorem ndEq_ne {n m:Nd} (h:n.2.1≠m.2.1):ndEq n m=false:=by simp [ndEq,h]
end Go.Proofs.YtcbadebjpogmlaaGreatDoor
namespace Go.Proofs.YtcbadebjpogmlaaGreatDoor
open Go.RowKit Tr Go.Conc
theorem cntF_at {t:Tv} (h:Tree t) {N:List Tv} (hN:∀u ∈ N,u ∈ allT 10 t) {v:Tv} (hv:v ∈ allT 10 t):∀j,j≤N.length→cntF (nG N) (ndOf v) j=(N.take j).countP (fun u=>fr u == fr v)
 | 0,_=>by simp [cntF]
 | j+1,hj=>by
  have e:N.take (j+1)=N.take j++[N[j]]:=List.take_succ_eq_append_getElem (by omega)
  rw [cntF,cntF_at h hN hv j (by omega),nG_at (by omega),e,List.countP_append]
  congr 1
  by_cases hf:fr N[j]=fr v
  ·have:N[j]=v:=asc_inj h.a (hN _ (List.getElem_mem (by omega))) hv hf
   rw [this,ndEq_refl]
   simp
  have:ndEq (ndOf N[j]) (ndOf v)=false:=ndEq_ne (by unfold ndOf; simp only; unfold fr at hf; omega)
  rw [this]
  simp [hf]
end Go.Proofs.YtcbadebjpogmlaaGreatDoor
namespace Tr
theorem takS_5 {x:Sel} (h:x.sort=5) (v:Tv):takS x v=v.ws.filter x.wh:=by
 unfold takS
 have e:(fun p:Tv×Nat=>takes1 x v.d.kind v.ws.length p.2 p.1)=fun p=>x.wh p.1:=by funext p; simp [takes1,h]
 rw [e,zip_filter]
end Tr
namespace Tr
structure Ins where
 k:Nat
 l:List StA
 c:Kt
def iNot:Ins:=⟨5,[],⟨0,0,[]⟩⟩
def iAnd:Ins:=⟨6,[],⟨0,0,[]⟩⟩
def iOr:Ins:=⟨7,[],⟨0,0,[]⟩⟩
def iNo:Ins:=⟨8,[],⟨0,0,[]⟩⟩
def tstI (i:Ins) (t:Tv):Bool :=
 if i.k=1 then sameT i.c (leadT t i.l) else if i.k=2 then !(sameT i.c (leadT t i.l)) else if i.k=3 then sameT i.c (leadT t i.l) || lessT i.c (leadT t i.l)
 else if i.k=4 then lessT i.c (leadT t i.l) else (leadT t i.l).isSome
def notL (st:List Bool):List Bool:=match st with
 | a::r=>(!a)::r
 | []=>[]
def andL (st:List Bool):List Bool:=match st with
 | b::a::r=>(a && b)::r
 | _=>[]
def orL (st:List Bool):List Bool:=match st with
 | b::a::r=>(a || b)::r
 | _=>[]
def stepI (t:Tv) (i:Ins) (st:List Bool):List Bool :=
 if i.k=5 then notL st else if i.k=6 then andL st else if i.k=7 then orL st else if i.k=8 then false::st else tstI i t::st
def runI (t:Tv):List Ins→List Bool→List Bool
 | [],st=>st
 | i::r,st=>runI t r (stepI t i st)
theorem runI_app (t:Tv):∀(a b:List Ins) (st:List Bool),runI t (a++b) st=runI t b (runI t a st)
 | [],_,_=>rfl
 | i::a,b,st=>runI_app t a b (stepI t i st)
def Den (c:List Ins) (φ:Tv→Bool):Prop:=∀t st,runI t c st=φ t::st
theorem Den.not {c:List Ins} {φ:Tv→Bool} (h:Den c φ):Den (c++[iNot]) (fun t=>!(φ t)):=fun t st=>by rw [runI_app,h t st]; rfl
theorem Den.and {c d:List Ins} {φ ψ:Tv→Bool} (h:Den c φ) (k:Den d ψ):Den (c++d++[iAnd]) (fun t=>φ t && ψ t):=fun t st=>by rw [runI_app,runI_app,h t st,k t]; rfl
theorem Den.or {c d:List Ins} {φ ψ:Tv→Bool} (h:Den c φ) (k:Den d ψ):Den (c++d++[iOr]) (fun t=>φ t || ψ t):=fun t st=>by rw [runI_app,runI_app,h t st,k t]; rfl
theorem Den.no:Den [iNo] (fun _=>false):=fun _ _=>rfl
theorem Den.tst (k:Nat) (hk:k≤4) (l:List StA) (c:Kt):Den [⟨k,l,c⟩] (tstI ⟨k,l,c⟩):=fun t st=>by
 show runI t [] (stepI t ⟨k,l,c⟩ st)=_
 unfold stepI
 rw [if_neg (by simp only; omega),if_neg (by simp only; omega),if_neg (by simp only; omega),if_neg (by simp only; omega)]
 rfl
theorem Den.uniq {c:List Ins} {φ ψ:Tv→Bool} (h:Den c φ) (k:Den c ψ):φ=ψ:=by
 funext t
 have:=(h t []).symm.trans (k t [])
 exact (List.cons.inj this).1
def rOp (s:List UInt8) (l:List StA) (a:Nat):PS (List Ins) :=
 if bt s a=61 then ⟨[⟨1,l,(pConst s (a+2)).v⟩],(pConst s (a+2)).p⟩
 else if bt s a=33 then ⟨[⟨2,l,(pConst s (a+2)).v⟩],(pConst s (a+2)).p⟩
 else if bt s a=60 then
  (if bt s (a+1)=61 then ⟨[⟨3,l,(pConst s (a+2)).v⟩],(pConst s (a+2)).p⟩
  else ⟨[⟨4,l,(pConst s (a+1)).v⟩],(pConst s (a+1)).p⟩)
 else ⟨[⟨0,l,⟨0,0,[]⟩⟩],a⟩
def rTest (s:List UInt8) (a:Nat):PS (List Ins):=match pSteps s (s.length+1) (a+1) [] with
 | ⟨l,p⟩=>rOp s l p
def rC (s:List UInt8):Nat→Nat→Nat→List Ins→PS (List Ins)
 | 0,_,a,c=>⟨c,a⟩
 | n+1,0,a,c =>
  if bt s a=33 then (match rC s n 0 (a+1) c with
   | ⟨v,p⟩=>⟨v++[iNot],p⟩)
  else if bt s a=40 then (match rC s n 2 (a+1) c with
   | ⟨v,p⟩=>⟨v,p+1⟩)
  else rTest s a
 | n+1,1,a,c=>(match rC s n 0 a c with
  | ⟨v,p⟩=>rC s n 3 p v)
 | n+1,2,a,c=>(match rC s n 1 a c with
  | ⟨v,p⟩=>rC s n 4 p v)
 | n+1,3,a,c=>if bt s a=38 then (match rC s n 0 (a+2) c with
  | ⟨v,p⟩=>rC s n 3 p (c++v++[iAnd])) else ⟨c,a⟩
 | n+1,_+4,a,c=>if bt s a=124 then (match rC s n 1 (a+2) c with
  | ⟨v,p⟩=>rC s n 4 p (c++v++[iOr])) else ⟨c,a⟩
theorem rOp_den (s:List UInt8) (l:List StA) (a:Nat):Den (rOp s l a).v (pOp s l a).v∧(rOp s l a).p=(pOp s l a).p:=by
 unfold rOp pOp
 repeat' split
 ·exact ⟨Den.tst 1 (by omega) _ _,rfl⟩
 ·exact ⟨Den.tst 2 (by omega) _ _,rfl⟩
 ·exact ⟨Den.tst 3 (by omega) _ _,rfl⟩
 ·exact ⟨Den.tst 4 (by omega) _ _,rfl⟩
 exact ⟨Den.tst 0 (by omega) _ _,rfl⟩
theorem rC_den (s:List UInt8):∀(n m a:Nat) (c:List Ins) (φ:Tv→Bool),Den c φ→Den (rC s n m a c).v (pC s n m a φ).v∧(rC s n m a c).p=(pC s n m a φ).p
 | 0,m,a,c,φ,h=>by
  have e:rC s 0 m a c=⟨c,a⟩:=by simp [rC]
  rw [e,pC_zero]; exact ⟨h,rfl⟩
 | n+1,0,a,c,φ,h=>by
  rw [rC,pC]
  split
  ·have I:=rC_den s n 0 (a+1) c φ h
   exact ⟨I.1.not,I.2⟩
  split
  ·have I:=rC_den s n 2 (a+1) c φ h
   exact ⟨I.1,congrArg (·+1) I.2⟩
  exact rOp_den s _ _
 | n+1,1,a,c,φ,h=>by
  have I:=rC_den s n 0 a c φ h
  rw [rC,pC,← I.2]
  exact rC_den s n 3 _ _ _ I.1
 | n+1,2,a,c,φ,h=>by
  have I:=rC_den s n 1 a c φ h
  rw [rC,pC,← I.2]
  exact rC_den s n 4 _ _ _ I.1
 | n+1,3,a,c,φ,h=>by
  rw [rC,pC]
  split
  ·have I:=rC_den s n 0 (a+2) c φ h
   rw [← I.2]
   exact rC_den s n 3 _ _ _ (h.and I.1)
  exact ⟨h,rfl⟩
 | n+1,m+4,a,c,φ,h=>by
  rw [rC,pC]
  split
  ·have I:=rC_den s n 1 (a+2) c φ h
   rw [← I.2]
   exact rC_den s n 4 _ _ _ (h.or I.1)
  exact ⟨h,rfl⟩
def cnd (s:List UInt8) (a:Nat):PS (Tv→Bool):=pC s (4 * s.length+9) 2 a (fun _=>false)
def cndR (s:List UInt8) (a:Nat):PS (List Ins):=rC s (4 * s.length+9) 2 a [iNo]
theorem cnd_den (s:List UInt8) (a:Nat):Den (cndR s a).v (cnd s a).v∧(cndR s a).p=(cnd s a).p:=rC_den s _ 2 a [iNo] _ Den.no
def whS (φ:Tv→Bool):Sel:=⟨5,[],0,0,0,φ⟩
theorem sel_wh {s:List UInt8} {a:Nat} (h:bt s a=63):pSel s a=⟨whS (cnd s (a+1)).v,(cnd s (a+1)).p⟩:=by
 unfold pSel
 rw [if_neg (by omega),if_neg (by omega),if_neg (by omega),if_pos h]
 rfl
theorem segs_end {s:List UInt8} {a:Nat} (h:¬a<s.length) (l:List Sg):∀n,pSegs s n a l=l
 | 0=>rfl
 | n+1=>by rw [pSegs,if_neg h]
theorem one_wh {s:List UInt8} (h1:bt s 1=91) (h2:bt s 2=63) (hl:1<s.length) (h3:bt s (cnd s 3).p≠44) (h4:s.length≤(cnd s 3).p+1):pQuery s=[⟨false,[whS (cnd s 3).v]⟩]:=by
 have e1:pSels s (s.length+1) 2 []=⟨[whS (cnd s 3).v],(cnd s 3).p⟩:=by
  rw [pSels,sel_wh h2,if_neg h3]; rfl
 have e2:pSeg s 1=⟨⟨false,[whS (cnd s 3).v]⟩,(cnd s 3).p+1⟩:=by
  unfold pSeg
  rw [if_pos h1]
  unfold pBr
  rw [e1]
 unfold pQuery
 rw [pSegs,if_pos hl,e2]
 exact segs_end (by simp only; omega) _ _
theorem two_wh {s:List UInt8} (h1:bt s 1=91) (h2:bt s 2=63) (hl:1<s.length) (h3:bt s (cnd s 3).p=44) (h4:bt s ((cnd s 3).p+1)=63) (h5:bt s (cnd s ((cnd s 3).p+2)).p≠44) (h6:s.length≤(cnd s ((cnd s 3).p+2)).p+1):pQuery s=[⟨false,[whS (cnd s 3).v,whS (cnd s ((cnd s 3).p+2)).v]⟩]:=by
 obtain ⟨m,hm⟩:∃m,s.length=m+1:=⟨s.length - 1,by omega⟩
 have e0:pSels s (m+1) ((cnd s 3).p+1) ([]++[whS (cnd s 3).v])=⟨[whS (cnd s 3).v,whS (cnd s ((cnd s 3).p+2)).v],(cnd s ((cnd s 3).p+2)).p⟩:=by
  rw [pSels,sel_wh h4,if_neg h5]; rfl
 have e1:pSels s (s.length+1) 2 []=⟨[whS (cnd s 3).v,whS (cnd s ((cnd s 3).p+2)).v],(cnd s ((cnd s 3).p+2)).p⟩:=by
  rw [pSels,sel_wh h2,if_pos h3,hm]; exact e0
 have e2:pSeg s 1=⟨⟨false,[whS (cnd s 3).v,whS (cnd s ((cnd s 3).p+2)).v]⟩,(cnd s ((cnd s 3).p+2)).p+1⟩:=by
  unfold pSeg
  rw [if_pos h1]
  unfold pBr
  rw [e1]
 unfold pQuery
 rw [pSegs,if_pos hl,e2]
 exact segs_end (by simp only; omega) _ _
def stB (a b:StA):Bool:=a.word == b.word && a.name == b.name && a.n == b.n
def ktB (a b:Kt):Bool:=a.k == b.k && a.n == b.n && a.t == b.t
def lsB {α:Type} (f:α→α→Bool):List α→List α→Bool
 | [],[]=>true
 | a::x,b::y=>f a b && lsB f x y
 | _,_=>false
theorem lsB_eq {α:Type} {f:α→α→Bool} (hf:∀a b,f a b=true→a=b):∀(x y:List α),lsB f x y=true→x=y
 | [],[],_=>rfl
 | a::x,b::y,h=>by
  simp only [lsB,Bool.and_eq_true] at h
  rw [hf a b h.1,lsB_eq hf x y h.2]
 | [],_::_,h=>by cases h
 | _::_,[],h=>by cases h
def insB (a b:Ins):Bool:=a.k == b.k && lsB stB a.l b.l && ktB a.c b.c
theorem insB_eq (a b:Ins) (h:insB a b=true):a=b:=by
 obtain ⟨k,l,c⟩:=a
 obtain ⟨k',l',c'⟩:=b
 simp only [insB,Bool.and_eq_true,beq_iff_eq] at h
 obtain ⟨⟨rfl,h2⟩,h3⟩:=h
 have e2:l=l':=lsB_eq (fun a b h=>by
  obtain ⟨a1,a2,a3⟩:=a
  obtain ⟨b1,b2,b3⟩:=b
  simp only [stB,Bool.and_eq_true,beq_iff_eq] at h
  obtain ⟨⟨rfl,rfl⟩,rfl⟩:=h
  rfl) l l' h2
 have e3:c=c':=by
  obtain ⟨a1,a2,a3⟩:=c
  obtain ⟨b1,b2,b3⟩:=c'
  simp only [ktB,Bool.and_eq_true,beq_iff_eq] at h3
  obtain ⟨⟨rfl,rfl⟩,rfl⟩:=h3
  rfl
 rw [e2,e3]
def qX (c:Nat):List UInt8:=[36,91,63]++qConds.getD c []++[93]
def qY (c:Nat):List UInt8:=[36,91,63,33,40]++qConds.getD c []++[41,93]
def qB (c d:Nat):List UInt8:=[36,91,63]++qConds.getD c []++[44,63]++qConds.getD d []++[93]
def okW (s:List UInt8) (code:List Ins):Bool:=(match cndR s 3 with
 | ⟨v,p⟩=>lsB insB v code && bt s 1 == 91 && bt s 2 == 63 && decide (1<s.length) && !(bt s p == 44) && decide (s.length≤p+1))
theorem okW_eq {s:List UInt8} {code:List Ins} (h:okW s code=true):∃φ,Den code φ∧pQuery s=[⟨false,[whS φ]⟩]:=by
 obtain ⟨k1,k2⟩:=cnd_den s 3
 unfold okW at h
 rw [show cndR s 3=⟨(cndR s 3).v,(cndR s 3).p⟩ from rfl] at h
 simp only [Bool.and_eq_true,beq_iff_eq,decide_eq_true_eq,Bool.not_eq_true',beq_eq_false_iff_ne,k2] at h
 obtain ⟨⟨⟨⟨⟨h1,h2⟩,h3⟩,h4⟩,h5⟩,h6⟩:=h
 rw [lsB_eq insB_eq _ _ h1] at k1
 exact ⟨_,k1,one_wh h2 h3 h4 h5 h6⟩
def okW2 (s:List UInt8) (c1 c2:List Ins):Bool:=(match cndR s 3 with
 | ⟨v,p⟩=>lsB insB v c1 && bt s 1 == 91 && bt s 2 == 63 && decide (1<s.length) && bt s p == 44 && bt s (p+1) == 63 && (match cndR s (p+2) with
  | ⟨v2,p2⟩=>lsB insB v2 c2 && !(bt s p2 == 44) && decide (s.length≤p2+1)))
theorem okW2_eq {s:List UInt8} {c1 c2:List Ins} (h:okW2 s c1 c2=true):∃φ ψ,Den c1 φ∧Den c2 ψ∧pQuery s=[⟨false,[whS φ,whS ψ]⟩]:=by
 obtain ⟨k1,k2⟩:=cnd_den s 3
 obtain ⟨j1,j2⟩:=cnd_den s ((cnd s 3).p+2)
 unfold okW2 at h
 rw [show cndR s 3=⟨(cndR s 3).v,(cndR s 3).p⟩ from rfl] at h
 simp only [Bool.and_eq_true,beq_iff_eq,decide_eq_true_eq,Bool.not_eq_true',beq_eq_false_iff_ne,k2,j2] at h
 obtain ⟨⟨⟨⟨⟨⟨h1,h2⟩,h3⟩,h4⟩,h5⟩,h6⟩,⟨h7,h8⟩,h9⟩:=h
 rw [lsB_eq insB_eq _ _ h1] at k1
 rw [lsB_eq insB_eq _ _ h7] at j1
 exact ⟨_,_,k1,j1,two_wh h2 h3 h4 h5 h6 h8 h9⟩
def cdX (c:Nat):List Ins:=(cndR (qX c) 3).v
end Tr
namespace Tr
theorem all_ok:((List.range 15).all (fun c=>okW (qX c) (cdX c) && okW (qY c) (cdX c++[iNot]) && (List.range 15).all (fun d=>okW2 (qB c d) (cdX c) (cdX d))))=true:=by decide +kernel
def finB (s:List UInt8):Bool:=decide ((M s (s.length+1)).st=26) && decide (C s (s.length+1)≤10) && decide (s.length≤120)
theorem all_fin:((List.range 15).all (fun c=>finB (qX c) && finB (qY c) && (List.range 15).all (fun d=>finB (qB c d))))=true:=by decide +kernel
theorem finB_eq {s:List UInt8} (h:finB s=true):FinP s∧C s (s.length+1)≤10∧s.length≤120:=by
 simp only [finB,Bool.and_eq_true,decide_eq_true_eq] at h
 exact ⟨h.1.1,h.1.2,h.2⟩
theorem fin_qs {c d:Nat} (hc:c<15) (hd:d<15):finB (qX c)=true∧finB (qY c)=true∧finB (qB c d)=true:=by
 have h:=List.all_eq_true.1 all_fin c (List.mem_range.2 hc)
 simp only [Bool.and_eq_true] at h
 exact ⟨h.1.1,h.1.2,List.all_eq_true.1 h.2 d (List.mem_range.2 hd)⟩
theorem parted_q {c d:Nat} (hc:c<15) (hd:d<15):∃φ ψ:Tv→Bool,pQuery (qX c)=[⟨false,[whS φ]⟩]∧pQuery (qY c)=[⟨false,[whS (fun t=>!(φ t))]⟩]∧pQuery (qX d)=[⟨false,[whS ψ]⟩]∧pQuery (qB c d)=[⟨false,[whS φ,whS ψ]⟩]:=by
 have h:=List.all_eq_true.1 all_ok c (List.mem_range.2 hc)
 have h':=List.all_eq_true.1 all_ok d (List.mem_range.2 hd)
 simp only [Bool.and_eq_true] at h h'
 obtain ⟨φ,f1,f2⟩:=okW_eq h.1.1
 obtain ⟨φ2,g1,g2⟩:=okW_eq h.1.2
 obtain ⟨ψ,p1,p2⟩:=okW_eq h'.1.1
 obtain ⟨φ3,ψ3,q1,q2,q3⟩:=okW2_eq (List.all_eq_true.1 h.2 d (List.mem_range.2 hd))
 refine ⟨φ,ψ,f2,?_,p2,?_⟩
 ·rw [g2,g1.uniq f1.not]
 rw [q3,q1.uniq f1,q2.uniq p1]
theorem nodes_wh (φ:Tv→Bool) (T:Tv):nodesS [⟨false,[whS φ]⟩] [T]=T.ws.filter φ:=by
 show [T].flatMap (segS ⟨false,[whS φ]⟩)=_
 rw [List.flatMap_cons,List.flatMap_nil,List.append_nil]
 show [whS φ].flatMap (fun x=>takS x T)=_
 rw [List.flatMap_cons,List.flatMap_nil,List.append_nil,takS_5 rfl]
 rfl
theorem nodes_wh2 (φ ψ:Tv→Bool) (T:Tv):nodesS [⟨false,[whS φ,whS ψ]⟩] [T]=T.ws.filter φ++T.ws.filter ψ:=by
 show [T].flatMap (segS ⟨false,[whS φ,whS ψ]⟩)=_
 rw [List.flatMap_cons,List.flatMap_nil,List.append_nil]
 show [whS φ,whS ψ].flatMap (fun x=>takS x T)=_
 rw [List.flatMap_cons,List.flatMap_cons,List.flatMap_nil,List.append_nil,takS_5 rfl,takS_5 rfl]
 rfl
theorem nodes_every {ys:List Sg} (h:shp ys=[(false,[1])]) (T:Tv):nodesS ys [T]=T.ws:=by
 obtain ⟨g,x,rfl,h1,h2,h3⟩:=shp_one h
 show [T].flatMap (segS g)=_
 rw [List.flatMap_cons,List.flatMap_nil,List.append_nil]
 unfold segS
 rw [if_neg (by rw [h1]; simp),h2]
 show [x].flatMap (fun x=>takS x T)=_
 rw [List.flatMap_cons,List.flatMap_nil,List.append_nil,takS_1 h3]
theorem len_part (φ:Tv→Bool):∀(l:List Tv),l.length=(l.filter φ).length+(l.filter (fun t=>!(φ t))).length
 | []=>rfl
 | a::l=>by
  have:=len_part φ l
  rw [List.filter_cons,List.filter_cons]
  cases h:φ a<;>simp<;>omega
end Tr
