import Derived.Test.YtcbadebjpogmlaaGreatDoorPPlain
import Derived.Test.YtcbadebjpogmlaaGreatDoorPMkZ
import Derived.Test.YtcbadebjpogmlaaGreatDoorPAa
import Derived.Test.YtcbadebjpogmlaaGreatDoorPCm
import Derived.Test.YtcbadebjpogmlaaGreatDoorPCu
import Derived.Test.YtcbadebjpogmlaaGreatDoorCards
import Derived.WalkKit
import Derived.ProofKit
import Derived.OpenShut
import Derived.Lib.LaidTab
import Derived.Stop.LaidErr
import Derived.Shaped
import Derived.ChangeStays
import Derived.Deep.Onto
import Derived.ChangeMaps5
import Derived.Test.YtcbadebjpogmlaaGreatDoorPPh
import Derived.Deep.RegionHeldLaw
import Derived.ChangeSlices
import Derived.Test.YtcbadebjpogmlaaGreatDoorPCt
import Derived.Test.YtcbadebjpogmlaaGreatDoorPFb
import Derived.Test.YtcbadebjpogmlaaGreatDoorPAf
namespace Tr
end Tr
namespace Go.Proofs.YtcbadebjpogmlaaGreatDoor
open Go.RowKit Tr
theorem QryV.keep {w w':World} {gq:Nat} {tt:ByteArray} {xs:List Sg} (h:QryV w gq tt xs) (k:Keeps w w'):QryV w' gq tt xs:=by
 obtain ⟨b,D,h1,h2⟩:=h
 have s:Sm D w w':=Sm.fr h1 k (fun _ _ x=>x)
 exact ⟨b,D,h1.keep s,h2.keep s⟩
end Go.Proofs.YtcbadebjpogmlaaGreatDoor
namespace Go.Proofs.YtcbadebjpogmlaaGreatDoor
open Go.ChangeShapes Go.WideShapes Go.ChangeAt Go.RowKit Go.ChangeMaps
theorem kSyntax:Tryz.prog.globalNamed "strconv.ErrSyntax"=some 6:=by kernel_rfl
theorem kSyntaxT:(Tryz.prog.globals[6]?).map (·.type)=some 180:=by kernel_rfl
theorem kErr:Tryz.prog.cellsOf 336=1:=by kernel_rfl
theorem kStr:Tryz.prog.cellsOf 9=1:=by kernel_rfl
theorem kStar: "*"++ "errors.errorString"= "*errors.errorString":=by decide
theorem kRow (u:TypeId) (h:Tryz.prog.typeName? 3 u=some "*errors.errorString"):u=334 :=
 typeName_ptr_named (nm:= "errors.errorString") (by rw [kStar]; kernel_rfl) (by kernel_rfl) (by decide) u (by rw [kStar]; exact h)
theorem kPowT:(Tryz.prog.globals[0]?).map (·.type)=some 277:=by kernel_rfl
theorem kPowC:Tryz.prog.cellsOf 277=20:=by kernel_rfl
theorem kU64C:Tryz.prog.cellsOf 258=1:=by kernel_rfl
theorem kPow:(Rows.laid_internal_strconv_uint64pow10:DataW Unit)=Lib.tabData .u64 Lib.pow10Tab:=by kernel_rfl
def lst:List (String×DataW Unit):=[("math/bits.deBruijn32tab",Rows.laid_math_bits_deBruijn32tab),("math/bits.deBruijn64tab",Rows.laid_math_bits_deBruijn64tab),("internal/strconv.uint64pow10",Rows.laid_internal_strconv_uint64pow10),("unicode/utf8.acceptRanges",Rows.laid_unicode_utf8_acceptRanges),("strconv.ErrRange",Rows.laid_strconv_ErrRange),("strconv.ErrSyntax",Rows.laid_strconv_ErrSyntax),("unicode/utf8.first",Rows.laid_unicode_utf8_first)]
theorem shMax:(((begin Tryz.prog (fun _ _=>0) default).world.heap[1]?).bind Obj.row?)=some (#[.int .i64 0],3):=by kernel_rfl
theorem shPow:((((begin Tryz.prog (fun _ _=>0) default).world.heap[0]?).bind Obj.row?).map (·.2))=some 277:=by kernel_rfl
theorem bdInt:Tryz.prog.buildable 3=true:=by kernel_rfl
theorem ctInt:Tryz.prog.cellTypes Tryz.prog.depth 3=some [3]:=by kernel_rfl
set_option maxRecDepth 100000 in
theorem en_of {W:World} (h:laidMetH Tryz.prog lst W) (hs:W.ShapedOpen Tryz.prog):EN W:=by
 have h2:laidMet Tryz.prog lst W:=h
 have hlt:∀{g:Nat} {v:Value},W.cell? ⟨g,0,none⟩=some v→g<W.heap.size:=fun {g v} hc=>World.block_lt_of_cell? W ⟨g,0,none⟩ hc
 obtain ⟨a,s,hv,_,_,_⟩:=laid_sentinel h2.tail.tail.tail.tail.tail kSyntax kSyntaxT Tryz.underlying180 kRow Tryz.underlying334 Tryz.underlying336 rfl rfl Tryz.underlying9 kErr kStr
 have hc:W.cell? ⟨6,0,none⟩=some (.iface 334 (.pointer (some a))):=by simpa using World.var?_cell kSyntax hv 0
 have h3:=h2.tail.tail
 rw [kPow] at h3
 have hT:=Lib.tabIs_of_head gPow kPowT Tryz.underlying277 Tryz.underlying258 kU64C kPowC h3
 obtain ⟨cs,hm,hz,hok⟩:=hs.1 1 _ _ (by decide +kernel) shMax
 obtain ⟨ts,t1,t2,t3⟩:=hok bdInt
 rw [ctInt] at t1
 obtain rfl:=Option.some.inj t1
 have hz1:cs.size=1:=hz
 obtain ⟨v,hv0⟩:∃v,cs[0]?=some v:=⟨cs[0],by simp [hz1]⟩
 obtain ⟨u,hu,hcell⟩:=t3 0 v hv0
 have hu:u=3:=by simpa using hu.symm
 subst hu
 unfold Cell.ok at hcell
 rw [Tryz.underlying3] at hcell
 have hmc:W.cell? ⟨1,0,none⟩=some v:=by
  have:Blk W 1 cs 3:=hm
  rw [this.cell 0]; exact hv0
 have hpl:0<W.heap.size:=by
  obtain ⟨y,hy,hy2⟩:=Option.map_eq_some_iff.1 shPow
  obtain ⟨cs2,hm2,_⟩:=hs.1 0 y.1 y.2 (by decide +kernel) hy
  exact lt_of_some hm2
 refine ⟨⟨⟨_,hc,Or.inr ⟨_,_,rfl⟩⟩,hlt hc⟩,hT,hpl,?_,hlt hmc⟩
 cases v with
 | int k m =>
  obtain ⟨rfl,_⟩:=hcell
  exact ⟨m,hmc⟩
 | _=>exact hcell.elim
section
variable {H:Type} {enc:TypeId×Value→H} {P:Program}
theorem post_keeps {f:Func} {s:ChangeSpec} {apart fresh handsOn again:Bool} {W W':World} {args:Array Value} {v:Value} {ds gs:List (DataW H)} {before pa pv:List MemPlace}
 (hW:DataW.Whole enc P f.params.toList s.vars apart W args.toList ds gs before)
 (hres:∀(b:Nat) (sp:Nat→Bool) (hd:Bool),DataW.TrodAll enc P W' b sp hd f.resultTypes.toList (v.resultList f.resultTypes.size) (s.fn H (ds++gs)).results [])
 (hargs:∀sp:Nat→Bool,(∀p ∈ before,sp p.block=true)→DataW.TrodAll enc P W' 0 sp true f.params.toList args.toList (s.fn H (ds++gs)).args pa)
 (hvars:∀sp:Nat→Bool,(∀p ∈ before,sp p.block=true)→DataW.TrodVars enc P W' sp s.vars (s.fn H (ds++gs)).vars pv)
 (hps:before=pa++pv) (hk:Keeps W W')
 (hok:∀(j:Nat) (t:TypeId) (r:Value),f.resultTypes[j]?=some t→(v.resultList f.resultTypes.size)[j]?=some r→Value.okWide P W' .any 0 t r) :
 s.post enc P f apart fresh handsOn again W args v W':=by
 have hlt:=hW.lt
 have hb:W.keptBut W' (· ∈ before):=(World.keptBut_refl W _).congr hk.os hk.output (fun i hi=>hk.block i hi id)
 refine ⟨ds,gs,before,[],pa,pv,hW,hres _ _ _,hargs _ (fun p hp=>by simpa using hlt p hp),hvars _ (fun p hp=>by simpa using hlt p hp),
  World.keptBut_mono (fun p hp=>⟨hp,Or.inr (List.mem_append.1 (hps▸hp))⟩) hb,fun _=>?_⟩
 obtain ⟨_,_,_,_,_,hz,hn⟩:=hW
 refine ⟨hok,_,_,([]++pa)++pv,⟨[]++pa,pv,trodAll_append (hargs _ (fun _ _=>rfl)) (hres _ _ _),hvars _ (fun _ _=>rfl),rfl,fun b off hp=>?_,fun ha=>?_⟩,fun p hp _=>?_⟩
 ·have hm:MemPlace.cell b off ∈ before:=by rw [hps]; simpa using hp
  rw [hk.frozen (p:=⟨b,off,none⟩) (hlt _ hm) id]
  exact hz b off hm
 ·have:=hn ha
  rw [hps] at this
  simpa using this
 rw [hps]; simpa using hp
end
end Go.Proofs.YtcbadebjpogmlaaGreatDoor
namespace Go.Proofs.YtcbadebjpogmlaaGreatDoor
open Go.RowKit Tr
def lb (l:List UInt8):ByteArray:=⟨l.toArray⟩
theorem bs_lb (l:List UInt8):bs (lb l)=l:=by simp [bs,lb]
def strs (l:List (List UInt8)):Array Value:=(l.map fun x=>Value.string (lb x)).toArray
theorem lit_cell (w:World) {l:List (List UInt8)} (T:TypeId) {k:Nat} (hk:k<l.length):(w.alloc (.cells (strs l) T)).cell? ⟨w.heap.size,k,none⟩=some (.string (lb (l.getD k []))):=by
 rw [(Blk.new w _ T).cell k]
 simp [strs,hk]
set_option linter.unusedSimpArgs false
theorem i_add (a i:Nat):((a+i:Nat):Int)=(a:Int)+(i:Int):=by omega
end Go.Proofs.YtcbadebjpogmlaaGreatDoor
namespace Go.Proofs.YtcbadebjpogmlaaGreatDoor
open Go.RowKit Tr
theorem name_len:∀k,k<4→(lb (mNames.getD k [])).size≤30:=by decide +kernel
theorem getD_mem {l:List (List UInt8)} {k:Nat} (h:k<l.length):l.getD k [] ∈ l:=by
 rw [List.getD_eq_getElem?_getD,List.getElem?_eq_getElem h]
 exact List.getElem_mem h
theorem first_one {k d a0 b i b':Nat} {s s':List UInt8} (h:i=0) (hm:MkI k d a0 b i s) (f:MkI k d a0 b 0 s→MkI k d a0 b' 1 s'):MkI k d a0 b' (i+1) s':=by
 subst h
 exact f hm
theorem sz_of {s:ByteArray} {n:Nat} (h:(bs s).length≤n):s.size≤n:=by rw [bs_len] at h; exact h
end Go.Proofs.YtcbadebjpogmlaaGreatDoor
namespace Go.Proofs.YtcbadebjpogmlaaGreatDoor
open Go.ChangeShapes Go.WideShapes Go.ChangeAt Go.RowKit Go.ChangeMaps
theorem cellsInt:Tryz.prog.cellsOf 3=1:=by kernel_rfl
def IT (t:TypeId):Prop:=t=24∨t=3
theorem itKids:Kids Tryz.prog IT:=by
  have u0:=Tryz.underlying24
  have u2:=Tryz.underlying3
  refine ⟨?_,?_,?_,?_,?_⟩
  · rintro t e (rfl | rfl) h
    · rw [u0] at h; cases h
    rw [u2] at h; cases h
  · rintro t e (rfl | rfl) h
    · rw [u0] at h; cases h; exact Or.inr rfl
    rw [u2] at h; cases h
  · rintro t e n (rfl | rfl) h
    · rw [u0] at h; cases h
    rw [u2] at h; cases h
  · rintro t fs (rfl | rfl) h
    · rw [u0] at h; cases h
    rw [u2] at h; cases h
  rintro t k e (rfl | rfl) h
  · rw [u0] at h; cases h
  rw [u2] at h; cases h
theorem itPos {t e:TypeId} (h:IT t) (hu:Tryz.prog.underlying t=some (.slice e)):0<Tryz.prog.cellsOf e:=by
  rcases itKids.slice h hu with rfl | rfl
  · rw [show Tryz.prog.cellsOf 24=1 by kernel_rfl]; decide
  rw [cellsInt]; decide
theorem slice_shape {P:Program} {w:World} {base:Nat} {t e:TypeId} {v:Value} (ht:P.underlying t=some (.slice e)) (h:Value.okWide P w .any base t v) :
    v=.slice none 0 0∨∃a len cap,v=.slice (some a) len cap∧a.block<w.heap.size:=by
  simp only [Value.okWide,Cell.okWide,Cell.ok,ht] at h
  split at h
  all_goals first
    | (rename_i heq; cases heq; done)
    | exact Or.inl rfl
    | (obtain ⟨_,_,_,_,_,_,hs,_⟩:=h
       refine Or.inr ⟨_,_,_,rfl,?_⟩
       unfold World.shape? at hs
       split at hs
       · rename_i hh; exact lt_of_some hh
       cases hs)
    | exact absurd h id
theorem wf_range {n:Int} (h:(Lit.int .i64 n).wf=true):i64R n:=by
  have e1:IntKind.i64.min=-9223372036854775808:=by decide
  have e2:IntKind.i64.max=9223372036854775807:=by decide
  simp only [Lit.wf,Bool.and_eq_true,decide_eq_true_eq,e1,e2] at h
  unfold i64R
  omega
section
variable {H:Type} {enc:TypeId×Value→H} {W:World}
set_option maxRecDepth 100000 in
theorem ints_open {base:Nat} {v:Value} {d:DataW H} {pl:List MemPlace} (hok:Value.okWide Tryz.prog W .any base 24 v) (h:DataW.Trod enc Tryz.prog W 0 (fun _=>true) true 24 v d pl):IntsAt W v:=by
  obtain ⟨fuel,h⟩:=h
  rcases slice_shape Tryz.underlying24 hok with rfl | ⟨a,len,cap,rfl,hb⟩
  · exact ⟨none,0,0,rfl,by omega,fun y=>absurd y (by omega)⟩
  rcases open_ints Tryz.underlying24 Tryz.underlying3 cellsInt h with ⟨e,_⟩ | ⟨a',len',cap',zs,e,_,hl,hm,hz,_,hc,hw⟩
  · simp [Value.cells] at e
  simp only [Value.cells,List.cons.injEq,Value.slice.injEq,Option.some.injEq,and_true] at e
  obtain ⟨rfl,rfl,rfl⟩:=e
  simp only [if_true] at hz
  refine ⟨some a,len,cap,rfl,by unfold maxLen at hm; omega,fun _=>⟨a,rfl,fun i hi=>⟨_,hc i (by omega),wf_range (hw _ ?_)⟩⟩⟩
  have hlt:i<zs.length:=by omega
  rw [List.getD_eq_getElem?_getD,List.getElem?_eq_getElem hlt]
  exact List.getElem_mem hlt
set_option maxRecDepth 100000 in
theorem ints_stay {W':World} {sp:Nat→Bool} {v:Value} {d:DataW H} {pl:List MemPlace} (h:DataW.Trod enc Tryz.prog W 0 (fun _=>true) true 24 v d pl) (hlt:∀p ∈ pl,p.block<W.heap.size) (hk:Keeps W W') (hsp:∀p ∈ pl,sp p.block=true):DataW.Trod enc Tryz.prog W' 0 sp true 24 v d pl:=by
  obtain ⟨fuel,ht⟩:=h
  exact ⟨fuel,DataW.trod_stays (w':=W') (sp':=sp) itKids itPos (fun hh=>by cases hh) (Or.inl rfl) ht (fun p hp=>by
    have hb:=hlt p hp
    cases p with
    | cell b off=>exact hk.cell (p:=⟨b,off,none⟩) hb id
    | map b=>exact hk.block b hb id) (fun p hp=>hsp p hp)⟩
end
section
variable {H:Type}
end
end Go.Proofs.YtcbadebjpogmlaaGreatDoor
namespace Go.Proofs.YtcbadebjpogmlaaGreatDoor
open Go.RowKit Tr
abbrev Nd:=ByteArray×Int×Int
def NdAt (w:World) (g n:Nat) (F:Nat→Nd):Prop:=∀i,i<n→w.cell? ⟨g,i * 3,none⟩=some (.string (F i).1)∧w.cell? ⟨g,i * 3+1,none⟩=some (.int .i64 (F i).2.1)∧w.cell? ⟨g,i * 3+2,none⟩=some (.int .i64 (F i).2.2)
theorem NdAt.keep {w w':World} {g n:Nat} {F:Nat→Nd} (h:NdAt w g n F) (k:Keeps w w'):NdAt w' g n F:=fun i hi=>by
 obtain ⟨h0,h1,h2⟩:=h i hi
 have hl:g<w.heap.size:=World.block_lt_of_cell? w ⟨g,i * 3,none⟩ h0
 exact ⟨(k.cell (p:=⟨g,_,none⟩) hl id).trans h0,(k.cell (p:=⟨g,_,none⟩) hl id).trans h1,(k.cell (p:=⟨g,_,none⟩) hl id).trans h2⟩
def NdsAt (w:World) (ao:Option Addr) (n:Nat) (F:Nat→Nd):Prop:=0<n→∃g,ao=some ⟨g,0,none⟩∧NdAt w g n F
theorem NdsAt.keep {w w':World} {ao:Option Addr} {n:Nat} {F:Nat→Nd} (h:NdsAt w ao n F) (k:Keeps w w'):NdsAt w' ao n F:=fun hn=>by
 obtain ⟨g,e,hv⟩:=h hn
 exact ⟨g,e,hv.keep k⟩
end Go.Proofs.YtcbadebjpogmlaaGreatDoor
namespace Go.Proofs.YtcbadebjpogmlaaGreatDoor
open Go.RowKit Tr
def RB (r:Ending):Prop:=∃b,r=.returned (.bool b)
theorem rb (b:Bool):RB (.returned (.bool b)):=⟨b,rfl⟩
end Go.Proofs.YtcbadebjpogmlaaGreatDoor
namespace Go.Proofs.YtcbadebjpogmlaaGreatDoor
open Go.RowKit Tr Go.Conc
theorem nd_get:∀(l:List Tv) (k i:Nat) (h:k<l.length),i<3→(l.flatMap ndCells)[k * 3+i]?=(ndCells l[k])[i]?
 | [],_,_,h,_=>absurd h (by simp)
 | a::l,0,i,_,hi=>by
  rw [List.flatMap_cons,Nat.zero_mul,Nat.zero_add,List.getElem?_append_left (by simpa [ndCells] using hi)]
  rfl
 | a::l,k+1,i,h,hi=>by
  have e:(ndCells a).length=3:=rfl
  rw [List.flatMap_cons,List.getElem?_append_right (by rw [e]; omega),e,show (k+1) * 3+i - 3=k * 3+i by omega]
  exact nd_get l k i (by simpa using h) hi
def ndOf (v:Tv):Nd:=(bsb v.d.path,((v.d.frm:Nat):Int),((v.d.to:Nat):Int))
def nG (l:List Tv) (i:Nat):Nd:=match l[i]? with
 | some v=>ndOf v
 | none=>(⟨#[]⟩,0,0)
theorem nG_at {l:List Tv} {i:Nat} (h:i<l.length):nG l i=ndOf l[i]:=by unfold nG; rw [List.getElem?_eq_getElem h]
theorem nds_at {w:World} {sv:Value} {l:List Tv} (h:w.ownsRow 0 42 3 sv l.length (l.flatMap ndCells)):∃ao c,sv=.slice ao l.length c∧NdsAt w ao l.length (nG l):=by
 obtain ⟨ao,c,rfl⟩:=own_slice h
 refine ⟨ao,c,rfl,fun hp=>?_⟩
 obtain ⟨g,c',e,_,_⟩:=h.form hp
 injection e with e1 _ _
 subst e1
 refine ⟨g,rfl,fun i hi=>?_⟩
 have G:∀j,j<3→w.cell? ⟨g,i * 3+j,none⟩=(ndCells l[i])[j]?:=fun j hj=>by rw [h.cellAt _ (by omega),nd_get l i j hi hj]
 rw [nG_at hi]
 exact ⟨G 0 (by omega),G 1 (by omega),G 2 (by omega)⟩
end Go.Proofs.YtcbadebjpogmlaaGreatDoor
namespace Go.Proofs.YtcbadebjpogmlaaGreatDoor
open Go.RowKit Tr
def pkV (c:Int) (n:Nat):Nat:=if c<0 then ((-(c+1)) % (n:Int)).toNat else (c % (n:Int)).toNat
theorem pkV_lt (c:Int) {n:Nat} (hn:0<n):pkV c n<n:=by
 unfold pkV
 split
 ·have e0:=Int.emod_nonneg (-(c+1)) (show (n:Int)≠0 by omega)
  have e1:=Int.emod_lt_of_pos (-(c+1)) (show (0:Int)<n by omega)
  omega
 have e0:=Int.emod_nonneg c (show (n:Int)≠0 by omega)
 have e1:=Int.emod_lt_of_pos c (show (0:Int)<n by omega)
 omega
set_option maxRecDepth 100000 in
theorem p_pickV {w:World} {c:Int} (hc:i64R c) {n:Nat} (hn:0<n) (hn2:n≤5000000):Calls Tryz.prog 22 #[.int .i64 c,.int .i64 (n:Nat)] w fun r w'=>r=.returned (.int .i64 (pkV c n:Nat))∧w'=w:=by
 unfold i64R at hc
 by_cases h:c<0
 ·have e:-(c+1).tmod (n:Int)=(-(c+1)) % (n:Int):=by rw [← Int.neg_tmod,Int.tmod_eq_emod_of_nonneg (by omega)]
  have e0:=Int.emod_nonneg (-(c+1)) (show (n:Int)≠0 by omega)
  have FIN:Ending.returned (.int .i64 (-(c+1).tmod (n:Int)))=.returned (.int .i64 (pkV c n:Nat)):=by
   unfold pkV
   rw [if_pos h,e]; congr 2; omega
  have HF:=hide FIN
  clear FIN e e0
  go_enter Tryz.func22,Tryz.ntmps22
  go_wp2
  go_ret
  exact ⟨HF.out,rfl⟩
 have e0:=Int.emod_nonneg c (show (n:Int)≠0 by omega)
 have FIN:Ending.returned (.int .i64 (c % (n:Int)))=.returned (.int .i64 (pkV c n:Nat)):=by
  unfold pkV
  rw [if_neg h]; congr 2; omega
 have HF:=hide FIN
 clear FIN e0
 go_enter Tryz.func22,Tryz.ntmps22
 go_wp2
 go_ret
 exact ⟨HF.out,rfl⟩
def IntsF (w:World) (lv:Value) (R:Nat→Int):Prop:=∃ao n cp,∃F:Nat→Int,lv=.slice ao n cp∧n≤9223372036854775807∧(0<n→∃ad:Addr,ao=some ad∧∀i,i<n→w.cell? (ad.add i)=some (.int .i64 (F i))∧i64R (F i))∧∀i,R i=if n=0 then 0 else F (i % n)
theorem IntsF.keep {w w':World} {lv:Value} {R:Nat→Int} (h:IntsF w lv R) (k:Keeps w w'):IntsF w' lv R:=by
 obtain ⟨ao,n,cp,F,h1,h2,h3,h4⟩:=h
 refine ⟨ao,n,cp,F,h1,h2,fun hn=>?_,h4⟩
 obtain ⟨g,e,hv⟩:=h3 hn
 refine ⟨g,e,fun i hi=>?_⟩
 obtain ⟨c1,c2⟩:=hv i hi
 exact ⟨(k.cell (p:=g.add i) (World.block_lt_of_cell? w (g.add i) c1) id).trans c1,c2⟩
theorem IntsAt.fn {w:World} {lv:Value} (h:IntsAt w lv):∃R,IntsF w lv R:=by
 obtain ⟨ao,n,cp,h1,h2,h3⟩:=h
 by_cases hn:0<n
 ·obtain ⟨ad,e,hv⟩:=h3 hn
  have hc:∀i,∃v,i<n→w.cell? (ad.add i)=some (.int .i64 v)∧i64R v:=fun i=>by
   by_cases hi:i<n
   ·obtain ⟨v,hv⟩:=hv i hi
    exact ⟨v,fun _=>hv⟩
   exact ⟨0,fun y=>absurd y hi⟩
  obtain ⟨F,hF⟩:=Classical.axiomOfChoice hc
  exact ⟨fun i=>if n=0 then 0 else F (i % n),ao,n,cp,F,h1,h2,fun _=>⟨ad,e,hF⟩,fun _=>rfl⟩
 exact ⟨fun i=>if n=0 then 0 else 0,ao,n,cp,fun _=>0,h1,h2,fun y=>absurd y hn,fun _=>rfl⟩
theorem IntsF.r {w:World} {lv:Value} {R:Nat→Int} (h:IntsF w lv R) (i:Nat):i64R (R i):=by
 obtain ⟨ao,n,cp,F,h1,h2,h3,h4⟩:=h
 rw [h4]
 split
 ·unfold i64R; omega
 rename_i hn
 obtain ⟨_,_,hv⟩:=h3 (by omega)
 exact (hv _ (Nat.mod_lt _ (by omega))).2
set_option maxRecDepth 100000 in
theorem p_rawV {w:World} {lv:Value} {R:Nat→Int} (h:IntsF w lv R) {i:Nat} (hi:i≤5000000):Calls Tryz.prog 32 #[lv,.int .i64 (i:Nat)] w fun r w'=>r=.returned (.int .i64 (R i))∧w'=w:=by
 obtain ⟨ao,n,cp,F,rfl,hn,hg,hR⟩:=h
 by_cases h0:n=0
 ·subst h0
  have e:R i=0:=by rw [hR,if_pos rfl]
  rw [e]
  clear hg hR e
  go_enter Tryz.func32,Tryz.ntmps32
  go_wp2
  go_ret
  exact ⟨rfl,rfl⟩
 obtain ⟨g,rfl,hv⟩:=hg (by omega)
 obtain ⟨h1,_⟩:=hv (i % n) (Nat.mod_lt _ (by omega))
 have e:R i=F (i % n):=by rw [hR,if_neg h0]
 rw [← e] at h1
 generalize R i=v at *
 have h0i:¬(n:Int)=0:=by omega
 have h0j:(0:Int)<(n:Int):=by omega
 have hm0:(0:Int)≤(i:Int) % (n:Int):=by omega
 have hm1:(i:Int) % (n:Int)<(n:Int):=Int.emod_lt_of_pos _ (by omega)
 clear hv hg hR e
 go_enter Tryz.func32,Tryz.ntmps32
 go_wp2
 go_ret
 exact ⟨rfl,rfl⟩
def lpV (f:Nat→List UInt8×Nat) (R:Nat→Int) (th:Bool):Nat→Nat→Nat→List UInt8→List UInt8×Nat
 | 0,_,b,s=>(s,b)
 | m+1,i,b,s=>if b<60 then (if th=true then lpV f R th m (i+1) (f (b+1)).2 ((if 0<i then s++[44] else s)++mNames.getD (pkV (R b) 4) []++(f (b+1)).1) else lpV f R th m (i+1) (f b).2 ((if 0<i then s++[44] else s)++(f b).1)) else (s,b)
def mdV (R:Nat→Int):Nat→Nat→List UInt8×Nat
 | 0,a=>(mScal.getD (pkV (R (a+1)) 7) [],a+2)
 | d+1,a=>if pkV (R a) 9<5 then (mScal.getD (pkV (R (a+1)) 7) [],a+2)
  else if 6<pkV (R a) 9 then ([123]++(lpV (mdV R d) R true (pkV (R (a+1)) 4) 0 (a+2) []).1++[125],(lpV (mdV R d) R true (pkV (R (a+1)) 4) 0 (a+2) []).2)
  else ([91,32]++(lpV (mdV R d) R false (pkV (R (a+1)) 4) 0 (a+2) []).1++[93],(lpV (mdV R d) R false (pkV (R (a+1)) 4) 0 (a+2) []).2)
theorem md_scal {R:Nat→Int} {deep a:Nat} (h:deep=0∨pkV (R a) 9<5):mdV R deep a=(mScal.getD (pkV (R (a+1)) 7) [],a+2):=by
 cases deep with
 | zero=>rfl
 | succ d=>rw [mdV,if_pos (by omega)]
theorem md_thing {R:Nat→Int} {d a:Nat} (h5:¬pkV (R a) 9<5) (h6:6<pkV (R a) 9) {s:List UInt8} {b:Nat} (h:lpV (mdV R d) R true (pkV (R (a+1)) 4) 0 (a+2) []=(s,b)):mdV R (d+1) a=([123]++s++[125],b):=by rw [mdV,if_neg h5,if_pos h6,h]
theorem md_list {R:Nat→Int} {d a:Nat} (h5:¬pkV (R a) 9<5) (h6:¬6<pkV (R a) 9) {s:List UInt8} {b:Nat} (h:lpV (mdV R d) R false (pkV (R (a+1)) 4) 0 (a+2) []=(s,b)):mdV R (d+1) a=([91,32]++s++[93],b):=by rw [mdV,if_neg h5,if_neg h6,h]
theorem lp_end {f:Nat→List UInt8×Nat} {R:Nat→Int} {th:Bool} {n i b:Nat} {s:List UInt8} (h:¬(i<n∧b<60)):lpV f R th (n - i) i b s=(s,b):=by
 cases e:n - i with
 | zero=>rfl
 | succ m=>rw [lpV,if_neg (by omega)]
theorem lp_th {f:Nat→List UInt8×Nat} {R:Nat→Int} {n i b:Nat} {s t:List UInt8} {b':Nat} (h1:i<n) (h2:b<60) (hf:f (b+1)=(t,b')):lpV f R true (n - i) i b s=lpV f R true (n - (i+1)) (i+1) b' ((if 0<i then s++[44] else s)++mNames.getD (pkV (R b) 4) []++t):=by
 rw [show n - i=(n - (i+1))+1 by omega,lpV,if_pos h2,if_pos rfl,hf]
theorem lp_li {f:Nat→List UInt8×Nat} {R:Nat→Int} {n i b:Nat} {s t:List UInt8} {b':Nat} (h1:i<n) (h2:b<60) (hf:f b=(t,b')):lpV f R false (n - i) i b s=lpV f R false (n - (i+1)) (i+1) b' ((if 0<i then s++[44] else s)++t):=by
 rw [show n - i=(n - (i+1))+1 by omega,lpV,if_pos h2,if_neg (by simp),hf]
def MdQ (R:Nat→Int) (n a:Nat) (w:World) (r:Ending) (w':World):Prop:=(∃(s:ByteArray) (a':Nat),r=.returned (.tuple #[.string s,.int .i64 (a':Nat)])∧MdT n a a' (bs s)∧mdV R n a=(bs s,a'))∧Keeps w w'
set_option maxHeartbeats 8000000 in
set_option maxRecDepth 100000 in
theorem made_stepV {lv:Value} {R:Nat→Int} {deep:Nat} (hdeep:deep≤5) (IH:∀d,d+1=deep→∀(w:World),IntsF w lv R→∀a,a≤60→Calls Tryz.prog 33 #[lv,.int .i64 (a:Nat),.int .i64 (d:Nat)] w (MdQ R d a w)) {w:World} (hi:IntsF w lv R) {a:Nat} (ha:a≤60):Calls Tryz.prog 33 #[lv,.int .i64 (a:Nat),.int .i64 (deep:Nat)] w (MdQ R deep a w):=by
 have HH:=hide IH
 clear IH
 have HI:=hide hi
 have F1:=hide ((Fr.refl (fun _=>False) w).alloc (.cells (strs mScal) 9))
 have R0:=hide (p_rawV hi (i:=a) (by omega))
 have R1:Hid (Calls Tryz.prog 32 #[lv,.int .i64 ((a:Int)+1)] (w.alloc (.cells (strs mScal) 9)) fun r w'=>r=.returned (.int .i64 (R (a+1)))∧w'=w.alloc (.cells (strs mScal) 9)):=by
  have:=p_rawV (hi.keep F1.out) (i:=a+1) (by omega)
  rw [i_add] at this
  exact this
 have LC:Hid (∀k,k<7→(w.alloc (.cells (strs mScal) 9)).cell? ⟨w.heap.size,k,none⟩=some (.string (lb (mScal.getD k [])))):=fun k hk=>lit_cell w _ hk
 have SC:Hid (∀k,k<7→MdT deep a (a+2) (bs (lb (mScal.getD k [])))∧bs (lb (mScal.getD k []))=mScal.getD k []):=fun k hk=>by rw [bs_lb]; exact ⟨MdT.scal (getD_mem hk) ha,rfl⟩
 have RR:=hide (fun i=>hi.r i)
 have hw1:IntKind.i64.wrap ((a:Int)+1)=(a:Int)+1:=by rw [IntWalk.i64_in _ (by omega)]
 have hw2:IntKind.i64.wrap ((a:Int)+2)=(a:Int)+2:=by rw [IntWalk.i64_in _ (by omega)]
 clear hi
 go_enter Tryz.func33,Tryz.ntmps33
 go_wp2_with fail
 refine R0.out.mono ?_
 rintro r w1 ⟨rfl,hw⟩
 obtain rfl:w=w1:=hw.symm
 clear R0
 go_wp2_with fail
 refine (p_pickV (RR.out a) (n:=9) (by omega) (by omega)).mono ?_
 rintro r w1 ⟨rfl,hw⟩
 obtain rfl:w=w1:=hw.symm
 have hk:=pkV_lt (R a) (n:=9) (by omega)
 obtain ⟨k,ek⟩:∃k,k=pkV (R a) 9:=⟨_,rfl⟩
 rw [← ek] at hk ⊢
 have EK:=hide ek
 clear ek
 by_cases hsc:deep=0∨k<5
 ·have MS:Hid (mdV R deep a=(mScal.getD (pkV (R (a+1)) 7) [],a+2)):=md_scal (by rw [← EK.out]; exact hsc)
  have hcase:(deep=0∧4<k)∨(deep=0∧k<5)∨(0<deep∧k<5):=by omega
  clear hsc
  have hcI:((deep:Int)=0∧(4:Int)<(k:Int)∧(k:Int) - 5<5∧IntKind.i64.wrap ((k:Int) - 5)=(k:Int) - 5)∨((deep:Int)=0∧¬(4:Int)<(k:Int)∧(k:Int)<5)∨(¬(deep:Int)=0∧(k:Int)<5):=by
   rcases hcase with h | h | h
   ·exact Or.inl ⟨by omega,by omega,by omega,by rw [IntWalk.i64_in _ (by omega)]⟩
   ·exact Or.inr (Or.inl (by omega))
   exact Or.inr (Or.inr (by omega))
  clear hcase
  rcases hcI with ⟨h1,h2,h3,h4⟩ | ⟨h1,h2,h3⟩ | ⟨h1,h2⟩
  all_goals
   go_wp2_with fail
   refine R1.out.mono ?_
   rintro r w2 ⟨rfl,rfl⟩
   go_wp2_with fail
   refine (p_pickV (RR.out (a+1)) (n:=7) (by omega) (by omega)).mono ?_
   rintro r w2 ⟨rfl,rfl⟩
   have hj:=pkV_lt (R (a+1)) (n:=7) (by omega)
   generalize pkV (R (a+1)) 7=j at *
   have hc:=LC.out j hj
   have S:=hide (SC.out j hj)
   have S2:Hid (mdV R deep a=(bs (lb (mScal.getD j [])),a+2)):=by rw [S.out.2]; exact MS.out
   generalize lb (mScal.getD j [])=ss at *
   clear LC SC R1 MS
   go_wp2
   go_ret2
   exact ⟨⟨ss,a+2,rfl,S.out.1,S2.out⟩,F1.out⟩
 obtain ⟨d,hd⟩:∃d,d+1=deep:=⟨deep - 1,by omega⟩
 have hde:((d:Nat):Int)=(deep:Int) - 1:=by omega
 have hd0:¬(deep:Int)=0:=by omega
 have hk5:¬(k:Int)<5:=by omega
 have hwd:IntKind.i64.wrap ((deep:Int) - 1)=(deep:Int) - 1:=by rw [IntWalk.i64_in _ (by omega)]
 clear SC LC
 go_wp2_with fail
 refine R1.out.mono ?_
 rintro r w2 ⟨rfl,rfl⟩
 go_wp2_with fail
 refine (p_pickV (RR.out (a+1)) (n:=4) (by omega) (by omega)).mono ?_
 rintro r w2 ⟨rfl,rfl⟩
 have hn:=pkV_lt (R (a+1)) (n:=4) (by omega)
 obtain ⟨n,en⟩:∃n,n=pkV (R (a+1)) 4:=⟨_,rfl⟩
 rw [← en] at hn ⊢
 have EN:=hide en
 clear R1 hsc en
 have HD:=hide hde
 by_cases hk6:6<k
 ·have hk6i:(6:Int)<(k:Int):=by omega
  clear hk6 hde
  go_wp2
  go_loopw [1,11,12] (fun av sv iv wr=>∃(s:ByteArray) (b i:Nat),sv=.string s∧av=.int .i64 (b:Nat)∧iv=.int .i64 (i:Nat)∧i≤n∧b≤62∧MkI 6 d (a+2) b i (bs s)∧lpV (mdV R d) R true (n - i) i b (bs s)=lpV (mdV R d) R true n 0 (a+2) []∧Keeps w wr) (fun _ _ iv _=>match iv with | .int _ m=>((n:Int) - m).toNat | _=>0)
  case atStart=>exact ⟨⟨#[]⟩,a+2,0,rfl,by simp,rfl,by omega,by omega,MkI.nil _ _ _,rfl,F1.out⟩
  case round =>
   obtain ⟨s,b,i,rfl,rfl,rfl,hin,hb,hM,hLP,hK⟩:=hrel
   have KW:=hide hK
   have hsl:s.size≤500:=sz_of (by have:=hM.2.1; omega)
   have HM:=hide hM
   have LP:=hide hLP
   clear hM hK F1 hLP
   have hwi:IntKind.i64.wrap ((i:Int)+1)=(i:Int)+1:=by rw [IntWalk.i64_in _ (by omega)]
   by_cases hgo:i<n∧b<60
   ·obtain ⟨g1,g2⟩:=hgo
    have g1i:(i:Int)<(n:Int):=by omega
    have g2i:(b:Int)<60:=by omega
    have FN:=hide ((Fr.refl (fun _=>False) wr).alloc (.cells (strs mNames) 9))
    have RB:=hide (p_rawV (w:=wr.alloc (.cells (strs mNames) 9)) ((HI.out.keep KW.out).keep FN.out) (i:=b) (by omega))
    have LN:Hid (∀k,k<4→(wr.alloc (.cells (strs mNames) 9)).cell? ⟨wr.heap.size,k,none⟩=some (.string (lb (mNames.getD k [])))):=fun k hk=>lit_cell wr _ hk
    have hwb:IntKind.i64.wrap ((b:Int)+1)=(b:Int)+1:=by rw [IntWalk.i64_in _ (by omega)]
    have CH:Hid (Calls Tryz.prog 33 #[lv,.int .i64 ((b:Int)+1),.int .i64 ((deep:Int) - 1)] (wr.alloc (.cells (strs mNames) 9)) (MdQ R d (b+1) (wr.alloc (.cells (strs mNames) 9)))):=by
     have:=HH.out d hd (wr.alloc (.cells (strs mNames) 9)) ((HI.out.keep KW.out).keep FN.out) (b+1) (by omega)
     rw [HD.out] at this
     exact this
    by_cases hi0:0<i
    ·have hii:(0:Int)<(i:Int):=by omega
     go_wp2_with fail
     refine RB.out.mono ?_
     rintro r w3 ⟨rfl,rfl⟩
     go_wp2_with fail
     refine (p_pickV (RR.out b) (n:=4) (by omega) (by omega)).mono ?_
     rintro r w3 ⟨rfl,rfl⟩
     have hj:=pkV_lt (R b) (n:=4) (by omega)
     obtain ⟨j,ej⟩:∃j,j=pkV (R b) 4:=⟨_,rfl⟩
     rw [← ej] at hj ⊢
     have EJ:=hide ej
     clear ej
     have hc:=LN.out j hj
     obtain ⟨nm,hnm⟩:∃nm,nm=lb (mNames.getD j []):=⟨_,rfl⟩
     rw [← hnm] at hc
     have hnl:nm.size≤30:=by rw [hnm]; exact name_len j hj
     have HN:Hid (bs nm ∈ mNames):=by rw [hnm,bs_lb]; exact getD_mem hj
     have NM:Hid (bs nm=mNames.getD (pkV (R b) 4) []):=hide (by rw [hnm,bs_lb,EJ.out])
     clear hnm LN RB
     go_wp2_with fail
     refine CH.out.mono ?_
     rintro r w2 ⟨⟨t,b',rfl,hT,hV⟩,k2⟩
     have htl:t.size≤500:=sz_of (by have:=hT.len; have:=hT.hi; omega)
     have FIN:Hid ((∃(s':ByteArray) (b2 i':Nat),Value.string (s++⟨#[44]⟩++nm++t)=.string s'∧Value.int .i64 (b':Nat)=.int .i64 (b2:Nat)∧Value.int .i64 ((i:Int)+1)=.int .i64 (i':Nat)∧i'≤n∧b2≤62∧MkI 6 d (a+2) b2 i' (bs s')∧lpV (mdV R d) R true (n - i') i' b2 (bs s')=lpV (mdV R d) R true n 0 (a+2) []∧Keeps w w2)∧((n:Int) - ((i:Int)+1)).toNat<((n:Int) - (i:Int)).toNat):=⟨⟨_,b',i+1,rfl,rfl,by simp,by omega,hT.hi,by simp only [bs_append]; exact hT.t2 HN.out HM.out (by omega),by rw [← LP.out,lp_th g1 g2 hV,if_pos hi0,← NM.out]; simp only [bs_append]; rfl,KW.out.trans (FN.out.trans k2)⟩,by omega⟩
     clear k2 hT hV CH HM HI HH KW LP
     go_wp2
     exact FIN.out
    have hii:¬(0:Int)<(i:Int):=by omega
    go_wp2_with fail
    refine RB.out.mono ?_
    rintro r w3 ⟨rfl,rfl⟩
    go_wp2_with fail
    refine (p_pickV (RR.out b) (n:=4) (by omega) (by omega)).mono ?_
    rintro r w3 ⟨rfl,rfl⟩
    have hj:=pkV_lt (R b) (n:=4) (by omega)
    obtain ⟨j,ej⟩:∃j,j=pkV (R b) 4:=⟨_,rfl⟩
    rw [← ej] at hj ⊢
    have EJ:=hide ej
    clear ej
    have hc:=LN.out j hj
    obtain ⟨nm,hnm⟩:∃nm,nm=lb (mNames.getD j []):=⟨_,rfl⟩
    rw [← hnm] at hc
    have hnl:nm.size≤30:=by rw [hnm]; exact name_len j hj
    have HN:Hid (bs nm ∈ mNames):=by rw [hnm,bs_lb]; exact getD_mem hj
    have NM:Hid (bs nm=mNames.getD (pkV (R b) 4) []):=hide (by rw [hnm,bs_lb,EJ.out])
    clear hnm LN RB
    go_wp2_with fail
    refine CH.out.mono ?_
    rintro r w2 ⟨⟨t,b',rfl,hT,hV⟩,k2⟩
    have htl:t.size≤500:=sz_of (by have:=hT.len; have:=hT.hi; omega)
    have FIN:Hid ((∃(s':ByteArray) (b2 i':Nat),Value.string (s++nm++t)=.string s'∧Value.int .i64 (b':Nat)=.int .i64 (b2:Nat)∧Value.int .i64 ((i:Int)+1)=.int .i64 (i':Nat)∧i'≤n∧b2≤62∧MkI 6 d (a+2) b2 i' (bs s')∧lpV (mdV R d) R true (n - i') i' b2 (bs s')=lpV (mdV R d) R true n 0 (a+2) []∧Keeps w w2)∧((n:Int) - ((i:Int)+1)).toNat<((n:Int) - (i:Int)).toNat):=⟨⟨_,b',i+1,rfl,rfl,by simp,by omega,hT.hi,by simp only [bs_append]; exact first_one (by omega) HM.out (hT.t1 HN.out),by rw [← LP.out,lp_th g1 g2 hV,if_neg hi0,← NM.out]; simp only [bs_append],KW.out.trans (FN.out.trans k2)⟩,by omega⟩
    clear k2 hT hV CH HM HI HH KW LP
    go_wp2
    exact FIN.out
   have RES:Hid (MdT deep a b (bs (⟨#[123]⟩++s++⟨#[125]⟩))∧mdV R deep a=(bs (⟨#[123]⟩++s++⟨#[125]⟩),b)):=by
    simp only [bs_append]
    rw [← hd]
    refine ⟨HM.out.thing (by omega),md_thing (by rw [← EK.out]; omega) (by rw [← EK.out]; omega) ?_⟩
    rw [← EN.out,← LP.out,lp_end hgo]
   have hcc:(¬(i:Int)<(n:Int))∨((i:Int)<(n:Int)∧¬(b:Int)<60):=by omega
   clear hgo HM HI HH LP
   rcases hcc with h1 | ⟨h1,h2⟩
   all_goals
    go_wp2
    go_ret2
    exact ⟨⟨_,b,rfl,RES.out⟩,KW.out⟩
 have hk6i:¬(6:Int)<(k:Int):=by omega
 clear hk6 hde
 go_wp2
 go_loopw [1,11,12] (fun av sv iv wr=>∃(s:ByteArray) (b i:Nat),sv=.string s∧av=.int .i64 (b:Nat)∧iv=.int .i64 (i:Nat)∧i≤n∧b≤62∧MkI 5 d (a+2) b i (bs s)∧lpV (mdV R d) R false (n - i) i b (bs s)=lpV (mdV R d) R false n 0 (a+2) []∧Keeps w wr) (fun _ _ iv _=>match iv with | .int _ m=>((n:Int) - m).toNat | _=>0)
 case atStart=>exact ⟨⟨#[]⟩,a+2,0,rfl,by simp,rfl,by omega,by omega,MkI.nil _ _ _,rfl,F1.out⟩
 case round =>
  obtain ⟨s,b,i,rfl,rfl,rfl,hin,hb,hM,hLP,hK⟩:=hrel
  have KW:=hide hK
  have hsl:s.size≤500:=sz_of (by have:=hM.2.1; omega)
  have HM:=hide hM
  have LP:=hide hLP
  clear hM hK F1 hLP
  have hwi:IntKind.i64.wrap ((i:Int)+1)=(i:Int)+1:=by rw [IntWalk.i64_in _ (by omega)]
  by_cases hgo:i<n∧b<60
  ·obtain ⟨g1,g2⟩:=hgo
   have g1i:(i:Int)<(n:Int):=by omega
   have g2i:(b:Int)<60:=by omega
   have CH:Hid (Calls Tryz.prog 33 #[lv,.int .i64 (b:Nat),.int .i64 ((deep:Int) - 1)] wr (MdQ R d b wr)):=by
    have:=HH.out d hd wr (HI.out.keep KW.out) b (by omega)
    rw [HD.out] at this
    exact this
   by_cases hi0:0<i
   ·have hii:(0:Int)<(i:Int):=by omega
    go_wp2_with fail
    refine CH.out.mono ?_
    rintro r w2 ⟨⟨t,b',rfl,hT,hV⟩,k2⟩
    have htl:t.size≤500:=sz_of (by have:=hT.len; have:=hT.hi; omega)
    have FIN:Hid ((∃(s':ByteArray) (b2 i':Nat),Value.string (s++⟨#[44]⟩++t)=.string s'∧Value.int .i64 (b':Nat)=.int .i64 (b2:Nat)∧Value.int .i64 ((i:Int)+1)=.int .i64 (i':Nat)∧i'≤n∧b2≤62∧MkI 5 d (a+2) b2 i' (bs s')∧lpV (mdV R d) R false (n - i') i' b2 (bs s')=lpV (mdV R d) R false n 0 (a+2) []∧Keeps w w2)∧((n:Int) - ((i:Int)+1)).toNat<((n:Int) - (i:Int)).toNat):=⟨⟨_,b',i+1,rfl,rfl,by simp,by omega,hT.hi,by simp only [bs_append]; exact hT.l2 HM.out (by omega),by rw [← LP.out,lp_li g1 g2 hV,if_pos hi0]; simp only [bs_append]; rfl,KW.out.trans (k2)⟩,by omega⟩
    clear k2 hT hV CH HM HI HH KW LP
    go_wp2
    exact FIN.out
   have hii:¬(0:Int)<(i:Int):=by omega
   go_wp2_with fail
   refine CH.out.mono ?_
   rintro r w2 ⟨⟨t,b',rfl,hT,hV⟩,k2⟩
   have htl:t.size≤500:=sz_of (by have:=hT.len; have:=hT.hi; omega)
   have FIN:Hid ((∃(s':ByteArray) (b2 i':Nat),Value.string (s++t)=.string s'∧Value.int .i64 (b':Nat)=.int .i64 (b2:Nat)∧Value.int .i64 ((i:Int)+1)=.int .i64 (i':Nat)∧i'≤n∧b2≤62∧MkI 5 d (a+2) b2 i' (bs s')∧lpV (mdV R d) R false (n - i') i' b2 (bs s')=lpV (mdV R d) R false n 0 (a+2) []∧Keeps w w2)∧((n:Int) - ((i:Int)+1)).toNat<((n:Int) - (i:Int)).toNat):=⟨⟨_,b',i+1,rfl,rfl,by simp,by omega,hT.hi,by simp only [bs_append]; exact first_one (by omega) HM.out (hT.l1),by rw [← LP.out,lp_li g1 g2 hV,if_neg hi0]; simp only [bs_append],KW.out.trans (k2)⟩,by omega⟩
   clear k2 hT hV CH HM HI HH KW LP
   go_wp2
   exact FIN.out
  have RES:Hid (MdT deep a b (bs (⟨#[91,32]⟩++s++⟨#[93]⟩))∧mdV R deep a=(bs (⟨#[91,32]⟩++s++⟨#[93]⟩),b)):=by
   simp only [bs_append]
   rw [← hd]
   refine ⟨HM.out.list (by omega),md_list (by rw [← EK.out]; omega) (by rw [← EK.out]; omega) ?_⟩
   rw [← EN.out,← LP.out,lp_end hgo]
  have hcc:(¬(i:Int)<(n:Int))∨((i:Int)<(n:Int)∧¬(b:Int)<60):=by omega
  clear hgo HM HI HH LP
  rcases hcc with h1 | ⟨h1,h2⟩
  all_goals
   go_wp2
   go_ret2
   exact ⟨⟨_,b,rfl,RES.out⟩,KW.out⟩
theorem p_madeV {lv:Value} {R:Nat→Int}:∀(deep:Nat),deep≤5→∀(w:World),IntsF w lv R→∀a,a≤60→Calls Tryz.prog 33 #[lv,.int .i64 (a:Nat),.int .i64 (deep:Nat)] w (MdQ R deep a w)
 | 0,h,_,hi,_,ha=>made_stepV h (fun d hd=>absurd hd (by omega)) hi ha
 | d+1,h,_,hi,_,ha=>made_stepV h (fun d' hd=>by
  obtain rfl:d=d':=by omega
  exact p_madeV d (by omega)) hi ha
set_option maxRecDepth 100000 in
theorem p_textV {w:World} {lv:Value} {R:Nat→Int} (hi:IntsF w lv R):Calls Tryz.prog 17 #[lv] w fun r w'=>(∃s:ByteArray,r=.returned (.string s)∧s.size≤500∧txErr (bs s)=0∧bs s=(mdV R 5 0).1)∧Keeps w w':=by
 have H:=hide (p_madeV 5 (by omega) w hi 0 (by omega))
 clear hi
 go_enter Tryz.func17,Tryz.ntmps17
 go_wp2_with fail
 refine H.out.mono ?_
 rintro r w1 ⟨⟨s,a',rfl,hT,hV⟩,k1⟩
 have FIN:=hide (And.intro (And.intro (sz_of (s:=s) (n:=500) (by have:=hT.len; have:=hT.hi; omega)) (And.intro (vs_text (hT.vs.up (by omega))) (show bs s=(mdV R 5 0).1 by rw [hV]))) k1)
 clear H hT k1 hV
 go_wp2
 go_ret
 exact ⟨⟨s,rfl,FIN.out.1⟩,FIN.out.2⟩
end Go.Proofs.YtcbadebjpogmlaaGreatDoor
