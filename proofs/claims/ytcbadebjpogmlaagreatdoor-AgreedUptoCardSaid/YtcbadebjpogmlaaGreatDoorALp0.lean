import Derived.Test.YtcbadebjpogmlaaGreatDoorACr
import Derived.Test.YtcbadebjpogmlaaGreatDoorCards
import Derived.WalkKit
import Derived.ProofKit
import Derived.OpenShut
import Derived.Lib.LaidTab
import Derived.Stop.LaidErr
import Derived.Shaped
import Derived.ChangeStays
import Derived.Deep.Onto
import Derived.ChangeMaps5
import Derived.Test.YtcbadebjpogmlaaGreatDoorADa
import Derived.ChangeSlices
import Derived.Test.YtcbadebjpogmlaaGreatDoorADc
import Derived.Test.YtcbadebjpogmlaaGreatDoorAPh
namespace Go.Proofs.YtcbadebjpogmlaaGreatDoor
open Go.ChangeShapes Go.WideShapes Go.ChangeAt Go.RowKit Go.ChangeMaps
theorem kSyntax:Tryz.prog.globalNamed "strconv.ErrSyntax"=some 6:=by kernel_rfl
theorem kSyntaxT:(Tryz.prog.globals[6]?).map (·.type)=some 180:=by kernel_rfl
theorem kErr:Tryz.prog.cellsOf 336=1:=by kernel_rfl
theorem kStr:Tryz.prog.cellsOf 9=1:=by kernel_rfl
theorem kStar: "*"++ "errors.errorString"= "*errors.errorString":=by decide
theorem kRow (u:TypeId) (h:Tryz.prog.typeName? 3 u=some "*errors.errorString"):u=334 :=
 typeName_ptr_named (nm:= "errors.errorString") (by rw [kStar]; kernel_rfl) (by kernel_rfl) (by decide) u (by rw [kStar]; exact h)
theorem kPowT:(Tryz.prog.globals[0]?).map (·.type)=some 277:=by kernel_rfl
theorem kPowC:Tryz.prog.cellsOf 277=20:=by kernel_rfl
theorem kU64C:Tryz.prog.cellsOf 258=1:=by kernel_rfl
theorem kPow:(Rows.laid_internal_strconv_uint64pow10:DataW Unit)=Lib.tabData .u64 Lib.pow10Tab:=by kernel_rfl
def lst:List (String×DataW Unit):=[("math/bits.deBruijn32tab",Rows.laid_math_bits_deBruijn32tab),("math/bits.deBruijn64tab",Rows.laid_math_bits_deBruijn64tab),("internal/strconv.uint64pow10",Rows.laid_internal_strconv_uint64pow10),("unicode/utf8.acceptRanges",Rows.laid_unicode_utf8_acceptRanges),("strconv.ErrRange",Rows.laid_strconv_ErrRange),("strconv.ErrSyntax",Rows.laid_strconv_ErrSyntax),("unicode/utf8.first",Rows.laid_unicode_utf8_first)]
theorem shMax:(((begin Tryz.prog (fun _ _=>0) default).world.heap[1]?).bind Obj.row?)=some (#[.int .i64 0],3):=by kernel_rfl
theorem shPow:((((begin Tryz.prog (fun _ _=>0) default).world.heap[0]?).bind Obj.row?).map (·.2))=some 277:=by kernel_rfl
theorem bdInt:Tryz.prog.buildable 3=true:=by kernel_rfl
theorem ctInt:Tryz.prog.cellTypes Tryz.prog.depth 3=some [3]:=by kernel_rfl
set_option maxRecDepth 100000 in
theorem en_of {W:World} (h:laidMetH Tryz.prog lst W) (hs:W.ShapedOpen Tryz.prog):EN W:=by
 have h2:laidMet Tryz.prog lst W:=h
 have hlt:∀{g:Nat} {v:Value},W.cell? ⟨g,0,none⟩=some v→g<W.heap.size:=fun {g v} hc=>World.block_lt_of_cell? W ⟨g,0,none⟩ hc
 obtain ⟨a,s,hv,_,_,_⟩:=laid_sentinel h2.tail.tail.tail.tail.tail kSyntax kSyntaxT Tryz.underlying180 kRow Tryz.underlying334 Tryz.underlying336 rfl rfl Tryz.underlying9 kErr kStr
 have hc:W.cell? ⟨6,0,none⟩=some (.iface 334 (.pointer (some a))):=by simpa using World.var?_cell kSyntax hv 0
 have h3:=h2.tail.tail
 rw [kPow] at h3
 have hT:=Lib.tabIs_of_head gPow kPowT Tryz.underlying277 Tryz.underlying258 kU64C kPowC h3
 obtain ⟨cs,hm,hz,hok⟩:=hs.1 1 _ _ (by decide +kernel) shMax
 obtain ⟨ts,t1,t2,t3⟩:=hok bdInt
 rw [ctInt] at t1
 obtain rfl:=Option.some.inj t1
 have hz1:cs.size=1:=hz
 obtain ⟨v,hv0⟩:∃v,cs[0]?=some v:=⟨cs[0],by simp [hz1]⟩
 obtain ⟨u,hu,hcell⟩:=t3 0 v hv0
 have hu:u=3:=by simpa using hu.symm
 subst hu
 unfold Cell.ok at hcell
 rw [Tryz.underlying3] at hcell
 have hmc:W.cell? ⟨1,0,none⟩=some v:=by
  have:Blk W 1 cs 3:=hm
  rw [this.cell 0]; exact hv0
 have hpl:0<W.heap.size:=by
  obtain ⟨y,hy,hy2⟩:=Option.map_eq_some_iff.1 shPow
  obtain ⟨cs2,hm2,_⟩:=hs.1 0 y.1 y.2 (by decide +kernel) hy
  exact lt_of_some hm2
 refine ⟨⟨⟨_,hc,Or.inr ⟨_,_,rfl⟩⟩,hlt hc⟩,hT,hpl,?_,hlt hmc⟩
 cases v with
 | int k m =>
  obtain ⟨rfl,_⟩:=hcell
  exact ⟨m,hmc⟩
 | _=>exact hcell.elim
section
variable {H:Type} {enc:TypeId×Value→H} {P:Program}
theorem post_keeps {f:Func} {s:ChangeSpec} {apart fresh handsOn again:Bool} {W W':World} {args:Array Value} {v:Value} {ds gs:List (DataW H)} {before pa pv:List MemPlace}
 (hW:DataW.Whole enc P f.params.toList s.vars apart W args.toList ds gs before)
 (hres:∀(b:Nat) (sp:Nat→Bool) (hd:Bool),DataW.TrodAll enc P W' b sp hd f.resultTypes.toList (v.resultList f.resultTypes.size) (s.fn H (ds++gs)).results [])
 (hargs:∀sp:Nat→Bool,(∀p ∈ before,sp p.block=true)→DataW.TrodAll enc P W' 0 sp true f.params.toList args.toList (s.fn H (ds++gs)).args pa)
 (hvars:∀sp:Nat→Bool,(∀p ∈ before,sp p.block=true)→DataW.TrodVars enc P W' sp s.vars (s.fn H (ds++gs)).vars pv)
 (hps:before=pa++pv) (hk:Keeps W W')
 (hok:∀(j:Nat) (t:TypeId) (r:Value),f.resultTypes[j]?=some t→(v.resultList f.resultTypes.size)[j]?=some r→Value.okWide P W' .any 0 t r) :
 s.post enc P f apart fresh handsOn again W args v W':=by
 have hlt:=hW.lt
 have hb:W.keptBut W' (· ∈ before):=(World.keptBut_refl W _).congr hk.os hk.output (fun i hi=>hk.block i hi id)
 refine ⟨ds,gs,before,[],pa,pv,hW,hres _ _ _,hargs _ (fun p hp=>by simpa using hlt p hp),hvars _ (fun p hp=>by simpa using hlt p hp),
  World.keptBut_mono (fun p hp=>⟨hp,Or.inr (List.mem_append.1 (hps▸hp))⟩) hb,fun _=>?_⟩
 obtain ⟨_,_,_,_,_,hz,hn⟩:=hW
 refine ⟨hok,_,_,([]++pa)++pv,⟨[]++pa,pv,trodAll_append (hargs _ (fun _ _=>rfl)) (hres _ _ _),hvars _ (fun _ _=>rfl),rfl,fun b off hp=>?_,fun ha=>?_⟩,fun p hp _=>?_⟩
 ·have hm:MemPlace.cell b off ∈ before:=by rw [hps]; simpa using hp
  rw [hk.frozen (p:=⟨b,off,none⟩) (hlt _ hm) id]
  exact hz b off hm
 ·have:=hn ha
  rw [hps] at this
  simpa using this
 rw [hps]; simpa using hp
end
end Go.Proofs.YtcbadebjpogmlaaGreatDoor
namespace Go.Proofs.YtcbadebjpogmlaaGreatDoor
open Go.ChangeShapes Go.WideShapes Go.ChangeAt Go.RowKit Go.ChangeMaps
theorem cellsInt:Tryz.prog.cellsOf 3=1:=by kernel_rfl
def IT (t:TypeId):Prop:=t=24∨t=3
theorem itKids:Kids Tryz.prog IT:=by
  have u0:=Tryz.underlying24
  have u2:=Tryz.underlying3
  refine ⟨?_,?_,?_,?_,?_⟩
  · rintro t e (rfl | rfl) h
    · rw [u0] at h; cases h
    rw [u2] at h; cases h
  · rintro t e (rfl | rfl) h
    · rw [u0] at h; cases h; exact Or.inr rfl
    rw [u2] at h; cases h
  · rintro t e n (rfl | rfl) h
    · rw [u0] at h; cases h
    rw [u2] at h; cases h
  · rintro t fs (rfl | rfl) h
    · rw [u0] at h; cases h
    rw [u2] at h; cases h
  rintro t k e (rfl | rfl) h
  · rw [u0] at h; cases h
  rw [u2] at h; cases h
theorem itPos {t e:TypeId} (h:IT t) (hu:Tryz.prog.underlying t=some (.slice e)):0<Tryz.prog.cellsOf e:=by
  rcases itKids.slice h hu with rfl | rfl
  · rw [show Tryz.prog.cellsOf 24=1 by kernel_rfl]; decide
  rw [cellsInt]; decide
theorem slice_shape {P:Program} {w:World} {base:Nat} {t e:TypeId} {v:Value} (ht:P.underlying t=some (.slice e)) (h:Value.okWide P w .any base t v) :
    v=.slice none 0 0∨∃a len cap,v=.slice (some a) len cap∧a.block<w.heap.size:=by
  simp only [Value.okWide,Cell.okWide,Cell.ok,ht] at h
  split at h
  all_goals first
    | (rename_i heq; cases heq; done)
    | exact Or.inl rfl
    | (obtain ⟨_,_,_,_,_,_,hs,_⟩:=h
       refine Or.inr ⟨_,_,_,rfl,?_⟩
       unfold World.shape? at hs
       split at hs
       · rename_i hh; exact lt_of_some hh
       cases hs)
    | exact absurd h id
theorem wf_range {n:Int} (h:(Lit.int .i64 n).wf=true):i64R n:=by
  have e1:IntKind.i64.min=-9223372036854775808:=by decide
  have e2:IntKind.i64.max=9223372036854775807:=by decide
  simp only [Lit.wf,Bool.and_eq_true,decide_eq_true_eq,e1,e2] at h
  unfold i64R
  omega
section
variable {H:Type} {enc:TypeId×Value→H} {W:World}
set_option maxRecDepth 100000 in
theorem ints_open {base:Nat} {v:Value} {d:DataW H} {pl:List MemPlace} (hok:Value.okWide Tryz.prog W .any base 24 v) (h:DataW.Trod enc Tryz.prog W 0 (fun _=>true) true 24 v d pl):IntsAt W v:=by
  obtain ⟨fuel,h⟩:=h
  rcases slice_shape Tryz.underlying24 hok with rfl | ⟨a,len,cap,rfl,hb⟩
  · exact ⟨none,0,0,rfl,by omega,fun y=>absurd y (by omega)⟩
  rcases open_ints Tryz.underlying24 Tryz.underlying3 cellsInt h with ⟨e,_⟩ | ⟨a',len',cap',zs,e,_,hl,hm,hz,_,hc,hw⟩
  · simp [Value.cells] at e
  simp only [Value.cells,List.cons.injEq,Value.slice.injEq,Option.some.injEq,and_true] at e
  obtain ⟨rfl,rfl,rfl⟩:=e
  simp only [if_true] at hz
  refine ⟨some a,len,cap,rfl,by unfold maxLen at hm; omega,fun _=>⟨a,rfl,fun i hi=>⟨_,hc i (by omega),wf_range (hw _ ?_)⟩⟩⟩
  have hlt:i<zs.length:=by omega
  rw [List.getD_eq_getElem?_getD,List.getElem?_eq_getElem hlt]
  exact List.getElem_mem hlt
set_option maxRecDepth 100000 in
theorem ints_stay {W':World} {sp:Nat→Bool} {v:Value} {d:DataW H} {pl:List MemPlace} (h:DataW.Trod enc Tryz.prog W 0 (fun _=>true) true 24 v d pl) (hlt:∀p ∈ pl,p.block<W.heap.size) (hk:Keeps W W') (hsp:∀p ∈ pl,sp p.block=true):DataW.Trod enc Tryz.prog W' 0 sp true 24 v d pl:=by
  obtain ⟨fuel,ht⟩:=h
  exact ⟨fuel,DataW.trod_stays (w':=W') (sp':=sp) itKids itPos (fun hh=>by cases hh) (Or.inl rfl) ht (fun p hp=>by
    have hb:=hlt p hp
    cases p with
    | cell b off=>exact hk.cell (p:=⟨b,off,none⟩) hb id
    | map b=>exact hk.block b hb id) (fun p hp=>hsp p hp)⟩
end
section
variable {H:Type}
end
end Go.Proofs.YtcbadebjpogmlaaGreatDoor
namespace Go.Proofs.YtcbadebjpogmlaaGreatDoor
open Go.RowKit Tr Go.Conc
theorem q_fed1 {w:World} {gq:Nat} {xs:List Sg} (h:QH w gq xs) (he:EN w) (s:ByteArray) (hs:s.size≤1100000) {lv:Value} (hi:IntsAt w lv) :
 Calls Tryz.prog 19 #[.pointer (some ⟨gq,0,none⟩),.string s,lv,.bool true] w fun r w'=>∃av,r=.returned (.tuple #[av,.int .i64 (txErr (bs s):Nat),.int .i64 (txAt (bs s):Nat)])∧w'.ownsRow 0 44 4 av (clT xs (bs s)).length ((clT xs (bs s)).flatMap tcl)∧(∀k,av.ownBlock=some k→w.heap.size≤k)∧Keeps w w':=by
 obtain ⟨b,tt,Dp,h1,h2,h3⟩:=h.ex
 exact p_fed1 h1 h2 h3 he h.len h.sel h.pos s hs hi
theorem own_keep {w w':World} {e:TypeId} {sz:Nat} {v:Value} {n:Nat} {cs:List Value} (h:w.ownsRow 0 e sz v n cs) (k:Keeps w w'):w'.ownsRow 0 e sz v n cs:=own_at' h (fun j hj=>k.block j (h.lt j hj).2 id)
theorem nd_get:∀(l:List Tv) (k i:Nat) (h:k<l.length),i<3→(l.flatMap ndCells)[k * 3+i]?=(ndCells l[k])[i]?
 | [],_,_,h,_=>absurd h (by simp)
 | a::l,0,i,_,hi=>by
  rw [List.flatMap_cons,Nat.zero_mul,Nat.zero_add,List.getElem?_append_left (by simpa [ndCells] using hi)]
  rfl
 | a::l,k+1,i,h,hi=>by
  have e:(ndCells a).length=3:=rfl
  rw [List.flatMap_cons,List.getElem?_append_right (by rw [e]; omega),e,show (k+1) * 3+i - 3=k * 3+i by omega]
  exact nd_get l k i (by simpa using h) hi
def ndOf (v:Tv):Nd:=(bsb v.d.path,((v.d.frm:Nat):Int),((v.d.to:Nat):Int))
def nG (l:List Tv) (i:Nat):Nd:=match l[i]? with
 | some v=>ndOf v
 | none=>(⟨#[]⟩,0,0)
theorem nG_at {l:List Tv} {i:Nat} (h:i<l.length):nG l i=ndOf l[i]:=by unfold nG; rw [List.getElem?_eq_getElem h]
theorem nds_at {w:World} {sv:Value} {l:List Tv} (h:w.ownsRow 0 42 3 sv l.length (l.flatMap ndCells)):∃ao c,sv=.slice ao l.length c∧NdsAt w ao l.length (nG l):=by
 obtain ⟨ao,c,rfl⟩:=own_slice h
 refine ⟨ao,c,rfl,fun hp=>?_⟩
 obtain ⟨g,c',e,_,_⟩:=h.form hp
 injection e with e1 _ _
 subst e1
 refine ⟨g,rfl,fun i hi=>?_⟩
 have G:∀j,j<3→w.cell? ⟨g,i * 3+j,none⟩=(ndCells l[i])[j]?:=fun j hj=>by rw [h.cellAt _ (by omega),nd_get l i j hi hj]
 rw [nG_at hi]
 exact ⟨G 0 (by omega),G 1 (by omega),G 2 (by omega)⟩
theorem mts_at {w:World} {av:Value} {l:List (Tv×Nat)} (h:w.ownsRow 0 44 4 av l.length (l.flatMap tcl)):∃ao c,av=.slice ao l.length c∧(0<l.length→∃g,ao=some ⟨g,0,none⟩∧MtAt w g l.length (mF l)):=by
 obtain ⟨ao,c,rfl⟩:=own_slice h
 refine ⟨ao,c,rfl,fun hp=>?_⟩
 obtain ⟨g,c',e,_,_⟩:=h.form hp
 injection e with e1 _ _
 subst e1
 exact ⟨g,rfl,mt_of (r:=[]) (by rw [List.append_nil]; exact fun j hj=>h.cellAt j hj)⟩
theorem mF_tp {a b:List (Tv×Nat)} (h:a.map tp=b.map tp):mF a=mF b:=by
 funext i
 have e:(a.map tp)[i]?=(b.map tp)[i]?:=by rw [h]
 rw [List.getElem?_map,List.getElem?_map] at e
 unfold mF
 cases ha:a[i]? with
 | none =>
  rw [ha] at e
  cases hb:b[i]? with
  | none=>rfl
  | some q=>rw [hb] at e; cases e
 | some p =>
  rw [ha] at e
  cases hb:b[i]? with
  | none=>rw [hb] at e; cases e
  | some q =>
   rw [hb] at e
   have e2:tp p=tp q:=Option.some.inj e
   unfold tp at e2
   injection e2 with e3 e4
   simp only [e3,e4]
theorem mF_at {l:List (Tv×Nat)} {i:Nat} (h:i<l.length):mF l i=(bsb l[i].1.d.path,((l[i].1.d.frm:Nat):Int),((l[i].1.d.to:Nat):Int),((l[i].2:Nat):Int)):=by unfold mF; rw [List.getElem?_eq_getElem h]
theorem sumF_at (l:List (Tv×Nat)):∀j,j≤l.length→sumF (mF l) j=(((l.take j).map (·.2)).sum:Nat)
 | 0,_=>by simp [sumF]
 | j+1,h=>by
  have e:l.take (j+1)=l.take j++[l[j]]:=List.take_succ_eq_append_getElem (by omega)
  rw [sumF,sumF_at l j (by omega),mF_at (by omega),e,List.map_append,List.sum_append]
  simp
theorem cntF_at {t:Tv} (h:Tree t) {N:List Tv} (hN:∀u ∈ N,u ∈ allT 10 t) {v:Tv} (hv:v ∈ allT 10 t):∀j,j≤N.length→cntF (nG N) (ndOf v) j=(N.take j).countP (fun u=>fr u == fr v)
 | 0,_=>by simp [cntF]
 | j+1,hj=>by
  have e:N.take (j+1)=N.take j++[N[j]]:=List.take_succ_eq_append_getElem (by omega)
  rw [cntF,cntF_at h hN hv j (by omega),nG_at (by omega),e,List.countP_append]
  congr 1
  by_cases hf:fr N[j]=fr v
  ·have:N[j]=v:=asc_inj h.a (hN _ (List.getElem_mem (by omega))) hv hf
   rw [this,ndEq_refl]
   simp
  have:ndEq (ndOf N[j]) (ndOf v)=false:=ndEq_ne (by unfold ndOf; simp only; unfold fr at hf; omega)
  rw [this]
  simp [hf]
theorem ag_T {t:Tv} (hT:Tree t) {N:List Tv} {T:List (Tv×Nat)} (O:CnO t N t 10 T) (sub:∀u ∈ N,u ∈ allT 10 t) (S:(T.map (·.2)).sum=N.length) (D:∀k i (hk:k<i) (hi:i<T.length),fr (T[k]'(by omega)).1≠fr T[i].1):CntOk T.length N.length (mF T) (nG N):=by
 refine ⟨fun i hi=>?_,fun k i hk hi=>?_,?_⟩
 ·rw [mF_at hi]
  obtain ⟨o1,o2,o3⟩:=O.m T[i] (List.getElem_mem hi)
  have c:cntF (nG N) (mNd (bsb T[i].1.d.path,((T[i].1.d.frm:Nat):Int),((T[i].1.d.to:Nat):Int),((T[i].2:Nat):Int))) N.length=occ T[i].1 N:=by
   have:=cntF_at hT sub o1 N.length (Nat.le_refl _)
   rw [List.take_length] at this
   exact this
  rw [c]
  exact ⟨by show (1:Int)≤((T[i].2:Nat):Int); omega,by show ((T[i].2:Nat):Int)=_; rw [o2]⟩
 ·rw [mF_at (show k<T.length by omega),mF_at hi]
  refine ndEq_ne ?_
  have:=D k i hk hi
  unfold mNd fr at *
  simp only
  omega
 rw [sumF_at T T.length (Nat.le_refl _),List.take_length,S]
theorem ag_cnt {xs:List Sg} (hx:∀g ∈ xs,0<g.l.length) (hso:SrtOk xs) (hsel:selN xs≤10) {p:List UInt8} (hp:p.length≤4000000) (h0:txErr p=0) {t:Tv} (ht:txVal p=some t):CntOk (clT xs p).length (nodesS xs [t]).length (mF (clT xs p)) (nG (nodesS xs [t]))∧(nodesS xs [t]).length≤2100000000000:=by
 obtain ⟨hT,hB⟩:=tx_tree hp h0 ht
 have e0:clT xs p=(fRun xs fInit (txTs p)).told:=cl_whole h0
 have e1:=told_text hx hso hp h0 ht
 rw [← e0] at e1
 have eF:=mF_tp e1
 have eL:(clT xs p).length=(cntT xs 10 t (tlOut xs.length)).length:=by have:=congrArg List.length e1; simpa using this
 obtain ⟨O,sub,S,D⟩:=cnt_root hT xs
 rw [eF,eL]
 refine ⟨ag_T hT O sub S D,?_⟩
 have:=nodes_len hT (B:=4000000) hB xs hx hsel (Nat.le_refl _)
 rw [List.take_length] at this
 omega
theorem clT_pos (xs:List Sg) (p:List UInt8):∀q ∈ clT xs p,0<q.2:=fun q hq=>by
 unfold clT stT clN at hq
 rcases List.mem_append.1 hq with y | y
 ·exact fRun_pos xs _ (fun _ h=>by cases h) q y
 split at y
 ·exact fRun_pos xs _ (fun _ h=>by cases h) q y
 cases y
end Go.Proofs.YtcbadebjpogmlaaGreatDoor
namespace Go.Proofs.YtcbadebjpogmlaaGreatDoor
open Go.RowKit Tr Go.Conc
theorem ag_counted {w:World} {av sv:Value} {T:List (Tv×Nat)} {N:List Tv} (ha:w.ownsRow 0 44 4 av T.length (T.flatMap tcl)) (hs:w.ownsRow 0 42 3 sv N.length (N.flatMap ndCells)) (hm:T.length≤4000000) (hn:N.length≤2100000000000) (hC:CntOk T.length N.length (mF T) (nG N)):Calls Tryz.prog 20 #[av,sv] w fun r w'=>r=.returned (.bool true)∧Keeps w w':=by
 obtain ⟨ao,c,rfl,hA⟩:=mts_at ha
 obtain ⟨bo,d,rfl,hB⟩:=nds_at hs
 exact p_counted hm hn hA hB hC
theorem ag_counted0 {w:World} {av:Value} {T:List (Tv×Nat)} (ha:w.ownsRow 0 44 4 av T.length (T.flatMap tcl)) (hm:T.length≤4000000) (hp:∀q ∈ T,0<q.2):Calls Tryz.prog 20 #[av,.slice none 0 0] w fun r w'=>RB r∧Keeps w w':=by
 obtain ⟨ao,c,rfl,hA⟩:=mts_at ha
 refine p_counted0 (F:=mF T) hm hA (fun y=>?_)
 rw [mF_at y]
 have:=hp T[0] (List.getElem_mem y)
 show (1:Int)≤((T[0].2:Nat):Int)
 omega
theorem ag_same {w:World} {av bv:Value} {T:List (Tv×Nat)} (ha:w.ownsRow 0 44 4 av T.length (T.flatMap tcl)) (hb:w.ownsRow 0 44 4 bv T.length (T.flatMap tcl)) (hm:T.length≤4000000):Calls Tryz.prog 21 #[av,bv] w fun r w'=>r=.returned (.bool true)∧Keeps w w':=by
 obtain ⟨ao,c,rfl,hA⟩:=mts_at ha
 obtain ⟨bo,d,rfl,hB⟩:=mts_at hb
 refine p_same (F:=mF T) (by omega) (fun y=>?_)
 obtain ⟨ga,rfl,h1⟩:=hA y
 obtain ⟨gb,rfl,h2⟩:=hB y
 exact ⟨ga,gb,rfl,rfl,h1,h2⟩
theorem tx_at0 {p:List UInt8} (h:txErr p=0):txAt p=0:=by
 unfold txErr at h
 unfold txAt
 by_cases x:(sRun sInit p).e≠0
 ·rw [if_pos x] at h; exact absurd h x
 rw [if_neg x] at h ⊢
 by_cases y:sWhole (sRun sInit p).z=true
 ·rw [if_pos y]
 rw [if_neg y] at h; cases h
theorem cl_len {xs:List Sg} (hx:∀g ∈ xs,0<g.l.length) {p:List UInt8} (hp:p.length≤4000000):(clT xs p).length≤4000000:=by
 have:=clT_len xs hx p hp
 unfold clT
 rw [List.length_append]; exact this
set_option maxHeartbeats 8000000 in
set_option maxRecDepth 100000 in
theorem p_agreed {w:World} (he:EN w) {q wd cu ot:Value} (hq:IntsAt w q) (hw:IntsAt w wd) (hc:IntsAt w cu) (ho:IntsAt w ot) (s:ByteArray) (hs:s.size≤1050000):Calls Tryz.prog 5 #[q,wd,.string s,cu,ot] w fun r w'=>r=.returned (.bool true)∧Keeps w w':=by
 have HE:=hide he
 have HQ:=hide hq
 have HW:=hide hw
 have HC:=hide hc
 have HO:=hide ho
 clear he hq hw hc ho
 go_enter Tryz.func5,Tryz.ntmps5
 go_wp2_with fail
 refine (p_query HQ.out).mono ?_
 rintro r w1 ⟨⟨qs,rfl,z1,z2,z3⟩,k1⟩
 have PC:=hide (p_compiled (HE.out.keep k1) z1 z2 z3)
 have K1:=hide k1
 clear k1 z1 z2 z3 HQ
 go_wp2_with fail
 refine PC.out.mono ?_
 rintro r w2 ⟨gq,rfl,hQ,k2⟩
 have SO:=hide (query_srt (bs qs))
 generalize pQuery (bs qs)=xs at *
 have QQ:=hide hQ
 have K2:=hide (K1.out.trans k2)
 have HX:=hide (And.intro hQ.pos hQ.sel)
 clear hQ k2 PC K1
 go_wp2_with fail
 refine (p_text (HW.out.keep K2.out)).mono ?_
 rintro r w3 ⟨⟨ts,rfl,z1,z2⟩,k3⟩
 have K3:=hide (K2.out.trans k3)
 have Q3:=hide (QQ.out.keep k3)
 have Z2:=hide z2
 clear k3 QQ K2 HW z2
 go_wp2_with fail
 refine (q_select Q3.out (HE.out.keep K3.out) ts (by omega)).mono ?_
 rintro r w4 ⟨k4,hS | hS⟩
 ·exact absurd Z2.out hS.1
 obtain ⟨_,t,sv,ht,rfl,hR⟩:=hS
 have R4:=hide (own_zero' hR)
 have K4:=hide (K3.out.trans k4)
 have Q4:=hide (Q3.out.keep k4)
 have CN:=hide (ag_cnt HX.out.1 SO.out HX.out.2 (by rw [bs_len]; omega) Z2.out ht)
 have F1:=q_fed1 (Q3.out.keep k4) (HE.out.keep (K3.out.trans k4)) ts (by omega) (HC.out.keep (K3.out.trans k4))
 rw [Z2.out] at F1
 have FF:=hide F1
 clear k4 hR ht F1 K3 Q3
 go_wp2_with fail
 refine FF.out.mono ?_
 rintro r w5 ⟨av,rfl,a1,_,k5⟩
 have CC:=hide (ag_counted a1 (own_keep R4.out k5) (cl_len HX.out.1 (by rw [bs_len]; omega)) CN.out.2 CN.out.1)
 have K5:=hide (K4.out.trans k5)
 have Q5:=hide (Q4.out.keep k5)
 generalize txAt (bs ts)=at1 at *
 clear a1 k5 CN FF R4 K4 Q4
 go_wp2_with fail
 refine CC.out.mono ?_
 rintro r w6 ⟨rfl,k6⟩
 have K6:=hide (K5.out.trans k6)
 have Q6:=hide (Q5.out.keep k6)
 clear k6 CC K5 Q5
 go_wp2_with fail
 refine (q_select Q6.out (HE.out.keep K6.out) s (by omega)).mono ?_
 rintro r w7 ⟨k7,hS⟩
 have K7:=hide (K6.out.trans k7)
 have Q7:=hide (Q6.out.keep k7)
 have LEN:=hide (cl_len (xs:=xs) HX.out.1 (p:=bs s) (by rw [bs_len]; omega))
 have F7:=hide (q_fed1 Q7.out (HE.out.keep K7.out) s (by omega) (HC.out.keep K7.out))
 have F8:Hid (∀w8,Keeps w7 w8→Calls Tryz.prog 19 #[.pointer (some ⟨gq,0,none⟩),.string s,ot,.bool true] w8 fun r w'=>∃av,r=.returned (.tuple #[av,.int .i64 (txErr (bs s):Nat),.int .i64 (txAt (bs s):Nat)])∧w'.ownsRow 0 44 4 av (clT xs (bs s)).length ((clT xs (bs s)).flatMap tcl)∧(∀k,av.ownBlock=some k→w8.heap.size≤k)∧Keeps w8 w'):=fun w8 k8=>q_fed1 (Q7.out.keep k8) ((HE.out.keep K7.out).keep k8) s (by omega) ((HO.out.keep K7.out).keep k8)
 rcases hS with ⟨hne,rfl⟩ | ⟨h0,t2,sv2,ht2,rfl,hR2⟩
 ·have hne':¬((txErr (bs s):Nat):Int)=0:=by omega
  have PO:=hide (clT_pos xs (bs s))
  generalize txErr (bs s)=te at *
  generalize txAt (bs s)=ta at *
  clear hne k7 HE HC HO HX SO Q7 Q6 Z2
  go_wp2_with fail
  refine F7.out.mono ?_
  rintro r w8 ⟨bv,rfl,b1,_,k8⟩
  have G8:=hide (F8.out w8 k8)
  have B1:=hide b1
  have K8:=hide (K7.out.trans k8)
  clear b1 k8 F7 F8
  go_wp2_with fail
  refine G8.out.mono ?_
  rintro r w9 ⟨cv,rfl,c1,_,k9⟩
  have B9:=hide (own_keep B1.out k9)
  have SM:=hide (ag_same B9.out c1 LEN.out)
  have K9:=hide (K8.out.trans k9)
  clear c1 k9 G8 B1
  go_wp2_with fail
  refine SM.out.mono ?_
  rintro r wa ⟨rfl,ka⟩
  have CC:=hide (ag_counted0 (own_keep B9.out ka) LEN.out PO.out)
  have KA:=hide (K9.out.trans ka)
  clear ka SM B9
  go_wp2_with fail
  refine CC.out.mono ?_
  rintro r wb ⟨⟨bb,rfl⟩,kb⟩
  have KB:=hide (KA.out.trans kb)
  clear kb CC
  go_wp2
  go_ret
  exact ⟨rfl,KB.out⟩
 have hat:=tx_at0 h0
 have CN:=hide (ag_cnt HX.out.1 SO.out HX.out.2 (by rw [bs_len]; omega) h0 ht2)
 have R7:=hide (own_zero' hR2)
 rw [h0,hat] at F7 F8
 clear hat h0 ht2 hR2 k7 HE HC HO HX SO Q7 Q6 Z2
 go_wp2_with fail
 refine F7.out.mono ?_
 rintro r w8 ⟨bv,rfl,b1,_,k8⟩
 have G8:=hide (F8.out w8 k8)
 have B1:=hide b1
 have K8:=hide (K7.out.trans k8)
 have R8:=hide (own_keep R7.out k8)
 clear b1 k8 F7 F8 R7
 go_wp2_with fail
 refine G8.out.mono ?_
 rintro r w9 ⟨cv,rfl,c1,_,k9⟩
 have B9:=hide (own_keep B1.out k9)
 have R9:=hide (own_keep R8.out k9)
 have SM:=hide (ag_same B9.out c1 LEN.out)
 have K9:=hide (K8.out.trans k9)
 clear c1 k9 G8 B1 R8
 go_wp2_with fail
 refine SM.out.mono ?_
 rintro r wa ⟨rfl,ka⟩
 have CC:=hide (ag_counted (own_keep B9.out ka) (own_keep R9.out ka) LEN.out CN.out.2 CN.out.1)
 have KA:=hide (K9.out.trans ka)
 clear ka SM B9 R9 CN
 go_wp2_with fail
 refine CC.out.mono ?_
 rintro r wb ⟨rfl,kb⟩
 have KB:=hide (KA.out.trans kb)
 clear kb CC
 go_wp2
 go_ret
 exact ⟨rfl,KB.out⟩
end Go.Proofs.YtcbadebjpogmlaaGreatDoor
namespace Go.Proofs.YtcbadebjpogmlaaGreatDoor
open Go.ChangeShapes Go.WideShapes Go.ChangeAt Go.RowKit Go.ChangeMaps
section
variable {H:Type}
set_option maxRecDepth 100000 in
theorem agreed_contract (enc:TypeId×Value→H) (W:World) (base:Nat) (args:Array Value) (ds gs:List (DataW H)) (before:List MemPlace) (hX:EN W)
 (hval:∀(j:Nat) t v,Tryz.f5.params[j]?=some t→args[j]?=some v→Value.okWide Tryz.prog W .any base t v)
 (hW:DataW.Whole enc Tryz.prog Tryz.f5.params.toList Rows.agreedSpec.vars false W args.toList ds gs before)
 (hk:Rows.uptoSmall H (ds++gs)=true) :
 Calls Tryz.prog 5 args W fun e W'=>∃v,e=.returned v∧Rows.agreedSpec.post enc Tryz.prog Tryz.f5 false true false false W args v W':=by
 have hW':=hW
 have hlt:=hW.lt
 obtain ⟨p,q,hA0,hV,rfl,hfz,hnd⟩:=hW
 have hA:DataW.TrodAll enc Tryz.prog W 0 (fun _=>true) true Tryz.f5.params.toList args.toList ds p:=hA0
 rw [Tryz.params5] at hA hval
 obtain ⟨v0,vs0,d0,ds0,p0,q0,hargs,rfl,rfl,h0,r0⟩:=trodAll_cons hA
 obtain ⟨v1,vs1,d1,ds1,p1,q1,rfl,rfl,rfl,h1,r1⟩:=trodAll_cons r0
 obtain ⟨v2,vs2,d2,ds2,p2,q2,rfl,rfl,rfl,h2,r2⟩:=trodAll_cons r1
 obtain ⟨v3,vs3,d3,ds3,p3,q3,rfl,rfl,rfl,h3,r3⟩:=trodAll_cons r2
 obtain ⟨v4,vs4,d4,ds4,p4,q4,rfl,rfl,rfl,h4,r4⟩:=trodAll_cons r3
 obtain ⟨rfl,rfl,rfl⟩:=trodAll_nil r4
 obtain rfl:args=#[v0,v1,v2,v3,v4]:=by cases args; simp_all
 obtain ⟨rfl,rfl⟩:=trodVars_none hV
 obtain ⟨s,rfl,rfl,rfl,hs⟩:=open_string Tryz.underlying9 (hval 2 9 v2 rfl rfl) h2
 have i0:=ints_open (hval 0 24 v0 rfl rfl) h0
 have i1:=ints_open (hval 1 24 v1 rfl rfl) h1
 have i3:=ints_open (hval 3 24 v3 rfl rfl) h3
 have i4:=ints_open (hval 4 24 v4 rfl rfl) h4
 clear hA0 hA
 simp only [List.append_nil,List.nil_append] at hW' hk hlt
 have hb:=of_decide_eq_true hk
 simp only [Rows.uptoBulkAll,Rows.uptoBulk] at hb
 have l1:s.data.toList.length=s.size:=rfl
 refine (p_agreed hX i0 i1 i3 i4 s (by omega)).mono ?_
 rintro e W' ⟨rfl,hk'⟩
 have m0:∀p ∈ p0,p ∈ p0++(p1++(p3++p4)):=fun p hp=>List.mem_append_left _ hp
 have m1:∀p ∈ p1,p ∈ p0++(p1++(p3++p4)):=fun p hp=>List.mem_append_right _ (List.mem_append_left _ hp)
 have m3:∀p ∈ p3,p ∈ p0++(p1++(p3++p4)):=fun p hp=>List.mem_append_right _ (List.mem_append_right _ (List.mem_append_left _ hp))
 have m4:∀p ∈ p4,p ∈ p0++(p1++(p3++p4)):=fun p hp=>List.mem_append_right _ (List.mem_append_right _ (List.mem_append_right _ hp))
 refine ⟨_,rfl,post_keeps (pa:=p0++(p1++(p3++p4))) (pv:=[]) hW' (fun _ _ _=>trodAll_cons_mk (shut_bool Tryz.underlying4 _) trodAll_mk0) (fun sp hsp=>?_) (fun _ _=>rfl) (by simp) hk' (ok_one (by kernel_rfl) rfl (okWide_bool_mk Tryz.underlying4 _))⟩
 have S:=trodAll_cons_mk (ints_stay (sp:=sp) h0 (fun p hp=>hlt p (m0 p hp)) hk' (fun p hp=>hsp p (m0 p hp))) (trodAll_cons_mk (ints_stay (sp:=sp) h1 (fun p hp=>hlt p (m1 p hp)) hk' (fun p hp=>hsp p (m1 p hp))) (trodAll_cons_mk (shut_string Tryz.underlying9 hs) (trodAll_cons_mk (ints_stay (sp:=sp) h3 (fun p hp=>hlt p (m3 p hp)) hk' (fun p hp=>hsp p (m3 p hp))) (trodAll_cons_mk (ints_stay (sp:=sp) h4 (fun p hp=>hlt p (m4 p hp)) hk' (fun p hp=>hsp p (m4 p hp))) trodAll_mk0))))
 rw [Tryz.params5]
 simp only [List.append_nil,List.nil_append] at S
 exact S
end
end Go.Proofs.YtcbadebjpogmlaaGreatDoor
