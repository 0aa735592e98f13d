import Derived.Test.YtcbadebjpogmlaaGreatDoorSBase
import Derived.Test.YtcbadebjpogmlaaGreatDoorSCy
import Derived.Test.YtcbadebjpogmlaaGreatDoorECm
import Derived.ChangeSlices
import Derived.Test.YtcbadebjpogmlaaGreatDoorECt
import Derived.Deep.RegionHeldLaw
import Derived.Test.YtcbadebjpogmlaaGreatDoorEAf
import Derived.Test.YtcbadebjpogmlaaGreatDoorEFb
namespace Go.Proofs.YtcbadebjpogmlaaGreatDoor
open Go.RowKit Tr Go.Conc
theorem tcl_get:∀(l:List (Tv×Nat)) (k i:Nat) (h:k<l.length),i<4→(l.flatMap tcl)[k * 4+i]?=(tcl l[k])[i]?
 | [],_,_,h,_=>absurd h (by simp)
 | a::l,0,i,_,hi=>by
  rw [List.flatMap_cons,Nat.zero_mul,Nat.zero_add,List.getElem?_append_left (by simpa [tcl,mtCells] using hi)]
  rfl
 | a::l,k+1,i,h,hi=>by
  have e:(tcl a).length=4:=rfl
  rw [List.flatMap_cons,List.getElem?_append_right (by rw [e]; omega),e,show (k+1) * 4+i - 4=k * 4+i by omega]
  exact tcl_get l k i (by simpa using h) hi
def mF (l:List (Tv×Nat)) (i:Nat):ByteArray×Int×Int×Int:=match l[i]? with
 | some p=>(bsb p.1.d.path,(p.1.d.frm:Nat),(p.1.d.to:Nat),(p.2:Nat))
 | none=>(⟨#[]⟩,0,0,0)
theorem mt_of {w:World} {g:Nat} {l r:List (Tv×Nat)} (h:∀j,j<(l++r).length * 4→w.cell? ⟨g,j,none⟩=((l++r).flatMap tcl)[j]?):MtAt w g l.length (mF l):=fun i hi=>by
 have hl:i<(l++r).length:=by rw [List.length_append]; omega
 have e:(l++r)[i]=l[i]:=List.getElem_append_left hi
 have em:mF l i=(bsb l[i].1.d.path,((l[i].1.d.frm:Nat):Int),((l[i].1.d.to:Nat):Int),((l[i].2:Nat):Int)):=by unfold mF; rw [List.getElem?_eq_getElem hi]
 have G:∀j,j<4→w.cell? ⟨g,i * 4+j,none⟩=(tcl l[i])[j]?:=fun j hj=>by rw [h _ (by omega),tcl_get _ i j hl hj,e]
 rw [em]
 exact ⟨G 0 (by omega),G 1 (by omega),G 2 (by omega),G 3 (by omega)⟩
end Go.Proofs.YtcbadebjpogmlaaGreatDoor
namespace Go.Proofs.YtcbadebjpogmlaaGreatDoor
open Go.ChangeShapes Go.WideShapes Go.ChangeAt Go.RowKit Go.ChangeMaps
theorem cellsInt:Tryz.prog.cellsOf 3=1:=by kernel_rfl
def IT (t:TypeId):Prop:=t=24∨t=3
theorem itKids:Kids Tryz.prog IT:=by
  have u0:=Tryz.underlying24
  have u2:=Tryz.underlying3
  refine ⟨?_,?_,?_,?_,?_⟩
  · rintro t e (rfl | rfl) h
    · rw [u0] at h; cases h
    rw [u2] at h; cases h
  · rintro t e (rfl | rfl) h
    · rw [u0] at h; cases h; exact Or.inr rfl
    rw [u2] at h; cases h
  · rintro t e n (rfl | rfl) h
    · rw [u0] at h; cases h
    rw [u2] at h; cases h
  · rintro t fs (rfl | rfl) h
    · rw [u0] at h; cases h
    rw [u2] at h; cases h
  rintro t k e (rfl | rfl) h
  · rw [u0] at h; cases h
  rw [u2] at h; cases h
theorem itPos {t e:TypeId} (h:IT t) (hu:Tryz.prog.underlying t=some (.slice e)):0<Tryz.prog.cellsOf e:=by
  rcases itKids.slice h hu with rfl | rfl
  · rw [show Tryz.prog.cellsOf 24=1 by kernel_rfl]; decide
  rw [cellsInt]; decide
theorem slice_shape {P:Program} {w:World} {base:Nat} {t e:TypeId} {v:Value} (ht:P.underlying t=some (.slice e)) (h:Value.okWide P w .any base t v) :
    v=.slice none 0 0∨∃a len cap,v=.slice (some a) len cap∧a.block<w.heap.size:=by
  simp only [Value.okWide,Cell.okWide,Cell.ok,ht] at h
  split at h
  all_goals first
    | (rename_i heq; cases heq; done)
    | exact Or.inl rfl
    | (obtain ⟨_,_,_,_,_,_,hs,_⟩:=h
       refine Or.inr ⟨_,_,_,rfl,?_⟩
       unfold World.shape? at hs
       split at hs
       · rename_i hh; exact lt_of_some hh
       cases hs)
    | exact absurd h id
theorem wf_range {n:Int} (h:(Lit.int .i64 n).wf=true):i64R n:=by
  have e1:IntKind.i64.min=-9223372036854775808:=by decide
  have e2:IntKind.i64.max=9223372036854775807:=by decide
  simp only [Lit.wf,Bool.and_eq_true,decide_eq_true_eq,e1,e2] at h
  unfold i64R
  omega
section
variable {H:Type} {enc:TypeId×Value→H} {W:World}
set_option maxRecDepth 100000 in
theorem ints_open {base:Nat} {v:Value} {d:DataW H} {pl:List MemPlace} (hok:Value.okWide Tryz.prog W .any base 24 v) (h:DataW.Trod enc Tryz.prog W 0 (fun _=>true) true 24 v d pl):IntsAt W v:=by
  obtain ⟨fuel,h⟩:=h
  rcases slice_shape Tryz.underlying24 hok with rfl | ⟨a,len,cap,rfl,hb⟩
  · exact ⟨none,0,0,rfl,by omega,fun y=>absurd y (by omega)⟩
  rcases open_ints Tryz.underlying24 Tryz.underlying3 cellsInt h with ⟨e,_⟩ | ⟨a',len',cap',zs,e,_,hl,hm,hz,_,hc,hw⟩
  · simp [Value.cells] at e
  simp only [Value.cells,List.cons.injEq,Value.slice.injEq,Option.some.injEq,and_true] at e
  obtain ⟨rfl,rfl,rfl⟩:=e
  simp only [if_true] at hz
  refine ⟨some a,len,cap,rfl,by unfold maxLen at hm; omega,fun _=>⟨a,rfl,fun i hi=>⟨_,hc i (by omega),wf_range (hw _ ?_)⟩⟩⟩
  have hlt:i<zs.length:=by omega
  rw [List.getD_eq_getElem?_getD,List.getElem?_eq_getElem hlt]
  exact List.getElem_mem hlt
set_option maxRecDepth 100000 in
theorem ints_stay {W':World} {sp:Nat→Bool} {v:Value} {d:DataW H} {pl:List MemPlace} (h:DataW.Trod enc Tryz.prog W 0 (fun _=>true) true 24 v d pl) (hlt:∀p ∈ pl,p.block<W.heap.size) (hk:Keeps W W') (hsp:∀p ∈ pl,sp p.block=true):DataW.Trod enc Tryz.prog W' 0 sp true 24 v d pl:=by
  obtain ⟨fuel,ht⟩:=h
  exact ⟨fuel,DataW.trod_stays (w':=W') (sp':=sp) itKids itPos (fun hh=>by cases hh) (Or.inl rfl) ht (fun p hp=>by
    have hb:=hlt p hp
    cases p with
    | cell b off=>exact hk.cell (p:=⟨b,off,none⟩) hb id
    | map b=>exact hk.block b hb id) (fun p hp=>hsp p hp)⟩
end
section
variable {H:Type}
end
end Go.Proofs.YtcbadebjpogmlaaGreatDoor
namespace Go.Proofs.YtcbadebjpogmlaaGreatDoor
open Go.RowKit Tr Go.Conc
def clN (xs:List Sg) (p:List UInt8):List (Tv×Nat):=if stE p=0 then (fRun xs (noT (fRun xs fInit (sRun sInit p).ts)) (if sWhole (sRun sInit p).z=true then sEnd (sRun sInit p).z else [])).told else []
theorem cl_whole {xs:List Sg} {p:List UInt8} (h:txErr p=0):stT xs p++clN xs p=(fRun xs fInit (txTs p)).told:=by
 have he:stE p=0:=by
  unfold txErr at h
  unfold stE
  by_cases x:(sRun sInit p).e≠0
  ·rw [if_pos x] at h; exact h
  simpa using x
 have hw:sWhole (sRun sInit p).z=true:=by
  unfold txErr at h
  rw [if_neg (by simpa [stE] using he)] at h
  by_cases x:sWhole (sRun sInit p).z=true
  ·exact x
  rw [if_neg x] at h; cases h
 unfold clN stT txTs
 rw [if_pos he,if_pos hw,fRun_app]
 exact (fRun_no xs _ _).1.symm
theorem tx_bad {p:List UInt8} (h:stE p≠0):txErr p=stE p∧txAt p=stAt p:=by
 unfold txErr txAt stAt
 unfold stE at h
 rw [if_pos h,if_pos h]
 exact ⟨rfl,by rw [if_neg (by simpa [stE] using h)]⟩
end Go.Proofs.YtcbadebjpogmlaaGreatDoor
namespace Go.Proofs.YtcbadebjpogmlaaGreatDoor
open Go.RowKit Tr Go.Conc
def clT (xs:List Sg) (p:List UInt8):List (Tv×Nat):=stT xs p++clN xs p
end Go.Proofs.YtcbadebjpogmlaaGreatDoor
namespace Go.Proofs.YtcbadebjpogmlaaGreatDoor
open Go.RowKit Tr
abbrev Nd:=ByteArray×Int×Int
def ndEq (n m:Nd):Bool:=if n.1.toList=m.1.toList then if n.2.1=m.2.1 then if n.2.2=m.2.2 then true else false else false else false
theorem ndEq_refl (n:Nd):ndEq n n=true:=by simp [ndEq]
theorem stoodN:Tryz.prog.stoodInHeld 42=false:=by kernel_rfl
theorem eqlNode (w:World) (p p':ByteArray) (a b a' b':Int):(binOp .eql 42 (.agg #[.string p,.int .i64 a,.int .i64 b]) (.agg #[.string p',.int .i64 a',.int .i64 b'])).run Tryz.prog w=.ok (.bool (ndEq (p,a,b) (p',a',b'))) w:=by
 have hs:=stoodN
 unfold ndEq
 go_simp
 repeat' split
 all_goals simp_all
def NdAt (w:World) (g n:Nat) (F:Nat→Nd):Prop:=∀i,i<n→w.cell? ⟨g,i * 3,none⟩=some (.string (F i).1)∧w.cell? ⟨g,i * 3+1,none⟩=some (.int .i64 (F i).2.1)∧w.cell? ⟨g,i * 3+2,none⟩=some (.int .i64 (F i).2.2)
theorem NdAt.keep {w w':World} {g n:Nat} {F:Nat→Nd} (h:NdAt w g n F) (k:Keeps w w'):NdAt w' g n F:=fun i hi=>by
 obtain ⟨h0,h1,h2⟩:=h i hi
 have hl:g<w.heap.size:=World.block_lt_of_cell? w ⟨g,i * 3,none⟩ h0
 exact ⟨(k.cell (p:=⟨g,_,none⟩) hl id).trans h0,(k.cell (p:=⟨g,_,none⟩) hl id).trans h1,(k.cell (p:=⟨g,_,none⟩) hl id).trans h2⟩
def NdsAt (w:World) (ao:Option Addr) (n:Nat) (F:Nat→Nd):Prop:=0<n→∃g,ao=some ⟨g,0,none⟩∧NdAt w g n F
end Go.Proofs.YtcbadebjpogmlaaGreatDoor
namespace Go.Proofs.YtcbadebjpogmlaaGreatDoor
open Go.RowKit Tr
abbrev Mt:=ByteArray×Int×Int×Int
def mNd (x:Mt):Nd:=(x.1,x.2.1,x.2.2.1)
def RB (r:Ending):Prop:=∃b,r=.returned (.bool b)
theorem rb (b:Bool):RB (.returned (.bool b)):=⟨b,rfl⟩
end Go.Proofs.YtcbadebjpogmlaaGreatDoor
namespace Go.Proofs.YtcbadebjpogmlaaGreatDoor
open Go.RowKit Tr Go.Conc
theorem nd_get:∀(l:List Tv) (k i:Nat) (h:k<l.length),i<3→(l.flatMap ndCells)[k * 3+i]?=(ndCells l[k])[i]?
 | [],_,_,h,_=>absurd h (by simp)
 | a::l,0,i,_,hi=>by
  rw [List.flatMap_cons,Nat.zero_mul,Nat.zero_add,List.getElem?_append_left (by simpa [ndCells] using hi)]
  rfl
 | a::l,k+1,i,h,hi=>by
  have e:(ndCells a).length=3:=rfl
  rw [List.flatMap_cons,List.getElem?_append_right (by rw [e]; omega),e,show (k+1) * 3+i - 3=k * 3+i by omega]
  exact nd_get l k i (by simpa using h) hi
def ndOf (v:Tv):Nd:=(bsb v.d.path,((v.d.frm:Nat):Int),((v.d.to:Nat):Int))
def nG (l:List Tv) (i:Nat):Nd:=match l[i]? with
 | some v=>ndOf v
 | none=>(⟨#[]⟩,0,0)
theorem nG_at {l:List Tv} {i:Nat} (h:i<l.length):nG l i=ndOf l[i]:=by unfold nG; rw [List.getElem?_eq_getElem h]
theorem nds_at {w:World} {sv:Value} {l:List Tv} (h:w.ownsRow 0 42 3 sv l.length (l.flatMap ndCells)):∃ao c,sv=.slice ao l.length c∧NdsAt w ao l.length (nG l):=by
 obtain ⟨ao,c,rfl⟩:=own_slice h
 refine ⟨ao,c,rfl,fun hp=>?_⟩
 obtain ⟨g,c',e,_,_⟩:=h.form hp
 injection e with e1 _ _
 subst e1
 refine ⟨g,rfl,fun i hi=>?_⟩
 have G:∀j,j<3→w.cell? ⟨g,i * 3+j,none⟩=(ndCells l[i])[j]?:=fun j hj=>by rw [h.cellAt _ (by omega),nd_get l i j hi hj]
 rw [nG_at hi]
 exact ⟨G 0 (by omega),G 1 (by omega),G 2 (by omega)⟩
theorem mts_at {w:World} {av:Value} {l:List (Tv×Nat)} (h:w.ownsRow 0 44 4 av l.length (l.flatMap tcl)):∃ao c,av=.slice ao l.length c∧(0<l.length→∃g,ao=some ⟨g,0,none⟩∧MtAt w g l.length (mF l)):=by
 obtain ⟨ao,c,rfl⟩:=own_slice h
 refine ⟨ao,c,rfl,fun hp=>?_⟩
 obtain ⟨g,c',e,_,_⟩:=h.form hp
 injection e with e1 _ _
 subst e1
 exact ⟨g,rfl,mt_of (r:=[]) (by rw [List.append_nil]; exact fun j hj=>h.cellAt j hj)⟩
theorem mF_at {l:List (Tv×Nat)} {i:Nat} (h:i<l.length):mF l i=(bsb l[i].1.d.path,((l[i].1.d.frm:Nat):Int),((l[i].1.d.to:Nat):Int),((l[i].2:Nat):Int)):=by unfold mF; rw [List.getElem?_eq_getElem h]
end Go.Proofs.YtcbadebjpogmlaaGreatDoor
namespace Tr
theorem next_to {z:Sn} (hok:SOk z) {b:Nat}:∀t ∈ (sNext z b).ts,t.k=1∨t.k=3→z.at'≤t.to:=by
  have shut:∀z:Sn,∀t ∈ (sShut z).ts,z.at'≤t.to:=fun z t ht=>by
    rw [List.mem_singleton.1 ht]; exact Nat.le_succ _
  have endP:∀z:Sn,∀t ∈ (sEndP z).ts,z.at'≤t.to:=fun z t ht=>by
    rw [List.mem_singleton.1 ht]; exact Nat.le_succ _
  have beh:∀(z:Sn) (b:Nat),∀t ∈ (sBehind z b).ts,z.at'≤t.to:=fun z b t ht=>by
    unfold sBehind at ht
    repeat' split at ht
    all_goals first | exact shut z t ht | (cases ht)
  intro t ht hk
  unfold sNext at ht
  split at ht
  · rename_i h6
    unfold sStr at ht
    repeat' split at ht
    · cases ht
    · cases ht
    · unfold sEndS at ht
      split at ht
      · have:=endP { z with tk:={ z.tk with t:=z.tx },tx:=[] } t ht
        exact this
      rename_i h3
      have:=hok.st (Or.inl h6)
      rw [List.mem_singleton.1 ht] at hk
      simp only at hk
      omega
    cases ht
  split at ht
  · unfold sEsc at ht
    split at ht<;>cases ht
  split at ht
  · unfold sNum at ht
    repeat' split at ht
    · cases ht
    · cases ht
    · cases ht
    rcases List.mem_cons.1 ht with y | y
    · rw [y]; exact Nat.le_refl _
    exact beh z b t y
  split at ht
  · unfold sWord at ht
    repeat' split at ht
    · cases ht
    · have:=endP { z with rs:=z.rs.tail } t ht
      exact this
    cases ht
  split at ht
  · cases ht
  unfold sBetw at ht
  split at ht
  · exact beh z b t ht
  split at ht
  · cases ht
  split at ht
  · exact shut z t ht
  split at ht
  · unfold sBegin at ht
    repeat' split at ht
    all_goals first
      | (unfold sLot at ht
         split at ht
         · cases ht
         rw [List.mem_singleton.1 ht] at hk; simp at hk)
      | (unfold sBNum at ht
         repeat' split at ht
         all_goals cases ht)
      | cases ht
  split at ht
  · cases ht
  cases ht
theorem run_to:∀(l:List UInt8) {z:Sn} {s:Sh},SOk z→Lk z s→z.st≤10→z.at'+l.length≤4000000→∀t ∈ (sRun z l).ts,t.k=1∨t.k=3→z.at'≤t.to
  | [],z,s,_,_,_,_,t,ht,_=>by cases ht
  | b::l,z,s,h1,h2,h3,h4,t,ht,hk=>by
    have hl:z.at'+(l.length+1)≤4000000:=by simpa using h4
    have S:=stp_next h1 h2 h3 (by omega) b.toNat
    rw [sRun] at ht
    by_cases c12:(sNext z b.toNat).z.st=12
    · rw [if_pos c12] at ht; exact next_to h1 t ht hk
    rw [if_neg c12] at ht
    by_cases c11:(sNext z b.toNat).z.st=11
    · rw [if_pos c11] at ht; exact next_to h1 t ht hk
    rw [if_neg c11] at ht
    have c10:(sNext z b.toNat).z.st≤10:=by have:=S.st; omega
    have hat:=S.at'
    have o1:=S.ok c10
    have O:SOk { (sNext z b.toNat).z with at':=(sNext z b.toNat).z.at'+1 }:=⟨o1.op,o1.ne,o1.tk,o1.st,o1.w,o1.n,o1.m,o1.x⟩
    rcases List.mem_append.1 ht with y | y
    · exact next_to h1 t y hk
    have:=run_to l O (S.lk c10) c10 (by simp only [hat]; omega) t y hk
    simp only [hat] at this
    omega
structure NL (s:Fw):Prop where
  hd:s.hd=none
  ws:∀f ∈ s.g.st,f.kp=false∧f.ws=[]
theorem own_to {xs:List Sg} {n:Nat} {d:Dat} {tl:List Ct}:∀p ∈ cntT xs (n+1) ⟨d,[]⟩ tl,p.1.d.to=d.to:=fun p hp=>by
  rw [cntT] at hp
  simp only [List.zipIdx_nil,List.flatMap_nil,List.nil_append] at hp
  split at hp
  · rw [List.mem_singleton.1 hp]
  cases hp
theorem nl_take {xs:List Sg} (hx:headS xs=xs.length) {s:Fw} (h:NL s) {t:Tok} (h3:t.k≤3):NL (fTake xs s t)∧∀p ∈ (fTake xs s t).told,p ∈ s.told∨((t.k=1∨t.k=3)∧p.1.d.to=t.to):=by
  have hb:∀d,(fBeg xs s d).hd=none∧(fBeg xs s d).told=s.told∧(fBeg xs s d).g=s.g:=fun d=>by
    unfold fBeg
    rw [h.hd]
    simp [hx]
  have hs:s.hd.isSome=false:=by rw [h.hd]; rfl
  unfold fTake
  by_cases k0:t.k=0
  · rw [if_pos k0]
    refine ⟨⟨(hb _).1,fun f hf=>?_⟩,fun p hp=>Or.inl ?_⟩
    · have hf:f ∈ (gTake s.g t s.hd.isSome).st:=hf
      unfold gTake at hf
      rw [if_pos k0] at hf
      rcases List.mem_cons.1 hf with y | y
      · rw [y,hs]; exact ⟨rfl,rfl⟩
      exact h.ws f y
    have hp:p ∈ (fBeg xs s (gDat s.g t)).told:=hp
    rw [(hb _).2.1] at hp; exact hp
  rw [if_neg k0]
  have cls:∀(q:Fw) (d:Dat) (r:Nat),q.hd=none→q.told=s.told→(fCls xs q ⟨d,[]⟩ r).hd=none∧∀p ∈ (fCls xs q ⟨d,[]⟩ r).told,p ∈ s.told∨p.1.d.to=d.to:=fun q d r e1 e2=>by
    unfold fCls
    rw [e1]
    simp only [Option.isSome_none,Bool.false_eq_true,false_and,if_false]
    refine ⟨trivial,fun p hp=>?_⟩
    rcases List.mem_append.1 hp with y | y
    · exact Or.inl (e2▸y)
    exact Or.inr (own_to p y)
  have onw:∀(r:List Fm) (v:Tv),(∀f ∈ r,f.kp=false∧f.ws=[])→∀f ∈ gOn r false v,f.kp=false∧f.ws=[]:=fun r v hr f hf=>by
    unfold gOn at hf
    cases r with
    | nil=>cases hf
    | cons p q=>exact hr f hf
  by_cases k1:t.k=1
  · rw [if_pos k1]
    cases hst:s.g.st with
    | nil=>exact ⟨h,fun p hp=>Or.inl hp⟩
    | cons f r =>
      obtain ⟨f1,f2⟩:=h.ws f (by rw [hst]; exact List.mem_cons_self)
      have et:f.tv t.to=⟨{ f.d with to:=t.to },[]⟩:=by unfold Fm.tv; rw [f2]
      obtain ⟨c1,c2⟩:=cls s { f.d with to:=t.to } r.length h.hd rfl
      refine ⟨⟨by show (fCls xs s (f.tv t.to) r.length).hd=none; rw [et]; exact c1,fun u hu=>?_⟩,fun p hp=>?_⟩
      · have hu:u ∈ (gTake s.g t true).st:=hu
        unfold gTake at hu
        rw [if_neg k0,if_pos k1,hst] at hu
        have hu:u ∈ gOn r f.kp (f.tv t.to):=hu
        rw [f1] at hu
        exact onw r _ (fun q hq=>h.ws q (by rw [hst]; exact List.mem_cons_of_mem _ hq)) u hu
      have hp:p ∈ (fCls xs s (f.tv t.to) r.length).told:=hp
      rw [et] at hp
      exact (c2 p hp).imp id (fun y=>⟨Or.inl k1,y⟩)
  rw [if_neg k1]
  by_cases k2:t.k=2
  · rw [if_pos k2]
    refine ⟨⟨h.hd,fun f hf=>?_⟩,fun p hp=>Or.inl hp⟩
    have hf:f ∈ (gTake s.g t true).st:=hf
    unfold gTake at hf
    rw [if_neg k0,if_neg k1,if_pos k2] at hf
    exact h.ws f hf
  rw [if_neg k2]
  obtain ⟨b1,b2,b3⟩:=hb (gDat s.g t)
  have et:(gBegin s.g t true).tv t.to=⟨{ gDat s.g t with to:=t.to },[]⟩:=rfl
  obtain ⟨c1,c2⟩:=cls (fBeg xs s (gDat s.g t)) { gDat s.g t with to:=t.to } s.g.st.length b1 b2
  refine ⟨⟨by rw [et]; exact c1,fun u hu=>?_⟩,fun p hp=>?_⟩
  · have hu:u ∈ (gTake s.g t s.hd.isSome).st:=hu
    unfold gTake at hu
    rw [if_neg k0,if_neg k1,if_neg k2,hs] at hu
    have hu:u ∈ gOn s.g.st false ((gBegin s.g t false).tv t.to):=hu
    exact onw s.g.st _ h.ws u hu
  have hp:p ∈ (fCls xs (fBeg xs s (gDat s.g t)) ((gBegin s.g t true).tv t.to) s.g.st.length).told:=hp
  rw [et] at hp
  refine (c2 p hp).imp id (fun y=>⟨Or.inr ?_,y⟩)
  omega
theorem nl_run {xs:List Sg} (hx:headS xs=xs.length):∀(ts:List Tok) {s:Fw},NL s→(∀t ∈ ts,t.k≤3)→NL (fRun xs s ts)∧∀p ∈ (fRun xs s ts).told,p ∈ s.told∨∃t ∈ ts,(t.k=1∨t.k=3)∧p.1.d.to=t.to
  | [],s,h,_=>⟨h,fun p hp=>Or.inl hp⟩
  | t::r,s,h,h3=>by
    obtain ⟨a1,a2⟩:=nl_take hx h (h3 t (List.mem_cons_self))
    obtain ⟨b1,b2⟩:=nl_run hx r a1 (fun u hu=>h3 u (List.mem_cons_of_mem _ hu))
    refine ⟨b1,fun p hp=>?_⟩
    rcases b2 p hp with y | ⟨u,hu,y⟩
    · rcases a2 p y with y | y
      · exact Or.inl y
      exact Or.inr ⟨t,List.mem_cons_self,y⟩
    exact Or.inr ⟨u,List.mem_cons_of_mem _ hu,y⟩
theorem cnt_has {t:Tv} (h:Tree t) (xs:List Sg):∀(n:Nat) (v:Tv) (tl:List Ct),Deep n v→v ∈ allT 10 t→TlOk xs t v tl→∀u ∈ allT n v,0<occ u (nodesS xs [t])→∃p ∈ cntT xs n v tl,p.1=u
  | 0,v,tl,hd,_,_,u,hu,_=>by cases hu
  | n+1,v,tl,hd,hv,hk,u,hu,ho=>by
    have own:(ctAt tl xs.length).its=occ v (nodesS xs [t]):=by
      have:=(hk.c xs.length (Nat.le_refl _)).1
      rw [List.take_length] at this; exact this
    rw [allT] at hu
    rw [cntT]
    rcases List.mem_cons.1 hu with y | y
    · subst y
      exact ⟨(u,(ctAt tl xs.length).its),List.mem_append_right _ (by rw [if_pos (by rw [own]; exact ho)]; exact List.mem_singleton.2 rfl),rfl⟩
    obtain ⟨c,hc,hu2⟩:=List.mem_flatMap.1 y
    obtain ⟨j,hj,e⟩:=List.getElem_of_mem hc
    have hT:=tl_kid h hv hk hj
    rw [e] at hT
    obtain ⟨p,hp,e2⟩:=cnt_has h xs n c _ (hd c hc) (mem_kid h.d hv hc) hT u hu2 ho
    refine ⟨p,List.mem_append_left _ (List.mem_flatMap.2 ⟨(c,j),List.mk_mem_zipIdx_iff_getElem?.2 ?_,hp⟩),e2⟩
    rw [List.getElem?_eq_getElem hj,e]
theorem okL_k:∀{ts:List Tok} {s:Sh},OkL s ts→∀t ∈ ts,t.k≤3
  | [],_,_,t,ht=>by cases ht
  | u::r,s,h,t,ht=>by
    rcases List.mem_cons.1 ht with y | y
    · rw [y]; exact h.1.k
    exact okL_k h.2 t y
end Tr
namespace Go.Proofs.YtcbadebjpogmlaaGreatDoor
open Go.RowKit Tr Go.Conc
theorem soon {xs:List Sg} (hx:∀g ∈ xs,0<g.l.length) (hso:SrtOk xs) (hnl:headS xs=xs.length) {l:List UInt8} (hl:l.length≤4000000) (h0:txErr l=0) {t:Tv} (ht:txVal l=some t) {v:Tv} (hv:v ∈ nodesS xs [t]) (hto:v.d.to+1≤l.length):stE (l.take (v.d.to+1))=0∧∃q ∈ stT xs (l.take (v.d.to+1)),q.1.d=v.d:=by
 obtain ⟨hT,_⟩:=tx_tree hl h0 ht
 have sub:v ∈ allT 10 t:=nodes_sub hT xs [t] (fun u hu=>by rw [List.mem_singleton.1 hu]; exact self_mem hT.d) v hv
 have ho:0<occ v (nodesS xs [t]):=List.countP_pos_iff.2 ⟨v,hv,by simp⟩
 obtain ⟨p0,hp0,e0⟩:=cnt_has hT xs 10 t _ hT.d (self_mem hT.d) (tl_root hT xs) v sub ho
 have e1:=told_text hx hso hl h0 ht
 have ec:clT xs l=(fRun xs fInit (txTs l)).told:=cl_whole h0
 rw [← ec] at e1
 have hm:tp p0 ∈ (clT xs l).map tp:=by rw [e1]; exact List.mem_map.2 ⟨p0,hp0,rfl⟩
 obtain ⟨q,hq,eq⟩:=List.mem_map.1 hm
 have ed:q.1.d=v.d:=by
  have:(tp q).1=(tp p0).1:=by rw [eq]
  rw [← e0]; exact this
 obtain ⟨P,hP⟩:∃P,P=l.take (v.d.to+1):=⟨_,rfl⟩
 obtain ⟨R,hR⟩:∃R,R=l.drop (v.d.to+1):=⟨_,rfl⟩
 have hs:l=P++R:=by rw [hP,hR,List.take_append_drop]
 have hPl:P.length=v.d.to+1:=by rw [hP,List.length_take]; omega
 rw [← hP]
 have hE:stE l=0:=by
  by_cases y:stE l=0
  ·exact y
  rw [(tx_bad y).1] at h0; exact absurd h0 y
 have hEP:stE P=0:=by
  by_cases y:stE P=0
  ·exact y
  have:=(stE_bad R y).1
  rw [← hs,hE] at this
  exact this.symm
 refine ⟨hEP,q,?_,ed⟩
 have RL:=run_ok' l sInit_ok.1 sInit_ok.2 (by simp [sInit]) (by simp [sInit]; omega)
 have RP:=run_ok' P sInit_ok.1 sInit_ok.2 (by simp [sInit]) (by simp [sInit]; omega)
 obtain ⟨r1,r2,r3,r4⟩:=RP.ok hEP
 have hat:(sRun sInit P).z.at'=P.length:=by simpa [sInit] using r3
 obtain ⟨l1,l2,l3,l4⟩:=RL.ok hE
 have hatl:(sRun sInit l).z.at'=l.length:=by simpa [sInit] using l3
 have hta:(sRun sInit l).ts=(sRun sInit P).ts++(sRun (sRun sInit P).z R).ts:=by
  have:=sRun_app P R sInit hEP
  rw [← hs] at this
  rw [this]
 have N0:NL fInit:=⟨rfl,fun f hf=>by cases hf⟩
 have NN:∀{s:Fw},NL s→NL (noT s):=fun {s} h=>⟨h.hd,h.ws⟩
 have kk:=okL_k RL.tok
 unfold clT at hq
 rcases List.mem_append.1 hq with y | y
 ·rw [hs,stT_app] at y
  rcases List.mem_append.1 y with y | y
  ·exact y
  unfold stN at y
  rw [if_pos hEP] at y
  have NP:=(nl_run hnl (sRun sInit P).ts N0 (fun u hu=>kk u (by rw [hta]; exact List.mem_append_left _ hu))).1
  rcases (nl_run hnl (sRun (sRun sInit P).z R).ts (NN NP) (fun u hu=>kk u (by rw [hta]; exact List.mem_append_right _ hu))).2 q y with z | ⟨u,hu,hk,e⟩
  ·cases z
  have:=run_to R r1 r4 r2 (by rw [hat]; have:=congrArg List.length hs; rw [List.length_append] at this; omega) u hu hk
  rw [ed] at e
  omega
 unfold clN at y
 rw [if_pos hE] at y
 have NP:=(nl_run hnl (sRun sInit l).ts N0 kk).1
 have hkE:∀u ∈ (if sWhole (sRun sInit l).z=true then sEnd (sRun sInit l).z else []),u.k≤3∧u.to=l.length:=fun u hu=>by
  split at hu
  ·unfold sEnd at hu
   split at hu
   ·rw [List.mem_singleton.1 hu]; exact ⟨l1.tk.1,hatl⟩
   cases hu
  cases hu
 rcases (nl_run hnl _ (NN NP) (fun u hu=>(hkE u hu).1)).2 q y with z | ⟨u,hu,_,e⟩
 ·cases z
 have:=(hkE u hu).2
 rw [ed] at e
 omega
end Go.Proofs.YtcbadebjpogmlaaGreatDoor
namespace Tr
def Inc:Nat→List Tok→Prop
  | _,[]=>True
  | B,t::r=>if t.k=1 then B<t.to∧Inc t.to r else if t.k=3 then B≤t.to∧Inc t.to r else Inc B r
def incE:Nat→List Tok→Nat
  | B,[]=>B
  | B,t::r=>if t.k=1∨t.k=3 then incE t.to r else incE B r
theorem Inc.app:∀{a b:List Tok} {B:Nat},Inc B a→Inc (incE B a) b→Inc B (a++b)
  | [],_,_,_,h=>h
  | t::a,b,B,h,k=>by
    show (if t.k=1 then B<t.to∧Inc t.to (a++b) else if t.k=3 then B≤t.to∧Inc t.to (a++b) else Inc B (a++b))
    unfold Inc at h
    unfold incE at k
    by_cases k1:t.k=1
    · rw [if_pos k1] at h ⊢
      rw [if_pos (Or.inl k1)] at k
      exact ⟨h.1,h.2.app k⟩
    rw [if_neg k1] at h ⊢
    by_cases k3:t.k=3
    · rw [if_pos k3] at h ⊢
      rw [if_pos (Or.inr k3)] at k
      exact ⟨h.1,h.2.app k⟩
    rw [if_neg k3] at h ⊢
    rw [if_neg (by omega)] at k
    exact Inc.app h k
theorem Inc.low:∀{ts:List Tok} {B C:Nat},C≤B→Inc B ts→Inc C ts
  | [],_,_,_,_=>trivial
  | t::r,B,C,hc,h=>by
    unfold Inc at h ⊢
    split at h
    · rename_i k1; rw [if_pos k1]; exact ⟨by omega,h.2⟩
    rename_i k1
    rw [if_neg k1]
    split at h
    · rename_i k3; rw [if_pos k3]; exact ⟨by omega,h.2⟩
    rename_i k3; rw [if_neg k3]; exact Inc.low hc h
theorem incE_app:∀(a b:List Tok) (B:Nat),incE B (a++b)=incE (incE B a) b
  | [],_,_=>rfl
  | t::a,b,B=>by
    show (if t.k=1∨t.k=3 then incE t.to (a++b) else incE B (a++b))=incE (if t.k=1∨t.k=3 then incE t.to a else incE B a) b
    split<;>exact incE_app a b _
theorem incE_le:∀{ts:List Tok} {B C:Nat},C≤B→incE C ts≤incE B ts
  | [],_,_,h=>h
  | t::r,B,C,h=>by
    unfold incE
    split
    · exact Nat.le_refl _
    exact incE_le h
theorem inc_shut (z:Sn):Inc z.at' (sShut z).ts∧incE z.at' (sShut z).ts≤z.at'+1:=by simp [sShut,Inc,incE]
theorem inc_beh (z:Sn) (b:Nat):Inc z.at' (sBehind z b).ts∧incE z.at' (sBehind z b).ts≤z.at'+1:=by
  unfold sBehind
  repeat' split
  all_goals first | exact inc_shut z | exact ⟨trivial,Nat.le_succ _⟩
theorem inc_one (B:Nat) (t:Tok) (h:t.k≠1) (h3:t.k=3→B≤t.to∧t.to≤B+1):Inc B [t]∧incE B [t]≤B+1:=by
  unfold Inc incE
  rw [if_neg h]
  by_cases k3:t.k=3
  · rw [if_pos k3,if_pos (Or.inr k3)]
    exact ⟨⟨(h3 k3).1,trivial⟩,(h3 k3).2⟩
  rw [if_neg k3,if_neg (by omega)]
  exact ⟨trivial,Nat.le_succ _⟩
theorem inc_next {z:Sn} (hok:SOk z) (b:Nat):Inc z.at' (sNext z b).ts∧incE z.at' (sNext z b).ts≤z.at'+1:=by
  have nil:Inc z.at' []∧incE z.at' []≤z.at'+1:=⟨trivial,Nat.le_succ _⟩
  unfold sNext
  split
  · rename_i h6
    have hk:=hok.st (Or.inl h6)
    unfold sStr
    repeat' split
    · exact nil
    · exact nil
    · unfold sEndS
      split
      · rename_i h3
        exact inc_one z.at' _ (by simp only; omega) (fun _=>⟨Nat.le_succ _,Nat.le_refl _⟩)
      rename_i h3
      exact inc_one z.at' _ (by simp only; omega) (fun y=>absurd y h3)
    exact nil
  split
  · unfold sEsc
    split<;>exact nil
  split
  · rename_i h8
    have hk:=(hok.n h8).2.2.2.2
    unfold sNum
    repeat' split
    · exact nil
    · exact nil
    · exact nil
    have e:(sNumT z).k=3:=hk
    have B:=inc_beh z b
    show Inc z.at' (sNumT z::(sBehind z b).ts)∧incE z.at' (sNumT z::(sBehind z b).ts)≤z.at'+1
    unfold Inc incE
    rw [if_neg (by omega),if_pos e,if_pos (Or.inr e)]
    exact ⟨⟨Nat.le_refl _,B.1⟩,B.2⟩
  split
  · rename_i h10
    have hk:=(hok.w h10).2.2
    unfold sWord
    repeat' split
    · exact nil
    · exact inc_one z.at' _ (by simp only; omega) (fun _=>⟨Nat.le_succ _,Nat.le_refl _⟩)
    exact nil
  split
  · exact nil
  unfold sBetw
  split
  · exact inc_beh z b
  split
  · exact nil
  split
  · exact inc_shut z
  split
  · unfold sBegin
    repeat' split
    all_goals first
      | (unfold sLot
         split
         · exact nil
         exact inc_one z.at' _ (by simp) (fun y=>by simp at y))
      | (unfold sBNum
         repeat' split
         all_goals exact nil)
      | exact nil
  split
  · exact nil
  exact nil
theorem inc_run:∀(l:List UInt8) {z:Sn} {s:Sh},SOk z→Lk z s→z.st≤10→z.at'+l.length≤4000000→Inc z.at' (sRun z l).ts∧((sRun z l).e=0→incE z.at' (sRun z l).ts≤(sRun z l).z.at')
  | [],z,s,_,_,_,_=>⟨trivial,fun _=>Nat.le_refl _⟩
  | b::l,z,s,h1,h2,h3,h4=>by
    have hl:z.at'+(l.length+1)≤4000000:=by simpa using h4
    have S:=stp_next h1 h2 h3 (by omega) b.toNat
    obtain ⟨n1,n2⟩:=inc_next h1 b.toNat
    rw [sRun]
    by_cases c12:(sNext z b.toNat).z.st=12
    · rw [if_pos c12]; exact ⟨n1,fun y=>by cases y⟩
    rw [if_neg c12]
    by_cases c11:(sNext z b.toNat).z.st=11
    · rw [if_pos c11]; exact ⟨n1,fun y=>by cases y⟩
    rw [if_neg c11]
    have c10:(sNext z b.toNat).z.st≤10:=by have:=S.st; omega
    have hat:=S.at'
    have o1:=S.ok c10
    have O:SOk { (sNext z b.toNat).z with at':=(sNext z b.toNat).z.at'+1 }:=⟨o1.op,o1.ne,o1.tk,o1.st,o1.w,o1.n,o1.m,o1.x⟩
    obtain ⟨m1,m2⟩:=inc_run l O (S.lk c10) c10 (by simp only [hat]; omega)
    have n3:incE z.at' (sNext z b.toNat).ts≤(sNext z b.toNat).z.at'+1:=by rw [hat]; exact n2
    refine ⟨n1.app (m1.low n3),fun he=>?_⟩
    simp only
    rw [incE_app]
    exact Nat.le_trans (incE_le n3) (m2 he)
def Ends (B:Nat) (v:Tv):Prop:=∀u ∈ allT 10 v,u.d.to≤B∧∀c ∈ u.ws,c.d.to<u.d.to
def EndS (B:Nat) (st:List Fm):Prop:=∀f ∈ st,∀w ∈ f.ws,Ends B w
theorem Ends.up {B C:Nat} {v:Tv} (h:Ends B v) (hc:B≤C):Ends C v:=fun u hu=>⟨Nat.le_trans (h u hu).1 hc,(h u hu).2⟩
theorem ends_close {B:Nat} {f:Fm} {to:Nat} (h:∀w ∈ f.ws,Ends B w∧Deep 9 w) (hb:f.ws≠[]→B<to) (hb2:B≤to):Ends to (f.tv to):=fun u hu=>by
  have hu:u ∈ (f.tv to)::(f.tv to).ws.flatMap (allT 9):=hu
  rcases List.mem_cons.1 hu with y | y
  · subst y
    refine ⟨Nat.le_refl _,fun c hc=>?_⟩
    have hc:c ∈ f.ws:=hc
    have:=((h c hc).1 c (self_mem ((h c hc).2.up (by omega)))).1
    have:=hb (fun e=>by rw [e] at hc; cases hc)
    show c.d.to<to
    omega
  obtain ⟨w,hw,hu2⟩:=List.mem_flatMap.1 y
  have hw:w ∈ f.ws:=hw
  rw [← allT_deep (h w hw).2 (show 9≤10 by omega)] at hu2
  have:=(h w hw).1 u hu2
  exact ⟨by omega,this.2⟩
structure EI (B:Nat) (g:Gs):Prop where
  st:EndS B g.st
  last:∀v,g.last=some v→Ends B v
theorem endS_on {B C:Nat} {r:List Fm} {kp:Bool} {v:Tv} (h:EndS B r) (hc:B≤C) (hv:Ends C v):EndS C (gOn r kp v):=by
  cases r with
  | nil=>intro f hf; cases hf
  | cons p q =>
    intro f hf w hw
    have hf:f ∈ gKeep p kp v::q:=hf
    rcases List.mem_cons.1 hf with y | y
    · subst y
      unfold gKeep at hw
      split at hw
      · have hw:w ∈ p.ws++[v]:=hw
        rcases List.mem_append.1 hw with u | u
        · exact (h p (List.mem_cons_self) w u).up hc
        rw [List.mem_singleton.1 u]; exact hv
      exact (h p (List.mem_cons_self) w hw).up hc
    exact (h f (List.mem_cons_of_mem _ y) w hw).up hc
theorem end_take {g:Gs} {t:Tok} {r:List Tok} {B:Nat} (h:EI B g) (hf:GF g) (h3:t.k≤3) (hi:Inc B (t::r)):EI (if t.k=1∨t.k=3 then t.to else B) (gTake g t true)∧Inc (if t.k=1∨t.k=3 then t.to else B) r:=by
  unfold Inc at hi
  unfold gTake
  by_cases h0:t.k=0
  · rw [if_neg (by omega),if_neg (by omega)] at hi
    rw [if_pos h0,if_neg (by omega)]
    refine ⟨⟨fun f hf' w hw=>?_,h.last⟩,hi⟩
    have hf':f ∈ gBegin g t true::g.st:=hf'
    rcases List.mem_cons.1 hf' with y | y
    · subst y; cases hw
    exact h.st f y w hw
  rw [if_neg h0]
  by_cases h1:t.k=1
  · rw [if_pos h1] at hi
    rw [if_pos h1,if_pos (Or.inl h1)]
    refine ⟨?_,hi.2⟩
    cases hs:g.st with
    | nil=>exact ⟨fun f hf'=>(by have hf':f ∈ g.st:=hf'; rw [hs] at hf'; cases hf'),fun v hv=>(h.last v hv).up (by omega)⟩
    | cons f q =>
      have hst:=h.st
      have hd:=hf.d
      rw [hs] at hst hd
      have E:Ends t.to (f.tv t.to):=ends_close (B:=B) (fun w hw=>⟨hst f (List.mem_cons_self) w hw,(hd.1 w hw).up (by omega)⟩) (fun _=>hi.1) (by omega)
      exact ⟨endS_on (fun p hp=>hst p (List.mem_cons_of_mem _ hp)) (by omega) E,fun v hv=>by
        have hv:some (f.tv t.to)=some v:=hv
        rw [← Option.some.inj hv]; exact E⟩
  rw [if_neg h1] at hi
  rw [if_neg h1]
  by_cases h2:t.k=2
  · rw [if_neg (by omega)] at hi
    rw [if_pos h2,if_neg (by omega)]
    exact ⟨⟨h.st,h.last⟩,hi⟩
  have hk:t.k=3:=by omega
  rw [if_pos hk] at hi
  rw [if_neg h2,if_pos (Or.inr hk)]
  have E:Ends t.to ((gBegin g t true).tv t.to):=ends_close (B:=B) (fun w hw=>by cases hw) (fun y=>absurd rfl y) hi.1
  exact ⟨⟨endS_on h.st hi.1 E,fun v hv=>by
    have hv:some ((gBegin g t true).tv t.to)=some v:=hv
    rw [← Option.some.inj hv]; exact E⟩,hi.2⟩
theorem end_run:∀{ts:List Tok} {g:Gs} {B:Nat},EI B g→GF g→ixOk g.st g.ix→OkL g.sh ts→Inc B ts→EI (incE B ts) (gRun g ts)
  | [],_,_,h,_,_,_,_=>h
  | t::r,g,B,h,hf,hx,ho,hi=>by
    obtain ⟨a,b⟩:=end_take h hf ho.1.k hi
    have R:=end_run a (gf_take hf hx ho.1) (ix_take hx) (by rw [sh_take g t true ho.1]; exact ho.2) b
    rw [gRun_cons]
    unfold incE
    split
    · rename_i hk; rw [if_pos hk] at R; exact R
    rename_i hk; rw [if_neg hk] at R; exact R
theorem tx_ends {l:List UInt8} (hl:l.length≤4000000) (h:txErr l=0) {t:Tv} (ht:txVal l=some t):Ends l.length t:=by
  obtain ⟨h1,h2,_⟩:=tx_ok hl h
  have he:(sRun sInit l).e=0:=by
    unfold txErr at h
    by_cases x:(sRun sInit l).e≠0
    · rw [if_pos x] at h; exact h
    simpa using x
  have R:=run_ok' l sInit_ok.1 sInit_ok.2 (by simp [sInit]) (by simp [sInit]; omega)
  obtain ⟨r1,r2,r3,r4⟩:=R.ok he
  have hat:(sRun sInit l).z.at'=l.length:=by simpa [sInit] using r3
  obtain ⟨i1,i2⟩:=inc_run l sInit_ok.1 sInit_ok.2 (by simp [sInit]) (by simp [sInit]; omega)
  have i3:=i2 he
  have hI:Inc sInit.at' (txTs l)∧incE sInit.at' (txTs l)≤l.length:=by
    unfold txTs
    rw [incE_app]
    unfold sEnd
    split
    · rename_i h9
      have hk:(sNumT (sRun sInit l).z).k=3:=(r1.n (Or.inr h9)).2.2.2.2
      have hto:(sNumT (sRun sInit l).z).to=l.length:=hat
      refine ⟨i1.app ?_,?_⟩
      · unfold Inc
        rw [if_neg (by omega),if_pos hk]
        exact ⟨by omega,trivial⟩
      unfold incE
      rw [if_pos (Or.inr hk)]
      unfold incE
      omega
    exact ⟨i1.app trivial,by unfold incE; omega⟩
  have E:=end_run (g:=gInit) (B:=sInit.at') ⟨fun f hf=>(by cases hf),fun v hv=>(by cases hv)⟩ gInit_gf trivial h1 hI.1
  exact (E.last t ht).up hI.2
end Tr
namespace Go.Proofs.YtcbadebjpogmlaaGreatDoor
open Go.RowKit Tr Go.Conc
def hq4:ByteArray:=⟨#[36,46,46,42]⟩
theorem fin4:FinP (bs hq4)∧C (bs hq4) (hq4.size+1)≤10:=by unfold FinP; decide +kernel
theorem late4:headS (pQuery (bs hq4))=(pQuery (bs hq4)).length∧pQuery (bs hq4)≠[]:=⟨by decide +kernel,fun e=>absurd (congrArg List.length e) (by decide +kernel)⟩
def fndF (F:Nat→Mt) (x:Nd):Nat→Bool
 | 0=>false
 | n+1=>fndF F x n || ndEq (mNd (F n)) x
theorem fndF_has {F:Nat→Mt} {x:Nd} {j:Nat} (h:ndEq (mNd (F j)) x=true):∀n,j<n→fndF F x n=true
 | 0,hj=>absurd hj (by omega)
 | n+1,hj=>by
  rw [fndF]
  by_cases e:j=n
  ·rw [← e,h,Bool.or_true]
  rw [fndF_has h n (by omega)]; rfl
theorem soon_found {xs:List Sg} (hx:∀g ∈ xs,0<g.l.length) (hso:SrtOk xs) (hnl:headS xs=xs.length) (hne:xs≠[]) {l:List UInt8} (hl:l.length≤4000000) (h0:txErr l=0) {t:Tv} (ht:txVal l=some t) {i:Nat} (hi:i<(nodesS xs [t]).length):(nodesS xs [t])[i].d.to+1≤l.length∧stE (l.take ((nodesS xs [t])[i].d.to+1))=0∧fndF (mF (stT xs (l.take ((nodesS xs [t])[i].d.to+1)))) (nG (nodesS xs [t]) i) (stT xs (l.take ((nodesS xs [t])[i].d.to+1))).length=true:=by
 have hv:=List.getElem_mem hi
 obtain ⟨hT,_⟩:=tx_tree hl h0 ht
 have E:=tx_ends hl h0 ht
 have hto:(nodesS xs [t])[i].d.to+1≤l.length:=by
  have par:∃p ∈ allT 10 t,(nodesS xs [t])[i] ∈ p.ws:=by
   have sub:=nodes_sub hT xs [t] (fun u hu=>by rw [List.mem_singleton.1 hu]; exact self_mem hT.d) _ hv
   rcases all_par sub with y | y
   ·have:=nodes_up hT xs hne [t] (fun u hu=>by rw [List.mem_singleton.1 hu]; exact self_mem hT.d) _ hv
    rw [y] at this
    exact absurd this (Nat.lt_irrefl _)
   exact y
  obtain ⟨p,hp,hc⟩:=par
  have:=(E p hp).1
  have:=(E p hp).2 _ hc
  omega
 obtain ⟨s1,q,hq,ed⟩:=soon hx hso hnl hl h0 ht hv hto
 refine ⟨hto,s1,?_⟩
 obtain ⟨j,hj,e⟩:=List.getElem_of_mem hq
 refine fndF_has (j:=j) ?_ _ hj
 rw [mF_at hj,nG_at hi,e]
 unfold mNd ndOf
 simp only [ed]
 exact ndEq_refl _
set_option maxHeartbeats 8000000 in
set_option maxRecDepth 100000 in
theorem p_soon {w:World} (he:EN w) {wd cu:Value} (hw:IntsAt w wd) (hc:IntsAt w cu):Calls Tryz.prog 7 #[wd,cu] w fun r w'=>r=.returned (.bool true)∧Keeps w w':=by
 have HE:=hide he
 have HW:=hide hw
 have HC:=hide hc
 clear he hw hc
 go_enter Tryz.func7,Tryz.ntmps7
 go_wp2_with fail
 refine (p_compiled (s:=hq4) HE.out (by decide) fin4.1 fin4.2).mono ?_
 rintro r w1 ⟨gq,rfl,hQ,k1⟩
 have SO:=hide (query_srt (bs hq4))
 have LT:=hide late4
 generalize pQuery (bs hq4)=xs at *
 have QQ:=hide hQ
 have K1:=hide k1
 clear hQ k1
 go_wp2_with fail
 refine (p_text (HW.out.keep K1.out)).mono ?_
 rintro r w2 ⟨⟨ts,rfl,z1,z2⟩,k2⟩
 have K2:=hide (K1.out.trans k2)
 have Q2:=hide (QQ.out.keep k2)
 have Z2:=hide z2
 clear k2 QQ K1 HW z2
 go_wp2_with fail
 refine (q_select Q2.out (HE.out.keep K2.out) ts (by omega)).mono ?_
 rintro r w3 ⟨k3,hS | hS⟩
 ·exact absurd Z2.out hS.1
 obtain ⟨_,t,sv,ht,rfl,hR⟩:=hS
 have K3:=hide (K2.out.trans k3)
 have Q3:=hide (Q2.out.keep k3)
 obtain ⟨ao,ca,rfl,hN⟩:=nds_at (own_zero' hR)
 have FD:Hid (∀i (hi:i<(nodesS xs [t]).length),(nodesS xs [t])[i].d.to+1≤(bs ts).length∧stE ((bs ts).take ((nodesS xs [t])[i].d.to+1))=0∧fndF (mF (stT xs ((bs ts).take ((nodesS xs [t])[i].d.to+1)))) (nG (nodesS xs [t]) i) (stT xs ((bs ts).take ((nodesS xs [t])[i].d.to+1))).length=true):=fun i hi=>soon_found Q3.out.pos SO.out LT.out.1 LT.out.2 (by rw [bs_len]; omega) Z2.out ht hi
 have HN:=hide hN
 have NT:Hid (∀i (hi:i<(nodesS xs [t]).length),(nG (nodesS xs [t]) i).2.2=(((nodesS xs [t])[i].d.to:Nat):Int)):=fun i hi=>by rw [nG_at hi]; rfl
 have NB:(nodesS xs [t]).length≤2100000000000:=by
  obtain ⟨hT,hB⟩:=tx_tree (l:=bs ts) (by rw [bs_len]; omega) Z2.out ht
  have:=nodes_len hT (B:=4000000) hB xs Q3.out.pos Q3.out.sel (Nat.le_refl _)
  rw [List.take_length] at this
  omega
 generalize hNN:nodesS xs [t]=N at *
 clear hNN k3 ht hR hN Q2 K2 SO LT Z2
 go_wp2
 go_loopw [10] (fun iv wr=>∃i:Nat,iv=.int .i64 (i:Nat)∧i≤N.length∧Keeps w3 wr) (fun iv _=>match iv with | .int _ j=>((N.length:Int) - j).toNat | _=>0)
 case atStart=>exact ⟨0,rfl,by omega,Fr.refl _ _⟩
 case round =>
  obtain ⟨i,rfl,hin,hK⟩:=hrel
  generalize wr=w0 at *
  have KW:=hide hK
  clear hK
  by_cases hgo:i<N.length∧i<20
  ·obtain ⟨g1,g2⟩:=hgo
   have g1i:(i:Int)<(N.length:Int):=by omega
   have g2i:(i:Int)<20:=by omega
   have hwi:IntKind.i64.wrap ((i:Int)+1)=(i:Int)+1:=by rw [IntWalk.i64_in _ (by omega)]
   obtain ⟨g,rfl,hM⟩:=HN.out (by omega)
   obtain ⟨f1,f2,f3⟩:=FD.out i g1
   have hnt:=NT.out i g1
   rw [bs_len] at f1
   have hMk:Hid (∀W,Keeps w0 W→W.cell? ⟨g,i * 3,none⟩=some (.string (nG N i).1)∧W.cell? ⟨g,i * 3+1,none⟩=some (.int .i64 (nG N i).2.1)∧W.cell? ⟨g,i * 3+2,none⟩=some (.int .i64 (nG N i).2.2)):=fun W hW=>(hM.keep (KW.out.trans hW)) i g1
   obtain ⟨_,_,a2⟩:=hMk.out w0 (Fr.refl _ _)
   rw [hnt] at a2
   generalize N[i].d.to=to at *
   have FE0:=q_fed0 (Q3.out.keep KW.out) ((HE.out.keep K3.out).keep KW.out) (ts.extract 0 (to+1)) (by simp; omega) ((HC.out.keep K3.out).keep KW.out)
   rw [ext_take,f2] at FE0
   have FF:=hide FE0
   have L2:=stT_len xs Q3.out.pos ((bs ts).take (to+1)) (by rw [List.length_take,bs_len]; omega)
   have F3:=hide f3
   generalize stAt ((bs ts).take (to+1))=pa at *
   generalize stT xs ((bs ts).take (to+1))=T at *
   have hwt:IntKind.i64.wrap ((to:Int)+1)=(to:Int)+1:=by rw [IntWalk.i64_in _ (by omega)]
   have ht1:¬(to:Int)+1<0:=by omega
   have ht2:¬(ts.size:Int)<(to:Int)+1:=by omega
   have FIN:Hid (∀W,Keeps w0 W→(∃i':Nat,Value.int .i64 ((i:Int)+1)=.int .i64 (i':Nat)∧i'≤N.length∧Keeps w3 W)∧((N.length:Int) - ((i:Int)+1)).toNat<((N.length:Int) - (i:Int)).toNat):=fun W hW=>⟨⟨i+1,by simp,by omega,KW.out.trans hW⟩,by omega⟩
   clear FE0 f2 f3 hnt hM FD NT HN Q3 HE HC K3 KW
   go_wp2_with fail
   refine FF.out.mono ?_
   rintro r w4 ⟨av,rfl,b1,_,k4⟩
   obtain ⟨bo,cb,rfl,hA⟩:=mts_at b1
   have HA:=hide hA
   have K4:=hide k4
   clear b1 k4 hA FF a2
   go_wp2
   go_loopw [14,15] (fun fv kv wr=>∃k:Nat,fv=.bool (fndF (mF T) (nG N i) k)∧kv=.int .i64 (k:Nat)∧k≤T.length∧Keeps w4 wr) (fun _ kv _=>match kv with | .int _ j=>((T.length:Int) - j).toNat | _=>0)
   case atStart=>exact ⟨0,rfl,rfl,by omega,Fr.refl _ _⟩
   case round =>
    obtain ⟨k,rfl,rfl,hkT,hKW⟩:=hrel
    have KK:=hide hKW
    clear hKW
    by_cases hk:k<T.length
    ·obtain ⟨ga,rfl,hM2⟩:=HA.out (by omega)
     obtain ⟨d0,d1,d2,_⟩:=(hM2.keep KK.out) k hk
     obtain ⟨e0,e1,e2⟩:=hMk.out wr (K4.out.trans KK.out)
     have hkk:(k:Int)<(T.length:Int):=by omega
     have hwk:IntKind.i64.wrap ((k:Int)+1)=(k:Int)+1:=by rw [IntWalk.i64_in _ (by omega)]
     have eqq:∀v:World,(binOp .eql 42 (.agg #[.string (mF T k).1,.int .i64 (mF T k).2.1,.int .i64 (mF T k).2.2.1]) (.agg #[.string (nG N i).1,.int .i64 (nG N i).2.1,.int .i64 (nG N i).2.2])).run Tryz.prog v=.ok (.bool (ndEq (mNd (mF T k)) (nG N i))) v:=fun v=>eqlNode v _ _ _ _ _ _
     have FINK:Hid (∀W,Keeps wr W→(∃k':Nat,Value.bool (fndF (mF T) (nG N i) k || ndEq (mNd (mF T k)) (nG N i))=.bool (fndF (mF T) (nG N i) k')∧Value.int .i64 ((k:Int)+1)=.int .i64 (k':Nat)∧k'≤T.length∧Keeps w4 W)∧((T.length:Int) - ((k:Int)+1)).toNat<((T.length:Int) - (k:Int)).toNat):=fun W hW=>⟨⟨k+1,rfl,by simp,by omega,KK.out.trans hW⟩,by omega⟩
     have KD:=hide ((Fr.refl (fun _=>False) wr).drew)
     generalize ndEq (mNd (mF T k)) (nG N i)=bq at *
     generalize fndF (mF T) (nG N i) k=bf at *
     generalize (mF T k).1=y0 at *
     generalize (mF T k).2.1=y1 at *
     generalize (mF T k).2.2.1=y2 at *
     generalize (nG N i).1=x0 at *
     generalize (nG N i).2.1=x1 at *
     generalize (nG N i).2.2=x2 at *
     clear hM2 HA hMk K4 KK FIN F3 hk hkT
     cases bf<;>cases bq
     all_goals
      go_wp2
      go_region
      all_goals
       go_wp2
       exact FINK.out _ KD.out
    have hkk:¬(k:Int)<(T.length:Int):=by omega
    obtain rfl:k=T.length:=by omega
    rw [F3.out]
    have KF:=hide (K4.out.trans KK.out)
    clear hk HA hMk F3 KK K4
    go_wp2
    exact FIN.out _ KF.out
  have hcc:(¬(i:Int)<(N.length:Int))∨((i:Int)<(N.length:Int)∧¬(i:Int)<20):=by omega
  have KF:=hide (K3.out.trans KW.out)
  clear hgo HN FD NT HE HC Q3
  rcases hcc with h1 | ⟨h1,h2⟩
  all_goals
   go_wp2
   go_ret
   exact ⟨rfl,KF.out⟩
end Go.Proofs.YtcbadebjpogmlaaGreatDoor
namespace Go.Proofs.YtcbadebjpogmlaaGreatDoor
open Go.ChangeShapes Go.WideShapes Go.ChangeAt Go.RowKit Go.ChangeMaps
section
variable {H:Type}
set_option maxRecDepth 100000 in
theorem soon_contract (enc:TypeId×Value→H) (W:World) (base:Nat) (args:Array Value) (ds gs:List (DataW H)) (before:List MemPlace) (hX:EN W)
 (hval:∀(j:Nat) t v,Tryz.f7.params[j]?=some t→args[j]?=some v→Value.okWide Tryz.prog W .any base t v)
 (hW:DataW.Whole enc Tryz.prog Tryz.f7.params.toList Rows.soonSpec.vars false W args.toList ds gs before) :
 Calls Tryz.prog 7 args W fun e W'=>∃v,e=.returned v∧Rows.soonSpec.post enc Tryz.prog Tryz.f7 false true false false W args v W':=by
 have hW':=hW
 have hlt:=hW.lt
 obtain ⟨p,q,hA0,hV,rfl,hfz,hnd⟩:=hW
 have hA:DataW.TrodAll enc Tryz.prog W 0 (fun _=>true) true Tryz.f7.params.toList args.toList ds p:=hA0
 rw [Tryz.params7] at hA hval
 obtain ⟨v0,vs0,d0,ds0,p0,q0,hargs,rfl,rfl,h0,r0⟩:=trodAll_cons hA
 obtain ⟨v1,vs1,d1,ds1,p1,q1,rfl,rfl,rfl,h1,r1⟩:=trodAll_cons r0
 obtain ⟨rfl,rfl,rfl⟩:=trodAll_nil r1
 obtain rfl:args=#[v0,v1]:=by cases args; simp_all
 obtain ⟨rfl,rfl⟩:=trodVars_none hV
 have i0:=ints_open (hval 0 24 v0 rfl rfl) h0
 have i1:=ints_open (hval 1 24 v1 rfl rfl) h1
 clear hA0 hA
 simp only [List.append_nil] at hW' hlt
 refine (p_soon hX i0 i1).mono ?_
 rintro e W' ⟨rfl,hk'⟩
 have m0:∀p ∈ p0,p ∈ p0++p1:=fun p hp=>List.mem_append_left _ hp
 have m1:∀p ∈ p1,p ∈ p0++p1:=fun p hp=>List.mem_append_right _ hp
 refine ⟨_,rfl,post_keeps (pa:=p0++p1) (pv:=[]) hW' (fun _ _ _=>trodAll_cons_mk (shut_bool Tryz.underlying4 _) trodAll_mk0) (fun sp hsp=>?_) (fun _ _=>rfl) (by simp) hk' (ok_one (by kernel_rfl) rfl (okWide_bool_mk Tryz.underlying4 _))⟩
 have S:=trodAll_cons_mk (ints_stay (sp:=sp) h0 (fun p hp=>hlt p (m0 p hp)) hk' (fun p hp=>hsp p (m0 p hp))) (trodAll_cons_mk (ints_stay (sp:=sp) h1 (fun p hp=>hlt p (m1 p hp)) hk' (fun p hp=>hsp p (m1 p hp))) trodAll_mk0)
 rw [Tryz.params7]
 simp only [List.append_nil] at S
 exact S
end
end Go.Proofs.YtcbadebjpogmlaaGreatDoor
