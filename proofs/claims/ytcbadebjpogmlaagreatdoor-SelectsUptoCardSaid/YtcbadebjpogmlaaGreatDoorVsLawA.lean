import Derived.Test.YtcbadebjpogmlaaGreatDoorVsRefF
import Derived.Maps.AppendAt
import Derived.Test.YtcbadebjpogmlaaGreatDoorVsGh
import Derived.Test.YtcbadebjpogmlaaGreatDoorVsPi
import Derived.Laws.AppendOwnNone
import Derived.ProofKit
import Derived.Deep.Slices
import Derived.SizedLaws
import Derived.Test.YtcbadebjpogmlaaGreatDoorCards
import Derived.WalkKit
import Derived.OpenShut
import Derived.ChangeStays
import Derived.Deep.Onto
import Derived.Test.YtcbadebjpogmlaaGreatDoorVsTq
import Derived.Test.YtcbadebjpogmlaaGreatDoorVsQc
import Derived.LaidEqlPtr
import Derived.Deep.RegionHeld
import Derived.Deep.Cut
import Derived.Great.Ranges
import Derived.Great.BuildSlice
import Derived.Test.YtcbadebjpogmlaaGreatDoorVsGa
import Derived.Test.YtcbadebjpogmlaaGreatDoorVsAf
import Derived.Conc.LoneCalls
import Derived.KernelRfl
import Derived.Lib.IndexAny
import Derived.Conc.SmallLaws
import Derived.Conc.EventLaws
import Derived.Test.YtcbadebjpogmlaaGreatDoorVsFa
import Derived.Test.YtcbadebjpogmlaaGreatDoorVsAa
import Derived.Lib.LaidTab
import Derived.Stop.LaidErr
import Derived.Shaped
import Derived.ChangeMaps5
import Derived.Test.YtcbadebjpogmlaaGreatDoorTie
import Derived.Deep.DeepHandedRow
import Derived.Deep.DeepWitnessRowRef
import Derived.Lib.LaidIn
import Derived.Test.YtcbadebjpogmlaaGreatDoorRows
import Derived.JoinedCond
set_option maxHeartbeats 4000000
set_option maxRecDepth 100000
namespace Go.Proofs.YtcbadebjpogmlaaGreatDoor
open Go.RowKit Tr
theorem zo {s:List UInt8} {e e' p p':Nat} (h:EX s e p) (h':EX s e' p'):e=e'/\p=p':=by
 have h1:=h.ge h'.lv
 have h2:=h'.ge h.lv
 have hp:p=p':=by omega
 subst hp
 exact ⟨by have:=h.st; have:=h'.st; omega,rfl⟩
theorem uC {s:List UInt8} {e p:Nat} (h:EX s e p) (hf:Fin s):False:=by
 unfold Fin at hf
 have:=h.ge (i:=s.length+1) (by omega)
 have:=h.le
 omega
theorem sU {w:World} (n:Int) :
 Calls Tryz.prog 42 #[.int .i64 n] w λ r w'=>r=.returned (.int .i64 n)/\w'=w:=by
 go_enter Tryz.func42,Tryz.ntmps42
 go_wp2
 go_ret
 exact ⟨rfl,rfl⟩
theorem sV {a b:Bool} (h:a=b):Ending.returned (.bool a)=.returned (.bool b):=by rw [h]
def ig (k:Int) (n:Nat):Nat:=if k<0\/(n:Int)<=k then 0 else k.toNat
theorem Gm (k:Int) (n:Nat) (h:0<n):ig k n<n:=by unfold ig; split<;>omega
theorem Qy {w:World} (k:Int) (n:Nat) :
 Calls Tryz.prog 43 #[.int .i64 k,.int .i64 n] w λ r w'=>r=.returned (.int .i64 (ig k n:Nat))/\w'=w:=by
 by_cases h1:k<0
 ·have e:ig k n=0:=by simp [ig,h1]
  rw [e]
  clear e
  go_enter Tryz.func43,Tryz.ntmps43
  go_wp2
  go_ret
  exact ⟨rfl,rfl⟩
 have d1:decide (k<0)=false:=by simpa using h1
 by_cases h2:(n:Int)<=k
 ·have e:ig k n=0:=by simp [ig,h2]
  rw [e]
  clear e
  go_enter Tryz.func43,Tryz.ntmps43
  go_wp2
  go_ret
  exact ⟨rfl,rfl⟩
 have d2:decide ((n:Int)<=k)=false:=by simpa using h2
 have e:((ig k n:Nat):Int)=k:=by simp [ig,h1,h2]; omega
 rw [e]
 clear e
 go_enter Tryz.func43,Tryz.ntmps43
 go_wp2
 go_ret
 exact ⟨rfl,rfl⟩
def qi (s:ByteArray) (e p:Nat):Prop:=(120<s.size/\e=1/\p=0)\/(s.size<=120/\EX (bs s) e p)\/(s.size<=120/\Fin (bs s)/\10<C (bs s) (s.size+1)/\e=1/\p=0)
def Good (s:ByteArray):Prop:=s.size<=120/\Fin (bs s)/\C (bs s) (s.size+1)<=10
theorem wG {s:ByteArray} {e p e' p':Nat} (h:qi s e p) (h':qi s e' p'):e=e'/\p=p':=by
 rcases h with ⟨a,b,c⟩ | ⟨a,b⟩ | ⟨a,b,c,d,f⟩<;>rcases h' with ⟨a',b',c'⟩ | ⟨a',b'⟩ | ⟨a',b',c',d',f'⟩
 all_goals first | omega | exact zo b b' | exact absurd b' (λ x=>uC b x) | exact absurd b (λ x=>uC b' x)
theorem nL {s:ByteArray} {e p:Nat} (h:qi s e p) (g:Good s):False:=by
 obtain ⟨g1,g2,g3⟩:=g
 rcases h with ⟨a,_⟩ | ⟨_,b⟩ | ⟨_,_,c,_⟩
 ·omega
 ·exact uC b g2
 omega
def KW (gw:Nat) (lv:Value):Nat->Prop:=λ k=>k=gw\/lv.ownBlock=some k
theorem Tryz.wH:(Tryz.prog.info? 93).map (λ i=>(i.zero,i.size,i.bytes))=some (some (.pointer none),1,8):=by kernel_rfl
def cH (v:Tv):List Value:=[.string (bZ v.d.path),.int .i64 (v.d.ai:Nat),.int .i64 (v.d.to:Nat)]
theorem qj:(Tryz.prog.info? 42).map (λ i=>(i.zero,i.size,i.bytes))=some (some (.agg #[.string ⟨#[]⟩,.int .i64 0,.int .i64 0]),3,32):=by kernel_rfl
def zq (s:ByteArray) (xs:List Sg) (w:World) (r:Ending) (w':World):Prop :=
 ak w w'/\((cw (bs s)≠0/\r=.returned (.tuple #[.slice none 0 0,.int .i64 (cw (bs s):Nat),.int .i64 (nK (bs s):Nat)])) \/
  (cw (bs s)=0/\∃t sv,ja (bs s)=some t/\r=.returned (.tuple #[sv,.int .i64 0,.int .i64 0])/\w'.ownsRow w.heap.size 42 3 sv (aI xs [t]).length ((aI xs [t]).flatMap cH)))
theorem Bn {N:List Tv} {k:Nat} (h:k<N.length):(N.take (k+1)).flatMap cH=(N.take k).flatMap cH++cH N[k]:=by
 rw [List.take_succ_eq_append_getElem h,List.flatMap_append]; simp
theorem Gn {w:World} {gq b:Nat} {tt:ByteArray} {xs:List Sg} (hq:ay w gq #[.pointer (some ⟨b,0,none⟩)] 77) (hp:∀w',ak w w'->oD w' b tt xs) (he:EN w) (hx:∀g ∈ xs,0<g.l.length) (hsel:fJ xs<=10) (s:ByteArray) (hs:s.size<=1100000) :
 Calls Tryz.prog 18 #[.pointer (some ⟨gq,0,none⟩),.string s] w (zq s xs w):=by
 obtain ⟨i0,hi,hz0,hz1,dN⟩:=info_parts qj
 have HI:=aa hi
 have ia:=aa hz0
 have gO:=aa hz1
 have ic:=aa dN
 have HE:=aa he
 have HP:=aa hp
 have HQ:=aa hq
 have HX:=aa hx
 clear hi hz0 hz1 dN he hp hq hx
 go_enter Tryz.func18,Tryz.ntmps18
 go_wp2_with fail
 refine (Qs s (by omega)).mono ?_
 rintro r w1 ⟨sL,hr⟩
 have K1:=aa sL
 clear sL
 rcases hr with ⟨hne,rfl⟩ | ⟨h0,A,D,t,ix,gz,rfl,vM,rO,wD,hpa,hD⟩
 ·have hd:((cw (bs s):Int) != 0)=true:=by rw [bne_iff_ne]; omega
  have HN:=aa hne
  clear hne
  go_wp2
  go_ret3
  exact ⟨K1.out,Or.inl ⟨HN.out,rfl⟩⟩
 have hl:(bs s).length<=4000000:=by rw [an]; omega
 obtain ⟨hT,_⟩:=uw hl h0 gz
 obtain ⟨hfr,hnm⟩:=qb hl h0 gz
 have hN:∀k,k<=xs.length->(aI (xs.take k) [t]).length<=900000000000:=λ k hk=>by
  have a:=nC hT hfr xs HX.out hsel hk
  have b:(bs s).length * 524288<=1100000 * 524288:=Nat.mul_le_mul_right _ (by rw [an]; exact hs)
  omega
 have hroot:PH w1 1 (A t.d.ai) t.d.path:=by
  obtain ⟨_,_,_,⟨sv,q1,_,_⟩,_⟩:=rO
  exact ⟨_,_,ix,sv,q1,vM,(hnm t (List.mem_cons_self)).1,Or.inl ⟨rfl,hpa⟩⟩
 have hall:=Gp rO wD hnm vM hroot (by omega)
 have Qz:Hid (∀v ∈ au 10 t,∀W,ak w1 W->Calls Tryz.prog 36 #[.pointer (some ⟨A v.d.ai,0,none⟩)] W λ r w'=>r=.returned (Lt v.d.path v.d.ai v.d.to)/\ak W w'):=λ v hv W hW=>by
  obtain ⟨d',par',qh,jG,q1,q2,q3⟩:=hall v hv
  exact Qv q1 ((HE.out.keep K1.out).keep hW) (q2.keep hW) (q3.fr hW id)
 have hsub:∀v ∈ aI xs [t],v ∈ au 10 t:=jA hT xs [t] (λ u hu=>by rw [List.mem_singleton.1 hu]; exact bM hT.d)
 have hNl:(aI xs [t]).length<=900000000000:=by have:=hN xs.length (Nat.le_refl _); rwa [List.take_length] at this
 have CN:=aa (Lu (HP.out w1 K1.out) rO hD hT hN)
 have q0:w1.cell? ⟨gq,0,none⟩=some (.pointer (some ⟨b,0,none⟩)):=(HQ.out.fr K1.out id).cell 0
 have H0:=aa h0
 have OD:=aa gz
 have QA:=aa hsub
 clear hl hT hfr hnm hN hroot hall rO wD hpa hD h0 gz vM hsub HE HP HQ
 generalize QB:aI xs [t]=N at *
 unfold iS at CN
 go_wp2_with fail
 refine CN.out.mono ?_
 rintro r w2 ⟨iA,rfl,hk2,QC⟩
 obtain ⟨a2,c2,QD⟩:=ah QC
 subst QD
 have K2:=aa hk2
 have O2:=aa QC
 clear hk2 QC CN
 go_wp2
 go_loopw [10,30] (λ sv i wr=>∃k:Nat,k<=N.length/\i=.int .i64 k/\ak w2 wr/\wr.ownsRow w2.heap.size 42 3 sv k ((N.take k).flatMap cH)) (λ_ i _=>N.length - (intOf i).toNat)
 case atStart=>exact ⟨0,Nat.zero_le _,rfl,Fr.refl _ _,World.ownsRow_nil _ _ _ _⟩
 case round =>
  obtain ⟨k,hk,rfl,hK,hO⟩:=hrel
  obtain ⟨a5,c5,Qx⟩:=ah hO
  subst Qx
  have KK:=aa hK
  have OO:=aa hO
  clear hK hO
  by_cases hlt:k<N.length
  ·obtain ⟨g2,cap2,lY,_,OE⟩:=O2.out.form (by omega)
   simp only [Value.slice.injEq,true_and] at lY
   obtain ⟨rfl,rfl⟩:=lY
   have ce:wr.cell? ⟨g2,k,none⟩=some (.pointer (some ⟨A (N[k]).d.ai,0,none⟩)):=by
    rw [KK.out.cell (p:=⟨g2,k,none⟩) OE id,O2.out.cellAt k (by omega)]
    simp [hlt]
   have ND:=aa (Qz.out N[k] (QA.out _ (List.getElem_mem hlt)) wr (K2.out.trans KK.out))
   have hnd:cH N[k]=[.string (bZ (N[k]).d.path),.int .i64 ((N[k]).d.ai:Nat),.int .i64 ((N[k]).d.to:Nat)]:=rfl
   have ZR:=aa hnd
   have NT:=aa (Bn hlt)
   clear hnd
   generalize N[k]=v at *
   unfold Lt at ND
   go_wp2_with fail
   refine ND.out.mono ?_
   rintro r w3 ⟨rfl,qm⟩
   have K3:=aa (KK.out.trans qm)
   have bI:w3.ownsRow w2.heap.size 42 3 (.slice a5 k c5) k ((N.take k).flatMap cH):=bJ OO.out (λ i hi=>qm.block i (OO.out.lt i hi).2 id)
   have hs3:w2.heap.size<=w3.heap.size:=K3.out.size
   clear qm KK ND
   generalize bZ v.d.path=PB at *
   go_wp2_with (at_builtin; refine wpList_append_own_at _ rfl _ _ 29 rfl w2.heap.size 42 i0 _ 3 32 Tryz.underlying29 HI.out ia.out gO.out ic.out rfl (by decide) _ _ _ rfl (bI.alloc _) ⟨w3.heap.size,0,none⟩ 1 1 [.string PB,.int .i64 (v.d.ai:Nat),.int .i64 (v.d.to:Nat)] rfl rfl ?c1 ?c2 ?c3 ?c4 ?c5 ?_)
   case c1 =>
    intro j u hj
    match j,hj with
    | 0,hj=>simp at hj; subst hj; simp [Addr.add]
    | 1,hj=>simp at hj; subst hj; simp [Addr.add]
    | 2,hj=>simp at hj; subst hj; simp [Addr.add]
   case c2=>intro u hu; simp at hu; rcases hu with rfl | rfl | rfl<;>rfl
   case c3=>unfold maxLen; omega
   case c4=>omega
   case c5=>simp; omega
   intro v' w5 cN hgrow _ kP
   obtain ⟨a6,c6,ZS⟩:=ah cN
   subst ZS
   have E6:Hid (ak w2 w5/\w5.ownsRow w2.heap.size 42 3 (.slice a6 (k+1) c6) (k+1) ((N.take (k+1)).flatMap cH)):=by
    refine ⟨?_,by rw [NT.out,ZR.out]; exact cN⟩
    have k4:ak w2 (w3.alloc (.cells #[.string PB,.int .i64 (v.d.ai:Nat),.int .i64 (v.d.to:Nat)] 42)):=K3.out.alloc _
    exact ⟨hgrow.os.trans k4.os,hgrow.tape.trans k4.tape,hgrow.output.trans k4.output,Nat.le_trans k4.size hgrow.size,λ i hi _=>by
     rw [hgrow.block i (Nat.lt_of_lt_of_le hi k4.size) (λ e=>by have:=(bI.lt i e.symm).1; omega)]; exact k4.block i hi id⟩
   clear cN hgrow kP bI
   go_wp2
   go_roundw
   case rel=>exact ⟨k+1,by omega,by go_num,E6.out.1,E6.out.2⟩
   case measure=>simp [intOf]; omega
  have OF:k=N.length:=by omega
  subst OF
  have jS:Hid (zq s xs w (.returned (.tuple #[.slice a5 N.length c5,.int .i64 0,.int .i64 0])) wr):=by
   refine ⟨(K1.out.trans K2.out).trans KK.out,Or.inr ⟨H0.out,t,_,OD.out,rfl,?_⟩⟩
   rw [QB]
   have:=OO.out
   rw [List.take_length] at this
   exact wE this (Nat.le_trans K1.out.size K2.out.size)
  go_wp2
  go_ret3
  exact jS.out
structure oF where
 k:Int
 p:Int
 m:Int
 s:ByteArray
def oF.cells (o:oF):List Value:=[.int .i64 o.k,.int .i64 o.p,.int .i64 o.m,.string o.s]
def dF (l:List oF):List Value:=l.flatMap oF.cells
theorem mF (l:List oF):(dF l).length=l.length * 4:=by
 induction l with
 | nil=>rfl
 | cons a r ih =>
  have e:dF (a::r)=a.cells++dF r:=rfl
  rw [e,List.length_append,ih]
  have:a.cells.length=4:=rfl
  simp only [List.length_cons]; omega
theorem gh (l:List oF):∀(k i:Nat) (h:k<l.length),i<4->(dF l)[k * 4+i]?=(l[k]).cells[i]?:=by
 induction l with
 | nil=>intro k i h; simp at h
 | cons a r ih =>
  intro k i h hi
  have e:dF (a::r)=a.cells++dF r:=rfl
  rw [e]
  have hl:a.cells.length=4:=rfl
  cases k with
  | zero=>rw [List.getElem?_append_left (by omega)]; simp
  | succ k =>
   rw [List.getElem?_append_right (by omega)]
   rw [show (k+1) * 4+i - a.cells.length=k * 4+i from by omega]
   exact ih k i (by simpa using h) hi
theorem zu:Good ⟨#[36,91,42,93,46,46,97,91,45,49,93]⟩:=by
 refine ⟨by decide,?_,?_⟩
 ·show (M [36,91,42,93,46,46,97,91,45,49,93] 12).st=26
  decide
 show C [36,91,42,93,46,46,97,91,45,49,93] 12<=10
 decide
theorem Tryz.QE:(Tryz.prog.info? 64).map (λ i=>(i.zero,i.size,i.bytes))=some (some (.agg #[.int .i64 0,.int .i64 0,.int .i64 0,.string ⟨#[]⟩]),4,40):=by kernel_rfl
def mG (w:World) (a:Option Addr) (n cp:Nat) (ops:List oF):Prop :=
 (a=none/\n=0/\cp=0/\ops=[])\/∃ad:Addr,a=some ad/\n=ops.length/\ad.block<w.heap.size/\∀j u,(dF ops)[j]?=some u->w.cell? (ad.add j)=some u
theorem nM (l:List oF):∀u ∈ dF l,u.oneCell'=true:=by
 intro u hu
 simp only [dF,List.mem_flatMap] at hu
 obtain ⟨o,_,ho⟩:=hu
 simp [oF.cells] at ho
 rcases ho with rfl | rfl | rfl | rfl<;>rfl
theorem pQ:Tryz.prog.cellsOf 64=4:=by kernel_rfl
theorem jH:Tryz.prog.cellsOf 3=1:=by kernel_rfl
theorem qn:Tryz.prog.cellsOf 9=1:=by kernel_rfl
theorem wI:∃f0 f1 f2 f3:Field,Tryz.prog.underlying 64=some (.struct #[f0,f1,f2,f3])/\(f0.type=3/\f0.offset=0)/\(f1.type=3/\f1.offset=1)/\(f2.type=3/\f2.offset=2)/\(f3.type=9/\f3.offset=3) :=
 ⟨_,_,_,_,Tryz.underlying64,⟨rfl,rfl⟩,⟨rfl,rfl⟩,⟨rfl,rfl⟩,⟨rfl,rfl⟩⟩
section
variable {H:Type} {enc:TypeId×Value->H} {P:Program} {w:World} {base:Nat} {spare:Nat->Bool} {held:Bool}
theorem four {α:Type} {l:List α} (h:l.length=4):∃a b c d,l=[a,b,c,d]:=by
 match l,h with
 | [a,b,c,d],_=>exact ⟨a,b,c,d,rfl⟩
end
end Go.Proofs.YtcbadebjpogmlaaGreatDoor
namespace Go.Proofs.YtcbadebjpogmlaaGreatDoor
open Go.ChangeShapes Go.WideShapes Go.ChangeAt Go.RowKit
section
variable {H:Type} {enc:TypeId×Value->H} {P:Program}
end
def OpT (t:TypeId):Prop:=t=22\/t=64\/t=3\/t=9
theorem Gq:Kids Tryz.prog OpT:=by
 obtain ⟨f0,f1,f2,f3,hu,⟨t0,o0⟩,⟨t1,o1⟩,⟨t2,o2⟩,⟨t3,o3⟩⟩:=wI
 have u0:=Tryz.underlying22
 have u2:=Tryz.underlying3
 have u3:=Tryz.underlying9
 refine ⟨?_,?_,?_,?_,?_⟩
 ·rintro t e (rfl | rfl | rfl | rfl) h
  ·rw [u0] at h; cases h
  ·rw [hu] at h; cases h
  ·rw [u2] at h; cases h
  rw [u3] at h; cases h
 ·rintro t e (rfl | rfl | rfl | rfl) h
  ·rw [u0] at h; cases h; exact Or.inr (Or.inl rfl)
  ·rw [hu] at h; cases h
  ·rw [u2] at h; cases h
  rw [u3] at h; cases h
 ·rintro t e n (rfl | rfl | rfl | rfl) h
  ·rw [u0] at h; cases h
  ·rw [hu] at h; cases h
  ·rw [u2] at h; cases h
  rw [u3] at h; cases h
 ·rintro t fs (rfl | rfl | rfl | rfl) h
  ·rw [u0] at h; cases h
  ·rw [hu] at h; cases h
   refine ⟨λ f hf=>?_,?_,λ j f hf=>?_⟩
   ·simp at hf
    rcases hf with rfl | rfl | rfl | rfl
    ·exact Or.inr (Or.inr (Or.inl t0))
    ·exact Or.inr (Or.inr (Or.inl t1))
    ·exact Or.inr (Or.inr (Or.inl t2))
    exact Or.inr (Or.inr (Or.inr t3))
   ·simp [t0,t1,t2,t3,pQ,jH,qn]
   match j with
   | 0=>simp at hf; subst hf; simp [o0]
   | 1=>simp at hf; subst hf; simp [o1,t0,jH]
   | 2=>simp at hf; subst hf; simp [o2,t0,t1,jH]
   | 3=>simp at hf; subst hf; simp [o3,t0,t1,t2,jH]
   | j+4=>simp at hf
  ·rw [u2] at h; cases h
  rw [u3] at h; cases h
 rintro t k e (rfl | rfl | rfl | rfl) h
 ·rw [u0] at h; cases h
 ·rw [hu] at h; cases h
 ·rw [u2] at h; cases h
 rw [u3] at h; cases h
theorem UW {t e:TypeId} (h:OpT t) (hu:Tryz.prog.underlying t=some (.slice e)):0<Tryz.prog.cellsOf e:=by
 have:=Gq.slice h hu
 rcases this with rfl | rfl | rfl | rfl
 ·show 0<Tryz.prog.cellsOf 22
  rw [show Tryz.prog.cellsOf 22=1 by kernel_rfl]; decide
 ·rw [pQ]; decide
 ·rw [jH]; decide
 rw [qn]; decide
end Go.Proofs.YtcbadebjpogmlaaGreatDoor
namespace Go.Proofs.YtcbadebjpogmlaaGreatDoor
open Go.RowKit Tr
structure Fx where
 tl:List (List Ct)
 hd:Option Nat
 told:List (Tv×Nat)
 Yr:Value
 UX:Value
def UY (f:Nat):Value:=.pointer (some ⟨f,0,none⟩)
def ffb (f:Nat):Value:=.func (.func 77) #[UY f] #[]
def ffc (f:Nat):Value:=.func (.func 78) #[UY f] #[]
def fgc (b f:Nat) (x:Fx) (a n i:Value):Array Value:=fwc (UY b) (ffb f) (ffc f) a n i x.Yr (hdv x.hd) x.UX
def tcl (p:Tv×Nat):List Value:=Lw p.1.d.path p.1.d.ai p.1.d.to p.2
structure FS (b:Nat) (tt:ByteArray) (xs:List Sg) (Dp:Nat->Prop) (H:Nat->Option Obj) (w:World) (D:Nat->Prop) (x:Fx):Prop where
 p:fR Dp w (λ w=>oD w b tt xs)
 pl:∀k,Dp k->k<w.heap.size
 e:EN w
 t:w.ownsRow 0 202 22 x.Yr x.tl.length (x.tl.flatMap tlc)
 o:w.ownsRow 0 44 4 x.UX x.told.length (x.told.flatMap tcl)
 nt:∀k,x.Yr.ownBlock=some k->x.UX.ownBlock≠some k/\¬Dp k/\¬TS k
 no:∀k,x.UX.ownBlock=some k->¬Dp k/\¬TS k
 d:∀k,D k↔Dp k\/TS k\/x.Yr.ownBlock=some k\/x.UX.ownBlock=some k
 sm:∀k,Dp k\/TS k->w.heap[k]?=H k
theorem mH {α:Type} (l:List α) (a:α) (h:l≠[]):l=l.dropLast++[l.getLastD a]:=by
 cases l with
 | nil=>exact absurd rfl h
 | cons x y =>
  have:=List.dropLast_concat_getLast (l:=x::y) (by simp)
  simpa [List.getLastD] using this.symm
def HdR (A:Nat->Nat) (st:List Fm) (h xh:Option Nat):Prop:=match h with
 | none=>xh=none
 | some k=>∃a g c,st=a++g::c/\c.length=k/\xh=some (A g.d.ai)
structure FI (b f:Nat) (tt:ByteArray) (xs:List Sg) (Dp:Nat->Prop) (H:Nat->Option Obj) (w:World) (s:Fw) (x:Fx) (A:Nat->Nat) (C M D:Nat->Prop):Prop where
 g:GI f 170 (fgc b f) (FS b tt xs Dp H) w s.g x A C M D
 ok:FOk xs s
 nm:Qa s.g
 tl:x.tl=s.tl
 told:x.told=s.told
 hd:HdR A s.g.st s.hd x.hd
def FE (b f:Nat) (tt:ByteArray) (xs:List Sg) (Dp:Nat->Prop) (H:Nat->Option Obj) (w:World) (E:Nat->Prop) (s:Fw):Prop:=∃x A C M D,FI b f tt xs Dp H w s x A C M D/\∀k,E k↔D k\/M k\/C k\/k=f
end Go.Proofs.YtcbadebjpogmlaaGreatDoor
namespace Go.Proofs.YtcbadebjpogmlaaGreatDoor
open Go.RowKit Tr Go.Conc
def cS (cb ch cap:Nat) (w:World) (D:Nat->Prop) (ts:List Tr.Tok):Prop:=ay w cb #[.chan (some ch)] 171/\(∃sn rn tm,w.heap[ch]?=some (.chan cap (ts.map gD).toArray false sn rn tm))/\cb≠ch/\∀k,D k↔k=cb\/k=ch
def RZ (w:World) (r:Nat) (Er:Nat->Prop) (z:Sn):Prop:=∃ov bp bv,RS w r z.st z .nilFunc ov bp bv/\∀k,Er k↔k=r\/ov.ownBlock=some k\/bv.ownBlock=some k
def x0:Fx:=⟨[],none,[],.slice none 0 0,.slice none 0 0⟩
def QF (p:List UInt8):Nat:=(aB az p).e
def ZT (p:List UInt8):Nat:=if QF p=0 then 0 else (aB az p).z.at'
def stN (xs:List Sg) (p q:List UInt8):List (Tv×Nat):=if QF p=0 then (Qd xs (noT (Qd xs On (aB az p).ts)) (aB (aB az p).z q).ts).told else []
def ST (sb b:Nat) (tt:ByteArray) (xs:List Sg) (Dp:Nat->Prop) (H:Nat->Option Obj) (w:World) (Es:Nat->Prop) (p:List UInt8):Prop :=
 (QF p=0/\∃r f Er E,ay w sb #[UY r,UY f,.int .i64 0,.int .i64 0] 135/\RZ w r Er (aB az p).z/\FE b f tt xs Dp H w E (noT (Qd xs On (aB az p).ts))/\(∀k,Er k->¬E k/\k≠sb)/\¬E sb/\∀k,Es k↔Er k\/E k\/k=sb) \/
 (QF p≠0/\ay w sb #[.pointer none,.pointer none,.int .i64 (QF p:Nat),.int .i64 (ZT p:Nat)] 135/\(∀k,Dp k\/TS k->w.heap[k]?=H k/\k<w.heap.size/\k≠sb)/\∀k,Es k↔k=sb\/Dp k\/TS k)
def hq1:ByteArray:=⟨#[36,46,46,97]⟩
def hx1:ByteArray:=⟨#[123,34,97,34,58,91,49,44,123,34,97,34,58,50,125,93,125]⟩
def ZU:ByteArray:=⟨#[36,91,63,64,46,120,60,61,50,38,38,33,64,46,121,93]⟩
def hx2:ByteArray:=⟨#[91,123,34,120,34,58,50,125,44,123,34,120,34,58,49,44,34,121,34,58,48,125,44,123,34,120,34,58,51,125,93]⟩
def Ys:ByteArray:=⟨#[36,91,42,93,91,45,49,93]⟩
def hp1:ByteArray:=⟨#[91,91,49,44,50,93,44,91,51]⟩
def Kl:ByteArray:=⟨#[93,93]⟩
set_option maxRecDepth 100000
def tkP (p:Tv×Nat):List UInt8×Nat×Nat×Nat:=(p.1.d.path,p.1.d.ai,p.1.d.to,p.2)
theorem ok3:QF (bs hp1)=0/\(stN (cK (bs Ys)) [] (bs hp1)).map tkP=[([36,91,48,93,91,49,93],4,5,1)]/\QF (bs hp1++bs Kl)=0/\(stN (cK (bs Ys)) (bs hp1) (bs Kl)).map tkP=[([36,91,49,93,91,48,93],8,9,1)]:=by decide +kernel
end Go.Proofs.YtcbadebjpogmlaaGreatDoor
namespace Go.Proofs.YtcbadebjpogmlaaGreatDoor
open Go.ChangeShapes Go.WideShapes Go.ChangeAt Go.RowKit Go.ChangeMaps
theorem Bo:Tryz.prog.globalNamed "strconv.ErrSyntax"=some 6:=by kernel_rfl
theorem Gr:(Tryz.prog.globals[6]?).map (·.type)=some 180:=by kernel_rfl
theorem ZV:Tryz.prog.cellsOf 336=1:=by kernel_rfl
theorem ZW:Tryz.prog.cellsOf 9=1:=by kernel_rfl
theorem OG: "*"++ "errors.errorString"= "*errors.errorString":=by decide
theorem ZX (u:TypeId) (h:Tryz.prog.typeName? 3 u=some "*errors.errorString"):u=334 :=
 typeName_ptr_named (nm:= "errors.errorString") (by rw [OG]; kernel_rfl) (by kernel_rfl) (by decide) u (by rw [OG]; exact h)
theorem UZ:(Tryz.prog.globals[0]?).map (·.type)=some 277:=by kernel_rfl
theorem U0:Tryz.prog.cellsOf 277=20:=by kernel_rfl
theorem U1:Tryz.prog.cellsOf 258=1:=by kernel_rfl
theorem ZY:(Rows.laid_internal_strconv_uint64pow10:DataW Unit)=Lib.tabData .u64 Lib.pow10Tab:=by kernel_rfl
def QG:List (String×DataW Unit):=[("math/bits.deBruijn32tab",Rows.laid_math_bits_deBruijn32tab),("math/bits.deBruijn64tab",Rows.laid_math_bits_deBruijn64tab),("internal/strconv.uint64pow10",Rows.laid_internal_strconv_uint64pow10),("unicode/utf8.acceptRanges",Rows.laid_unicode_utf8_acceptRanges),("strconv.ErrRange",Rows.laid_strconv_ErrRange),("strconv.ErrSyntax",Rows.laid_strconv_ErrSyntax),("unicode/utf8.first",Rows.laid_unicode_utf8_first)]
theorem U2:(((begin Tryz.prog (λ_ _=>0) default).world.heap[1]?).bind Obj.row?)=some (#[.int .i64 0],3):=by kernel_rfl
theorem U3:((((begin Tryz.prog (λ_ _=>0) default).world.heap[0]?).bind Obj.row?).map (·.2))=some 277:=by kernel_rfl
theorem U4:Tryz.prog.buildable 3=true:=by kernel_rfl
theorem U5:Tryz.prog.cellTypes Tryz.prog.depth 3=some [3]:=by kernel_rfl
theorem U6 {W:World} (h:laidMetH Tryz.prog QG W) (hs:W.ShapedOpen Tryz.prog):EN W:=by
 have h2:laidMet Tryz.prog QG W:=h
 have hlt:∀{g:Nat} {v:Value},W.cell? ⟨g,0,none⟩=some v->g<W.heap.size:=λ{g v} hc=>World.block_lt_of_cell? W ⟨g,0,none⟩ hc
 obtain ⟨a,s,hv,_,_,_⟩:=laid_sentinel h2.tail.tail.tail.tail.tail Bo Gr Tryz.underlying180 ZX Tryz.underlying334 Tryz.underlying336 rfl rfl Tryz.underlying9 ZV ZW
 have hc:W.cell? ⟨6,0,none⟩=some (.iface 334 (.pointer (some a))):=by simpa using World.var?_cell Bo hv 0
 have h3:=h2.tail.tail
 rw [ZY] at h3
 have hT:=Lib.tabIs_of_head Uu UZ Tryz.underlying277 Tryz.underlying258 U1 U0 h3
 obtain ⟨cs,hm,hz,hok⟩:=hs.1 1 _ _ (by decide +kernel) U2
 obtain ⟨ts,t1,t2,t3⟩:=hok U4
 rw [U5] at t1
 obtain rfl:=Option.some.inj t1
 have hz1:cs.size=1:=hz
 obtain ⟨v,Yt⟩:∃v,cs[0]?=some v:=⟨cs[0],by simp [hz1]⟩
 obtain ⟨u,hu,hcell⟩:=t3 0 v Yt
 have hu:u=3:=by simpa using hu.symm
 subst hu
 unfold Cell.ok at hcell
 rw [Tryz.underlying3] at hcell
 have hmc:W.cell? ⟨1,0,none⟩=some v:=by
  have:ay W 1 cs 3:=hm
  rw [this.cell 0]; exact Yt
 have hpl:0<W.heap.size:=by
  obtain ⟨y,hy,hy2⟩:=Option.map_eq_some_iff.1 U3
  obtain ⟨cs2,hm2,_⟩:=hs.1 0 y.1 y.2 (by decide +kernel) hy
  exact bH hm2
 refine ⟨⟨⟨_,hc,Or.inr ⟨_,_,rfl⟩⟩,hlt hc⟩,hT,hpl,?_,hlt hmc⟩
 cases v with
 | int k m =>
  obtain ⟨rfl,_⟩:=hcell
  exact ⟨m,hmc⟩
 | _=>exact hcell.elim
section
variable {H:Type} {enc:TypeId×Value->H} {P:Program}
theorem zv {f:Func} {s:ChangeSpec} {apart fresh handsOn again:Bool} {W W':World} {args:Array Value} {v:Value} {ds gs:List (DataW H)} {before pa pv:List MemPlace}
 (hW:DataW.Whole enc P f.params.toList s.vars apart W args.toList ds gs before)
 (hres:∀(b:Nat) (sp:Nat->Bool) (hd:Bool),DataW.TrodAll enc P W' b sp hd f.resultTypes.toList (v.resultList f.resultTypes.size) (s.fn H (ds++gs)).results [])
 (hargs:∀sp:Nat->Bool,(∀p ∈ before,sp p.block=true)->DataW.TrodAll enc P W' 0 sp true f.params.toList args.toList (s.fn H (ds++gs)).args pa)
 (hvars:∀sp:Nat->Bool,(∀p ∈ before,sp p.block=true)->DataW.TrodVars enc P W' sp s.vars (s.fn H (ds++gs)).vars pv)
 (hps:before=pa++pv) (hk:ak W W')
 (hok:∀(j:Nat) (t:TypeId) (r:Value),f.resultTypes[j]?=some t->(v.resultList f.resultTypes.size)[j]?=some r->Value.okWide P W' .any 0 t r) :
 s.post enc P f apart fresh handsOn again W args v W':=by
 have hlt:=hW.lt
 have hb:W.keptBut W' (· ∈ before):=(World.keptBut_refl W _).congr hk.os hk.output (λ i hi=>hk.block i hi id)
 refine ⟨ds,gs,before,[],pa,pv,hW,hres _ _ _,hargs _ (λ p hp=>by simpa using hlt p hp),hvars _ (λ p hp=>by simpa using hlt p hp),
  World.keptBut_mono (λ p hp=>⟨hp,Or.inr (List.mem_append.1 (hps▸hp))⟩) hb,λ_=>?_⟩
 obtain ⟨_,_,_,_,_,hz,hn⟩:=hW
 refine ⟨hok,_,_,([]++pa)++pv,⟨[]++pa,pv,trodAll_append (hargs _ (λ_ _=>rfl)) (hres _ _ _),hvars _ (λ_ _=>rfl),rfl,λ b off hp=>?_,λ ha=>?_⟩,λ p hp _=>?_⟩
 ·have hm:MemPlace.cell b off ∈ before:=by rw [hps]; simpa using hp
  rw [hk.frozen (p:=⟨b,off,none⟩) (hlt _ hm) id]
  exact hz b off hm
 ·have:=hn ha
  rw [hps] at this
  simpa using this
 rw [hps]; simpa using hp
end
end Go.Proofs.YtcbadebjpogmlaaGreatDoor
namespace Go.Proofs.YtcbadebjpogmlaaGreatDoor
open Go.ChangeShapes Go.WideShapes Go.ChangeAt Go.RowKit
theorem own:ownKnob Tryz.prog.godebug=none:=by kernel_rfl
def U7:DataW Unit->Value
 | .lit (.int k n)=>.int k n
 | _=>.nilIface
def U8:DataW Unit->List Value
 | .agg ps=>ps.map U7
 | d=>[U7 d]
def wJ:DataW Unit->Array Value
 | .agg ps=>(ps.flatMap U8).toArray
 | _=>#[]
def qo (h:Array Obj) (g:Nat) (cs:Array Value):Array Obj:=h.modify g fun
 | .cells _ t frozen=>.cells cs t frozen
 | o=>o
def qp:Input:=⟨#[.cells #[.string ⟨#[118,97,108,117,101,32,111,117,116,32,111,102,32,114,97,110,103,101]⟩] 336,
 .cells #[.string ⟨#[105,110,118,97,108,105,100,32,115,121,110,116,97,120]⟩] 336],#[],[]⟩
def qq (N:Nat) (w0:World):World :=
 let h0:=qo (qo w0.heap 7 #[.iface 334 (.pointer (some ⟨N,0,none⟩))]) 6 #[.iface 334 (.pointer (some ⟨N+1,0,none⟩))]
 let h1:=qo h0 4 (wJ Rows.laid_math_bits_deBruijn32tab)
 let h2:=qo h1 5 (wJ Rows.laid_math_bits_deBruijn64tab)
 let h3:=qo h2 0 (wJ Rows.laid_internal_strconv_uint64pow10)
 let h4:=qo h3 3 (wJ Rows.laid_unicode_utf8_acceptRanges)
 let h5:=qo h4 2 (wJ Rows.laid_unicode_utf8_first)
 { w0 with heap:=h5 }
theorem Gu (os:Os) (args:Array Value):laidMet Tryz.prog Rows.selectsUptoRow.laid ((qq (World.settled Tryz.prog os).heap.size (World.holding Tryz.prog os qp)).forCall (λ_ _=>0) ⟨#[],args,[]⟩).memory :=
 (LaidIn.of_run [0,1,2,3,4,5,6,7,(World.settled Tryz.prog default).heap.size,(World.settled Tryz.prog default).heap.size+1] 8 (by kernel_rfl) (by kernel_rfl) (by kernel_rfl) (by kernel_rfl)).met
theorem wK (os:Os) {H:Type} (enc:TypeId×Value->H) :
 (Rows.OpenSpec.upto Rows.selectsSpec).preRow enc Tryz.prog Tryz.f4 Rows.selectsUptoRow.domain false Rows.selectsUptoRow.laid ((qq (World.settled Tryz.prog os).heap.size (World.holding Tryz.prog os qp)).forCall (λ_ _=>0) ⟨#[],#[.slice none 0 0],[]⟩).memory #[.slice none 0 0]:=by
 have hw:(DataW.whole enc Tryz.prog ((qq (World.settled Tryz.prog os).heap.size (World.holding Tryz.prog os qp)).forCall (λ_ _=>0) ⟨#[],#[.slice none 0 0],[]⟩).memory Tryz.f4.params.toList Rows.selectsSpec.vars false #[Value.slice none 0 0].toList 8).map (λ x=>(x.1,x.2.1)) =
  some ([.nil],[]):=by kernel_rfl
 obtain ⟨⟨x1,x2,x3⟩,hx,hx1⟩:=Option.map_eq_some_iff.1 hw
 simp only [Prod.mk.injEq] at hx1
 obtain ⟨rfl,rfl⟩:=hx1
 exact OpenSpec.preRow_of_cond 8 hx (by kernel_rfl) (λ k hk=>by cases hk; kernel_rfl) (by kernel_rfl) (Gu os _)
theorem U9 (os:Os):((qq (World.settled Tryz.prog os).heap.size (World.holding Tryz.prog os qp)).forCall (λ_ _=>0) ⟨#[],#[.slice none 0 0],[]⟩).variablesRefB Tryz.prog=true:=by kernel_rfl
theorem U_ (os:Os):(((qq (World.settled Tryz.prog os).heap.size (World.holding Tryz.prog os qp)).forCall (λ_ _=>0) ⟨#[],#[.slice none 0 0],[]⟩).heap.toList.drop Tryz.prog.globals.size).take ((begin Tryz.prog (λ_ _=>0) default).world.heap.size - Tryz.prog.globals.size) =
 (begin Tryz.prog (λ_ _=>0) default).world.heap.toList.drop Tryz.prog.globals.size:=by kernel_rfl
theorem QH (os:Os):Input.okWideB Tryz.prog ((qq (World.settled Tryz.prog os).heap.size (World.holding Tryz.prog os qp)).forCall (λ_ _=>0) ⟨#[],#[.slice none 0 0],[]⟩) 4 ⟨#[],#[.slice none 0 0],[]⟩=true:=by kernel_rfl
theorem Lx:Tryz.prog.inits.idxOf? 4=none:=by kernel_rfl
end Go.Proofs.YtcbadebjpogmlaaGreatDoor
namespace Go.Proofs.YtcbadebjpogmlaaGreatDoor
open Go
set_option maxRecDepth 100000
theorem zw:(Rows.selectsUptoRow.inPlace == Tryz.pinned.checked.prog.inPlace 4)=true:=by kernel_rfl
theorem Gv:(Rows.selectsUptoRow.unfollowed == Tryz.pinned.checked.prog.unfollowed 4)=true:=by kernel_rfl
theorem Gw:(Rows.selectsUptoRow.recurses == Tryz.pinned.checked.prog.recurses 4)=true:=by kernel_rfl
theorem zx:(Rows.selectsUptoRow.named == Tryz.pinned.checked.prog.varsNamed 4)=true:=by kernel_rfl
theorem Gx:laidOutB Tryz.pinned.checked.prog=true:=by kernel_rfl
theorem C0:mapsRowed Tryz.pinned.checked.prog=true:=by kernel_rfl
theorem facts:joinedFacts Tryz.pinned.checked.prog 4 Tryz.f4 (Rows.OpenSpec.upto Rows.selectsSpec).bare Rows.selectsUptoRow=true:=by
 unfold joinedFacts
 rw [zw,Gv,Gw,zx,Gx,C0]
 kernel_rfl
end Go.Proofs.YtcbadebjpogmlaaGreatDoor
