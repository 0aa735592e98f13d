import Derived.Test.YtcbadebjpogmlaaGreatDoorVsTyH
import Derived.Deep.DeepCutAuto
import Derived.Test.YtcbadebjpogmlaaGreatDoorVsQc
import Derived.Test.YtcbadebjpogmlaaGreatDoorVsLawA
set_option maxHeartbeats 8000000
set_option maxRecDepth 100000
namespace Go.Proofs.YtcbadebjpogmlaaGreatDoor
open Go.RowKit Tr
theorem NY {w:World} {A:Nat->Nat} {D:Nat->Prop} {hi:Nat} {S:Tv->Prop} {sl:Value} {gs:List Sg} {t:Tv} (h:NE w A D hi S sl gs) (ht:S t) (qg:gs.length<=1000) (Kr:∀g ∈ gs,g.l.length<=1000)
 (hlim:∀i,i<=gs.length->(aI (gs.take i) [t]).length<=1048576000000) :
 Calls Tryz.prog 95 #[sl,.pointer (some ⟨A t.d.ai,0,none⟩)] w λ r w'=>∃sv,r=.returned sv/\mj w A (aI gs [t]) sv w':=by
 obtain ⟨sa,scp,rfl⟩:=h.sg.form
 have HN:=aa h
 have HT:=aa ht
 have HLI:=aa hlim
 have HSL:=aa Kr
 have S0:Hid (mj w A (aI (gs.take 0) [t]) (.slice (some ⟨w.heap.size,0,none⟩) 1 1) (w.alloc (.cells #[.pointer (some ⟨A t.d.ai,0,none⟩)] 159))) :=
  ⟨(Fr.refl _ w).alloc _,rJ w w.heap.size (.pointer (some ⟨A t.d.ai,0,none⟩)) (Nat.le_refl _)⟩
 clear h ht hlim Kr
 go_enter Tryz.func95,Tryz.ntmps95
 go_wp2
 go_loopw [5,6] (λ o i wr=>∃j:Nat,j<=gs.length/\i=.int .i64 j/\mj w A (aI (gs.take j) [t]) o wr) (λ_ i _=>gs.length - (intOf i).toNat)
 case atStart=>exact ⟨0,Nat.zero_le _,rfl,S0.out⟩
 case round =>
  clear S0
  obtain ⟨j,hj,rfl,hS⟩:=hrel
  obtain ⟨L,hL⟩:∃L,L=aI (gs.take j) [t]:=⟨_,rfl⟩
  rw [<-hL] at hS
  obtain ⟨o0,XR,Yl⟩:=ah hS.o
  obtain ⟨ol,hol⟩:∃ol,ol=L.length:=⟨_,rfl⟩
  rw [<-hol] at Yl
  subst Yl
  by_cases hjl:j<gs.length
  ·have hji:(j:Int)<(gs.length:Int):=by omega
   have NT:=aa (o7 gs [t] hjl)
   have LIM:Hid ((L.flatMap (dr gs[j])).length<=1048576000000):=by
    have:=HLI.out (j+1) hjl
    rw [o7 gs [t] hjl,<-hL] at this
    exact this
   have acj:ol<=1048576000000:=by rw [hol,hL]; exact HLI.out j hj
   have HIN:Hid (∀v ∈ L,S v):=by
    rw [hL]
    exact rL HN.out.tr.KH _ _ (λ u hu=>by rw [List.mem_singleton.1 hu]; exact HT.out)
   have ack:(gs[j]).l.length<=1000:=HSL.out _ (List.getElem_mem hjl)
   have NE0:=HN.out.keep hS.f
   obtain ⟨ga,cpa,sv,hsa,hc0,Ls,E8⟩:=NE0.sg.at_ hjl
   simp only [Value.slice.injEq,true_and] at hsa
   obtain ⟨rfl,rfl⟩:=hsa
   rw [Nat.add_zero] at hc0
   generalize QZ:gs[j]=gg at *
   obtain ⟨b0,bcp,rfl⟩:=E8.form
   obtain ⟨sn,Mt⟩:∃sn,sn=gg.l.length:=⟨_,rfl⟩
   rw [<-Mt] at Ls E8 ack
   have T9:=aa Mt
   have CC0:Hid (∀W,ak wr W->W.cell? ⟨ga,j * 3,none⟩=some (.bool gg.deep)):=λ W k=>(k.cell (p:=⟨ga,j * 3,none⟩) (jY hc0) id).trans hc0
   have CC1:Hid (∀W,ak wr W->W.cell? ⟨ga,j * 3+1,none⟩=some (.slice b0 sn bcp)):=λ W k=>(k.cell (p:=⟨ga,j * 3+1,none⟩) (jY Ls) id).trans Ls
   have gaw:ga<wr.heap.size:=jY Ls
   have HSR:=aa E8
   have Zl:=aa NE0
   have NOW:Hid (wr.ownsRow 0 159 1 (.slice o0 ol XR) L.length (L.map (dM A))):=iG hS.o
   have HS:=aa hS
   have HL:=aa hL
   have KE:=aa hol
   have ST0:Hid (mj wr A ((L.take 0).flatMap (dr gg)) (.slice none 0 0) wr):=⟨Fr.refl _ _,⟨rfl,Or.inl ⟨rfl,rfl⟩⟩⟩
   clear hS hL hol Mt E8 NE0 hc0 Ls
   have HGG:=aa QZ
   clear QZ
   go_wp2
   generalize wr=w0 at *
   go_loopw [7,8] (λ o i wr=>∃k:Nat,k<=ol/\i=.int .i64 k/\mj w0 A ((L.take k).flatMap (dr gg)) o wr) (λ_ i _=>ol - (intOf i).toNat)
   case atStart=>exact ⟨0,Nat.zero_le _,rfl,ST0.out⟩
   case round =>
    clear ST0
    obtain ⟨k,hk,rfl,yU⟩:=hrel
    obtain ⟨P2,zn⟩:∃P2,P2=(L.take k).flatMap (dr gg):=⟨_,rfl⟩
    rw [<-zn] at yU
    obtain ⟨n0,XY,Iq⟩:=ah yU.o
    obtain ⟨pl,hpl⟩:∃pl,pl=P2.length:=⟨_,rfl⟩
    rw [<-hpl] at Iq
    subst Iq
    by_cases hkl:k<ol
    ·have hki:(k:Int)<(ol:Int):=by omega
     have NZ:k<L.length:=by rw [<-KE.out]; exact hkl
     have NR:wr.ownsRow 0 159 1 (.slice o0 ol XR) L.length (L.map (dM A)):=aW NOW.out yU.f (λ_ _ x=>x)
     obtain ⟨g0,gcp,Ww,_,aco⟩:=NR.form (by omega)
     rw [<-KE.out] at Ww
     simp only [Value.slice.injEq,true_and] at Ww
     obtain ⟨rfl,rfl⟩:=Ww
     have hcell:wr.cell? ⟨g0,k,none⟩=some (.pointer (some ⟨A (L[k]).d.ai,0,none⟩)):=by
      rw [KE.out] at NR
      rw [NR.cellAt k (by omega)]
      simp [dM,NZ]
     have HU:=aa (HIN.out _ (List.getElem_mem NZ))
     have FT:=aa (vG (dr gg) L NZ)
     have FL:=aa (lK (dr gg) L NZ)
     rw [<-zn] at FT FL
     generalize L[k]=u at *
     obtain ⟨W1,mq⟩:∃W1,W1=wr.alloc (.cells #[.pointer (some ⟨A u.d.ai,0,none⟩)] 159):=⟨_,rfl⟩
     obtain ⟨fb,wD⟩:∃fb,fb=wr.heap.size:=⟨_,rfl⟩
     have K1:ak wr W1:=by rw [mq]; exact (Fr.refl _ wr).alloc _
     have d0:=CC0.out W1 (yU.f.trans K1)
     have d2:W1.cell? ⟨g0,k,none⟩=some (.pointer (some ⟨A u.d.ai,0,none⟩)):=(K1.cell (p:=⟨g0,k,none⟩) aco id).trans hcell
     have NXF:Hid (gg.deep=false->NX w0 A P2 (.slice n0 pl XY) (pJ gg u) (.slice (some ⟨fb,0,none⟩) 1 1) W1):=λ hd=>by
      refine ⟨yU.keep K1,?_,λ b hb he=>?_⟩
      ·have e:pJ gg u=[u]:=by unfold pJ; rw [hd]; rfl
       rw [e,mq,wD]
       exact rJ wr 0 _ (Nat.zero_le _)
      have e1:fb=b:=Option.some.inj he
      have:=(yU.o.lt b hb).2
      omega
     have ALC:Hid (gg.deep=true->Calls Tryz.prog 122 #[.pointer (some ⟨A u.d.ai,0,none⟩)] W1 λ r w'=>∃sv,r=.returned sv/\NX w0 A P2 (.slice n0 pl XY) (pJ gg u) sv w'):=λ hd=>by
      have n1:=Zl.out.keep (yU.f.trans K1)
      refine (XQ (Nat.le_refl _) 10 u W1 (n1.tr.rt u HU.out) n1.dl (n1.tr.len u HU.out)).mono ?_
      rintro r w' ⟨sv,rfl,hv⟩
      have e:pJ gg u=au 10 u:=by unfold pJ; rw [if_pos hd]
      refine ⟨sv,rfl,(yU.keep K1).keep hv.f,by rw [e]; exact iG hv.o,λ b hb he=>?_⟩
      have h1:=(yU.o.lt b hb).2
      have h2:=(hv.o.lt b he).1
      have h3:=K1.size
      omega
     have F7:=aa mq
     have HFB:=aa wD
     have Y5:=aa zn
     have HPL:=aa hpl
     clear yU NR mq wD zn hpl K1
     go_upto_region 10 with fail
     rw [<-F7.out,<-HFB.out]
     go_upto_if 35 with fail
     go_cut [9] from 20 to 71 (λ s9 wc=>NX w0 A P2 (.slice n0 pl XY) (pJ gg u) s9 wc)
     case first =>
      cases hd:gg.deep with
      | false =>
       rw [hd] at d0
       have N1:=aa (NXF.out hd)
       go_wp2
       go_meet
       exact N1.out
      | true =>
       rw [hd] at d0
       have N1:=aa (ALC.out hd)
       go_wp2_with fail
       refine (N1.out).mono ?_
       rintro r w2 ⟨iA,rfl,h2⟩
       have H2:=aa h2
       clear h2
       go_wp2
       go_meet
       exact H2.out
     case rest =>
      have US:=aa (Ka gg u)
      obtain ⟨F,hF⟩:∃F,F=pJ gg u:=⟨_,rfl⟩
      have HIF:Hid (∀x ∈ F,S x):=by
       rw [hF]
       intro x hx
       unfold pJ at hx
       split at hx
       ·exact AT Zl.out.tr.KH 10 u x HU.out hx
       rw [List.mem_singleton.1 hx]; exact HU.out
      rw [<-hF] at hcut US
      obtain ⟨f0,KJ,hfv⟩:=ah hcut.o
      obtain ⟨fl,hfl⟩:∃fl,fl=F.length:=⟨_,rfl⟩
      rw [<-hfl] at hfv
      subst hfv
      have pE:=aa hfl
      have flb:fl<=4000000:=by
       rw [hfl,hF]
       unfold pJ
       split
       ·exact Zl.out.tr.len u HU.out
       simp
      have XZ:Hid (NX w0 A (P2++(F.take 0).flatMap (fC gg.l)) (.slice n0 pl XY) F (.slice f0 fl KJ) wc):=aa (by simpa using hcut)
      have LB:Hid (P2.length+(F.flatMap (fC gg.l)).length<=1048576000000):=by
       rw [<-US.out]
       exact Nat.le_trans FL.out LIM.out
      clear hcut hF hfl d0 d2 hcell NXF ALC
      go_wp2
      go_loopw [7,10] (λ o i wr=>∃n:Nat,n<=fl/\i=.int .i64 n/\NX w0 A (P2++(F.take n).flatMap (fC gg.l)) o F (.slice f0 fl KJ) wr) (λ_ i _=>fl - (intOf i).toNat)
      case atStart=>exact ⟨0,Nat.zero_le _,rfl,XZ.out⟩
      case round =>
       clear XZ
       obtain ⟨n,hn,rfl,P0⟩:=hrel
       obtain ⟨P3,KL⟩:∃P3,P3=P2++(F.take n).flatMap (fC gg.l):=⟨_,rfl⟩
       rw [<-KL] at P0
       obtain ⟨m0,mcp,hmv⟩:=ah P0.v.o
       obtain ⟨ql,XG⟩:∃ql,ql=P3.length:=⟨_,rfl⟩
       rw [<-XG] at hmv
       subst hmv
       by_cases Vs:n<fl
       ·have hni:(n:Int)<(fl:Int):=by omega
        have N6:n<F.length:=by rw [<-pE.out]; exact Vs
        obtain ⟨fg,aj',hfo,_,_⟩:=P0.o.form (by omega)
        rw [<-pE.out] at hfo
        simp only [Value.slice.injEq,true_and] at hfo
        obtain ⟨rfl,rfl⟩:=hfo
        have HX:=aa (HIF.out _ (List.getElem_mem N6))
        have lP:=aa (vG (fC gg.l) F N6)
        have FL3:=aa (lK (fC gg.l) F N6)
        have FC:Hid (∀W l nx,NX w0 A l nx F (.slice (some ⟨fg,0,none⟩) fl KJ) W->W.cell? ⟨fg,n,none⟩=some (.pointer (some ⟨A (F[n]).d.ai,0,none⟩))/\fg<W.heap.size):=λ W l nx hW=>by
         have h1:=hW.o
         rw [pE.out] at h1
         have h2:=h1.cellAt n (by omega)
         refine ⟨?_,(h1.lt fg rfl).2⟩
         rw [h2]
         simp [dM,N6]
        have XZ:Hid (NX w0 A (P3++(gg.l.take 0).flatMap (λ s=>cC s F[n])) (.slice m0 ql mcp) F (.slice (some ⟨fg,0,none⟩) fl KJ) wr):=aa (by simpa using P0)
        have LB4:Hid (P3.length+(fC gg.l F[n]).length<=1048576000000):=by
         have h1:=LB.out
         have h2:=FL3.out
         have h3:P3.length=P2.length+((F.take n).flatMap (fC gg.l)).length:=by rw [KL,List.length_append]
         exact aa (by omega)
        generalize F[n]=x at *
        have cL:=CC1.out wr P0.v.f
        have HP3:=aa KL
        clear P0 KL XG
        go_wp2
        go_loopw [7,11] (λ o i wr=>∃p:Nat,p<=sn/\i=.int .i64 p/\NX w0 A (P3++(gg.l.take p).flatMap (λ s=>cC s x)) o F (.slice (some ⟨fg,0,none⟩) fl KJ) wr) (λ_ i _=>sn - (intOf i).toNat)
        case atStart=>exact ⟨0,Nat.zero_le _,rfl,XZ.out⟩
        case round =>
         clear XZ cL
         obtain ⟨p,hp,rfl,EI⟩:=hrel
         obtain ⟨P4,Up⟩:∃P4,P4=P3++(gg.l.take p).flatMap (λ s=>cC s x):=⟨_,rfl⟩
         rw [<-Up] at EI
         obtain ⟨r0,P7,hrv⟩:=ah EI.v.o
         obtain ⟨rl,hrl⟩:∃rl,rl=P4.length:=⟨_,rfl⟩
         rw [<-hrl] at hrv
         subst hrv
         have cL:=CC1.out wr EI.v.f
         by_cases acp:p<sn
         ·have Xv:(p:Int)<(sn:Int):=by omega
          have To:p<gg.l.length:=by rw [<-T9.out]; exact acp
          obtain ⟨sg,akd,wb,hsv,hcs,Zm⟩:=HSR.out.at_ To
          rw [<-T9.out] at hsv
          simp only [Value.slice.injEq,true_and] at hsv
          obtain ⟨rfl,rfl⟩:=hsv
          have CY:=aa (vG (λ s=>cC s x) gg.l To)
          have FL4:=aa (lK (λ s=>cC s x) gg.l To)
          generalize gg.l[p]=sx at *
          have X_:sg<w0.heap.size:=jY (hcs 0 (by omega))
          have Tp:∀i v,i<6->(me (sx,wb))[i]?=some v->wr.cell? ⟨sg,p * 6+i,none⟩=some v:=λ i v hi e=>(EI.v.f.cell (p:=⟨sg,p * 6+i,none⟩) X_ id).trans ((hcs i hi).trans e)
          have s0:wr.cell? ⟨sg,p * 6,none⟩=some (.int .i64 (sx.sort:Nat)):=Tp 0 _ (by omega) rfl
          have s1:wr.cell? ⟨sg,p * 6+1,none⟩=some (.string (sb sx.name)):=Tp 1 _ (by omega) rfl
          have s2:wr.cell? ⟨sg,p * 6+2,none⟩=some (.int .i64 sx.n):=Tp 2 _ (by omega) rfl
          have s3:wr.cell? ⟨sg,p * 6+3,none⟩=some (.int .i64 sx.ai):=Tp 3 _ (by omega) rfl
          have s4:wr.cell? ⟨sg,p * 6+4,none⟩=some (.int .i64 sx.to):=Tp 4 _ (by omega) rfl
          have s5:wr.cell? ⟨sg,p * 6+5,none⟩=some wb:=Tp 5 _ (by omega) rfl
          obtain ⟨cF,acq⟩:=FC.out wr _ _ EI
          have KS:Hid (∀W,B3 wr ga sg fg W->W.cell? ⟨ga,j * 3+1,none⟩=some (.slice (some ⟨sg,0,none⟩) sn bcp)/\W.cell? ⟨sg,p * 6,none⟩=some (.int .i64 (sx.sort:Nat))/\W.cell? ⟨sg,p * 6+1,none⟩=some (.string (sb sx.name))/\W.cell? ⟨sg,p * 6+2,none⟩=some (.int .i64 sx.n)/\W.cell? ⟨sg,p * 6+3,none⟩=some (.int .i64 sx.ai)/\W.cell? ⟨sg,p * 6+4,none⟩=some (.int .i64 sx.to)/\W.cell? ⟨sg,p * 6+5,none⟩=some wb/\W.cell? ⟨fg,n,none⟩=some (.pointer (some ⟨A x.d.ai,0,none⟩))):=λ W b3 =>
           ⟨(b3.cell _ (Or.inl rfl)).trans cL,(b3.cell _ (Or.inr (Or.inl rfl))).trans s0,(b3.cell _ (Or.inr (Or.inl rfl))).trans s1,(b3.cell _ (Or.inr (Or.inl rfl))).trans s2,(b3.cell _ (Or.inr (Or.inl rfl))).trans s3,(b3.cell _ (Or.inr (Or.inl rfl))).trans s4,(b3.cell _ (Or.inr (Or.inl rfl))).trans s5,(b3.cell _ (Or.inr (Or.inr rfl))).trans cF⟩
          have gar:ga<wr.heap.size:=Nat.lt_of_lt_of_le gaw EI.v.f.size
          have sgr:sg<wr.heap.size:=Nat.lt_of_lt_of_le X_ EI.v.f.size
          have TK:Hid (Calls Tryz.prog 123 #[.agg #[.int .i64 (sx.sort:Nat),.string (sb sx.name),.int .i64 sx.n,.int .i64 sx.ai,.int .i64 sx.to,wb],.pointer (some ⟨A x.d.ai,0,none⟩)] wr.drew λ r w'=>∃sv,r=.returned sv/\TKP w0 wr A P4 (cC sx x) F (.slice r0 rl P7) (.slice (some ⟨fg,0,none⟩) fl KJ) sv ga sg fg w'):=by
           have kd:ak wr wr.drew:=(Fr.refl _ wr).drew
           have n1:=Zl.out.keep (EI.v.f.trans kd)
           refine (NQ (n:=9) (x:=sx) (b:=wb) (n1.tr.rt x HX.out) n1.dl (n1.tr.ws HX.out) Zm.so Zm.n (λ e=>?_)).mono ?_
           ·obtain ⟨g,e1,e2⟩:=Zm.m e
            exact ⟨g,e1,λ w' k c hc=>e2 w' ((EI.v.f.trans kd).trans k) A D hi 9 c (RT.keep (λ q hq=>k.block q (n1.dl q hq) id) _ _ (RT.kids (n:=9) (n1.tr.rt x HX.out) hc))⟩
           rintro r w' ⟨sv,rfl,hv⟩
           have k2:=kd.trans hv.f
           exact ⟨sv,rfl,EI.keep k2,iG hv.o,k2.block _ gar id,k2.block _ sgr id,k2.block _ acq id⟩
          have APP:Hid (∀w2 iA,TKP w0 wr A P4 (cC sx x) F (.slice r0 rl P7) (.slice (some ⟨fg,0,none⟩) fl KJ) iA ga sg fg w2->∀v' w3,w3.ownsRow w0.heap.size 159 1 v' (rl+(cC sx x).length) (P4.map (dM A)++(cC sx x).map (dM A))->w2.grownBy w3 (Value.slice r0 rl P7).ownBlock->(v'.ownBlock=(Value.slice r0 rl P7).ownBlock\/v'.ownBlock=some w2.heap.size)->B3 wr ga sg fg w3/\NX w0 A (P3++(gg.l.take (p+1)).flatMap (λ s=>cC s x)) v' F (.slice (some ⟨fg,0,none⟩) fl KJ) w3):=λ w2 iA tk v' w3 ho hg ha=>by
           rw [hrl] at ho
           refine ⟨⟨?_,?_,?_⟩,?_⟩
           ·rw [hg.block ga (by have:=tk.x.v.f.size; omega) (λ e=>by have:=(tk.x.v.o.lt ga e.symm).1; omega)]; exact tk.b.a
           ·rw [hg.block sg (by have:=tk.x.v.f.size; omega) (λ e=>by have:=(tk.x.v.o.lt sg e.symm).1; omega)]; exact tk.b.b
           ·rw [hg.block fg (by have:=(tk.x.o.lt fg rfl).2; omega) (λ e=>tk.x.n fg e.symm rfl)]; exact tk.b.c
           have e1:P3++(gg.l.take (p+1)).flatMap (λ s=>cC s x)=P4++cC sx x:=by rw [CY.out,Up,List.append_assoc]
           rw [e1]
           exact tk.x.app ho hg ha
          have Ya:rl+(cC sx x).length<=2000000000000:=by
           have h1:=LB4.out
           have h2:=FL4.out
           have h3:(fC gg.l x).length=(gg.l.flatMap (λ s=>cC s x)).length:=rfl
           rw [hrl,Up,List.length_append]
           omega
          have HRL:=aa hrl
          have PO:Hid (∀u ∈ (cC sx x).map (dM A),u.oneCell'=true):=NW A _
          have OW:Hid (∀w2 iA,TKP w0 wr A P4 (cC sx x) F (.slice r0 rl P7) (.slice (some ⟨fg,0,none⟩) fl KJ) iA ga sg fg w2->w2.ownsRow w0.heap.size 159 1 (.slice r0 rl P7) rl (P4.map (dM A))):=λ w2 iA tk=>by
           have:=tk.x.v.o
           rw [<-hrl] at this
           exact this
          clear EI hcs Tp Zm Up hrl
          generalize cC sx x=TT at *
          go_upto_region 18 with fail
          go_region_held_law (λ W=>W.cell? ⟨ga,j * 3+1,none⟩=some (.slice (some ⟨sg,0,none⟩) sn bcp)/\W.cell? ⟨sg,p * 6,none⟩=some (.int .i64 (sx.sort:Nat))/\W.cell? ⟨sg,p * 6+1,none⟩=some (.string (sb sx.name))/\W.cell? ⟨sg,p * 6+2,none⟩=some (.int .i64 sx.n)/\W.cell? ⟨sg,p * 6+3,none⟩=some (.int .i64 sx.ai)/\W.cell? ⟨sg,p * 6+4,none⟩=some (.int .i64 sx.to)/\W.cell? ⟨sg,p * 6+5,none⟩=some wb/\W.cell? ⟨fg,n,none⟩=some (.pointer (some ⟨A x.d.ai,0,none⟩)))
           (first | exact KS.out _ ⟨rfl,rfl,rfl⟩ | exact KS.out _ (by assumption))
           (first
            | (refine EH rfl (.tmp 57) (.tmp 70) rfl w0.heap.size (.slice r0 rl P7) rl _ rfl (OW.out _ _ TP.out) 0 iA _ _ rfl TP.out.o PO.out Ya (Nat.le_trans TP.out.x.v.f.size (Nat.le_refl _)) ?_; intro v' w3 ho hg ha; obtain ⟨lp,hx3⟩:=APP.out _ _ TP.out v' w3 ho hg ha; have Uo:=aa hx3; clear ho hg ha hx3)
            | (go_at_call 123; refine TK.out.mono ?_; rintro r w2 ⟨iA,rfl,tp⟩; have TP:=aa tp; have eK:=tp.b; clear tp))
          go_wp2
          go_roundw
          case rel=>exact ⟨p+1,by omega,by go_num,Uo.out⟩
          case measure=>simp [intOf]; omega
         have hpe:p=sn:=by omega
         have Xv:¬(p:Int)<(sn:Int):=by omega
         have R3:Hid (NX w0 A (P2++(F.take (n+1)).flatMap (fC gg.l)) (.slice r0 rl P7) F (.slice (some ⟨fg,0,none⟩) fl KJ) wr):=by
          have e:P2++(F.take (n+1)).flatMap (fC gg.l)=P4:=by
           rw [lP.out,Up,HP3.out,hpe,T9.out,List.take_length,List.append_assoc]
           rfl
          rw [e]
          exact EI
         clear EI Up hrl
         go_wp2
         go_roundw
         case rel=>exact ⟨n+1,by omega,by go_num,R3.out⟩
         case measure=>simp [intOf]; omega
       have hne:n=fl:=by omega
       have hni:¬(n:Int)<(fl:Int):=by omega
       have R2:Hid (mj w0 A ((L.take (k+1)).flatMap (dr gg)) (.slice m0 ql mcp) wr):=by
        have e:(L.take (k+1)).flatMap (dr gg)=P3:=by
         rw [FT.out,US.out,KL,hne,pE.out,List.take_length]
        rw [e]
        exact P0.v
       clear P0 KL XG
       go_wp2
       go_roundw
       case rel=>exact ⟨k+1,by omega,by go_num,R2.out⟩
       case measure=>simp [intOf]; omega
    have OF:k=ol:=by omega
    have hki:¬(k:Int)<(ol:Int):=by omega
    have R1:Hid (mj w A (aI (gs.take (j+1)) [t]) (.slice n0 pl XY) wr):=by
     have e:aI (gs.take (j+1)) [t]=P2:=by
      rw [NT.out,<-HL.out,zn,OF,KE.out,List.take_length]
     rw [e]
     exact yU.low HS.out.f
    clear yU zn hpl
    go_wp2
    go_roundw
    case rel=>exact ⟨j+1,by omega,by go_num,R1.out⟩
    case measure=>simp [intOf]; omega
  have XL:j=gs.length:=by omega
  have hji:¬(j:Int)<(gs.length:Int):=by omega
  have jS:Hid (mj w A (aI gs [t]) (.slice o0 ol XR) wr):=by
   rw [hL,XL,List.take_length] at hS
   exact hS
  clear hS hL hol
  go_wp2
  go_ret
  exact ⟨_,rfl,jS.out⟩
theorem RT.deep {w:World} {A:Nat->Nat} {D:Nat->Prop} {hi:Nat}:∀{n:Nat} {t:Tv},RT w A D hi n t->Deep n t
 | 0,_,h=>absurd h id
 | _+1,_,h=>λ_ hc=>RT.deep (h.kids hc)
def Yb (w:World) (A:Nat->Nat) (D:Nat->Prop) (hi:Nat) (v:Tv):Prop:=∃m,m<=9/\RT w A D hi m v/\(au 10 v).length<=4000000
theorem Kb {w:World} {A:Nat->Nat} {D:Nat->Prop} {hi:Nat}:Tm w A D hi (Yb w A D hi):=by
 refine ⟨λ u hu c hc=>?_,λ u hu=>?_,λ u hu=>?_⟩
 ·obtain ⟨m,h1,h2,h3⟩:=hu
  obtain ⟨m,rfl⟩:∃k,m=k+1:=by
   cases m with
   | zero=>exact absurd h2 id
   | succ k=>exact ⟨k,rfl⟩
  have h4:=h2.kids hc
  refine ⟨m,by omega,h4,?_⟩
  have e:au 10 c=au 9 c:=by rw [gH h4.deep (by omega),<-gH (m:=9) h4.deep (by omega)]
  have e2:au 10 u=u::u.ws.flatMap (au 9):=rfl
  obtain ⟨i,hi',rfl⟩:=List.mem_iff_getElem.1 hc
  have h5:=lK (au 9) u.ws hi'
  rw [e2,List.length_cons] at h3
  rw [e]
  omega
 ·obtain ⟨m,h1,h2,_⟩:=hu
  exact h2.ups (by omega)
 exact hu.choose_spec.2.2
theorem Kc (xs:List Sg) (h:∀g ∈ xs,qW g) {v u:Tv} (e:er v=er u):(aI xs [v]).length=(aI xs [u]).length:=by
 have k:∀w:Tv,(aI xs [w]).length=(aI xs [er w]).length:=λ w=>by
  have:=qX xs h [w]
  rw [List.map_singleton] at this
  rw [this,List.length_map]
 rw [k v,k u,e]
theorem Tq {v u:Tv} (e:er v=er u):(au 10 v).length=(au 10 u).length:=by
 have k:∀w:Tv,(au 10 w).length=(au 10 (er w)).length:=λ w=>by rw [Ap,List.length_map]
 rw [k v,k u,e]
theorem CQ (ends:Bool) (len e:Nat) (t:Tv):er (shut ends len e t)=er t:=by
 unfold shut
 split
 ·rw [oS,oS t]
 rfl
theorem Ke {xs:List Sg} (h:∀g ∈ xs,qW g) (i:Nat):∀g ∈ xs.take i,qW g:=λ g hg=>h g (List.mem_of_mem_take hg)
theorem yP:∀(xs:List Sg) (g:Sg),g ∈ xs->g.l.length<=fJ xs
 | [],_,h=>by cases h
 | a::r,g,h=>by
  have e:fJ (a::r)=a.l.length+fJ r:=by simp [fJ]
  rcases List.mem_cons.1 h with y | y
  ·rw [y,e]; omega
  have:=yP r g y
  omega
theorem P8 (l:List Tv):l.flatMap cH=(l.map Pr).flatMap (λ p=>[.string (bZ p.1),.int .i64 (p.2.1:Nat),.int .i64 (p.2.2:Nat)]):=by
 rw [List.flatMap_map]
 rfl
theorem GN {w:World} {gq:Nat} {v:Value} {q:List UInt8} (hq:ay w gq #[v] 148) (EY:rA w v (cK q)) (hsel:fJ (cK q)<=10) (s:ByteArray) (hs:s.size<=1100000) :
 Calls Tryz.prog 66 #[.pointer (some ⟨gq,0,none⟩),.string s] w (zq s (cK q) w):=by
 obtain ⟨i0,hi,hz0,hz1,dN⟩:=info_parts qj
 have HI:=aa hi
 have ia:=aa hz0
 have gO:=aa hz1
 have ic:=aa dN
 have HQ:=aa hq
 have Zn:=aa EY
 have Ue:(bs s).length<=4000000:=by rw [an]; omega
 have RW:=aa (I8 (bs s) Ue)
 obtain ⟨xs,hxs⟩:∃xs,xs=cK q:=⟨_,rfl⟩
 have HRS:Hid (∀g ∈ xs,qW g):=by rw [hxs]; exact DS q
 have Yc:Hid (∀g ∈ xs,0<g.l.length):=by rw [hxs]; exact sJ q
 rw [<-hxs] at hsel Zn ⊢
 have hxl:xs.length<=10:=Nat.le_trans (A6 xs Yc.out) hsel
 have vN:Hid (∀g ∈ xs,g.l.length<=1000):=λ g hg=>by
  have:=yP xs g hg
  omega
 clear hi hz0 hz1 dN hq EY hxs
 go_enter Tryz.func66,Tryz.ntmps66
 go_wp2_with fail
 refine (Ti (w:=w) (s:=s) (by omega) true).mono ?_
 rintro r w1 ⟨rfl,hR⟩
 have K1:=aa hR.f
 obtain ⟨rt,hb,YI,yY⟩:=hR.r
 by_cases he:(aV (bs s)).e=0
 ·obtain ⟨t1,_,vv,u,hw,gz,hal⟩:=RW.out.ok he
  obtain ⟨A,Ul,Nz⟩:=yY vv hw
  have eu:er vv=er u:=by
   rcases hal with y | ⟨f,n,y1,y2⟩
   ·exact Pq y
   rw [y2,oS,oS u,y1]
   rfl
  obtain ⟨t,ht⟩:∃t,t=shut true s.size (aV (bs s)).e vv:=⟨_,rfl⟩
  have et:er t=er u:=by rw [ht,CQ,eu]
  have efr:t.d.ai=vv.d.ai:=by
   have:=congrArg (λ x=>x.d.ai) (show er t=er vv by rw [ht,CQ])
   simpa [yb] using this
  rw [<-ht] at Nz
  obtain ⟨hT,_⟩:=uw Ue t1 gz
  obtain ⟨hfr,_⟩:=qb Ue t1 gz
  have hN:∀k,k<=xs.length->(aI (xs.take k) [t]).length<=900000000000:=λ k hk=>by
   rw [Kc _ (Ke HRS.out k) et]
   have a:=nC hT hfr xs Yc.out hsel hk
   have b:(bs s).length * 524288<=1100000 * 524288:=Nat.mul_le_mul_right _ (by rw [an]; exact hs)
   omega
  have hall:(au 10 t).length<=4000000:=by
   rw [Tq et]
   have:=ur ((au 10 u).map fr) 0 (bs s).length (List.pairwise_map.2 hT.a) (λ x hx=>by
    obtain ⟨y,hy,rfl⟩:=List.mem_map.1 hx
    exact ⟨Nat.zero_le _,hfr y hy⟩)
   rw [List.length_map] at this
   omega
  obtain ⟨D,hD⟩:∃D:Nat->Prop,D=λ k=>w.heap.size<=k/\k<w1.heap.size:=⟨_,rfl⟩
  rw [<-hD] at Nz
  have DL:∀k,D k->k<w1.heap.size:=λ k hk=>by rw [hD] at hk; exact hk.2
  have st:Yb w1 A D (s.size+1) t:=⟨9,Nat.le_refl _,Nz,hall⟩
  have ne:NE w1 A D (s.size+1) (Yb w1 A D (s.size+1)) v xs:=⟨Kb,Zn.out.keep K1.out,DL⟩
  have hNl:(aI xs [t]).length<=900000000000:=by have:=hN xs.length (Nat.le_refl _); rwa [List.take_length] at this
  have CN:Hid (∀W,ak w1 W->Calls Tryz.prog 95 #[v,.pointer (some ⟨A t.d.ai,0,none⟩)] W λ r w'=>∃sv,r=.returned sv/\mj w1 A (aI xs [t]) sv w'):=λ W hW=>by
   refine (NY (ne.keep hW) st (by omega) vN.out (λ i hi=>by have:=hN i hi; omega)).mono ?_
   rintro r w' ⟨sv,rfl,h⟩
   exact ⟨sv,rfl,h.low hW⟩
  have QA:Hid (∀x ∈ aI xs [t],Yb w1 A D (s.size+1) x):=rL Kb.KH xs [t] (λ y hy=>by rw [List.mem_singleton.1 hy]; exact st)
  have Qz:Hid (∀x,Yb w1 A D (s.size+1) x->∀W,ak w1 W->Calls Tryz.prog 96 #[.pointer (some ⟨A x.d.ai,0,none⟩)] W λ r w'=>r=.returned (.agg #[.string (bZ x.d.path),.int .i64 (x.d.ai:Nat),.int .i64 (x.d.to:Nat)])/\ak W w'):=λ x hx W hW=>by
   obtain ⟨sv,hv⟩:=RT.vc (n:=9) ((Kb.keep DL hW).rt x hx)
   exact Tl hv
  have EQ:Hid ((aI xs [t]).flatMap cH=(aI xs [u]).flatMap cH/\(aI xs [t]).length=(aI xs [u]).length):=⟨by rw [P8,P8,Jb HRS.out et],Kc xs HRS.out et⟩
  have q0:w1.cell? ⟨gq,0,none⟩=some v:=(HQ.out.fr K1.out id).cell 0
  have Yd:rt=.pointer (some ⟨A t.d.ai,0,none⟩):=by rw [Ul,efr]; rfl
  have rb2:w1.cell? ⟨w.heap.size,2,none⟩=some (.int .i64 0):=by rw [hb.cell 2,he]; rfl
  have rb3:w1.cell? ⟨w.heap.size,3,none⟩=some (.pointer (some ⟨A t.d.ai,0,none⟩)):=by rw [hb.cell 3,Yd]; rfl
  have H0:=aa t1
  have OD:=aa gz
  obtain ⟨va,y_,rfl⟩:=Zn.out.form
  clear hR hb YI yY he hw hal Ul Nz eu ht et efr hT hfr hN hall hD DL st ne Yd gz t1 HQ Zn RW
  generalize QB:aI xs [t]=N at *
  have Cv:=aa QB
  clear QB
  have KEY:Hid (∀W,ak w1 W->W.cell? ⟨gq,0,none⟩=some (.slice va xs.length y_)/\W.cell? ⟨w.heap.size,3,none⟩=some (.pointer (some ⟨A t.d.ai,0,none⟩))/\ak w1 W):=λ W k=>⟨(k.cell (p:=⟨gq,0,none⟩) (jY q0) id).trans q0,(k.cell (p:=⟨w.heap.size,3,none⟩) (jY rb3) id).trans rb3,k⟩
  go_wp2
  go_region_held (λ W=>W.cell? ⟨gq,0,none⟩=some (.slice va xs.length y_)/\W.cell? ⟨w.heap.size,3,none⟩=some (.pointer (some ⟨A t.d.ai,0,none⟩))/\ak w1 W)
   (first | exact KEY.out _ ((Fr.refl _ _).drewN 1) | exact KEY.out _ (by assumption))
   (first | (go_at_call 95; refine (CN.out _ ((Fr.refl _ _).drewN 1)).mono ?_; rintro r w2 ⟨iA,rfl,lY⟩; have V2:=aa lY; have hk2:=lY.f; clear lY))
  have K2:=aa V2.out.f
  obtain ⟨a2,c2,QD⟩:=ah V2.out.o
  have O2:=aa V2.out.o
  subst QD
  clear V2 hk2 q0 rb2 rb3 KEY CN
  try clear OM
  go_wp2
  go_loopw [8,10] (λ o i wr=>∃k:Nat,k<=N.length/\i=.int .i64 k/\ak w2 wr/\wr.ownsRow w2.heap.size 42 3 o k ((N.take k).flatMap cH)) (λ_ i _=>N.length - (intOf i).toNat)
  case atStart=>exact ⟨0,Nat.zero_le _,rfl,Fr.refl _ _,⟨rfl,Or.inl ⟨rfl,rfl⟩⟩⟩
  case round =>
   obtain ⟨k,hk,rfl,hK,hO⟩:=hrel
   obtain ⟨a5,c5,hs5⟩:=ah hO
   subst hs5
   have KK:=aa hK
   have OO:=aa hO
   clear hK hO
   by_cases hlt:k<N.length
   ·obtain ⟨g2,cap2,lY,_,OE⟩:=O2.out.form (by omega)
    simp only [Value.slice.injEq,true_and] at lY
    obtain ⟨rfl,rfl⟩:=lY
    have ce:wr.cell? ⟨g2,k,none⟩=some (.pointer (some ⟨A (N[k]).d.ai,0,none⟩)):=by
     rw [KK.out.cell (p:=⟨g2,k,none⟩) OE id,O2.out.cellAt k (by omega)]
     simp [hlt,dM]
    have ND:=aa (Qz.out N[k] (QA.out _ (List.getElem_mem hlt)) wr (K2.out.trans KK.out))
    have hnd:cH N[k]=[.string (bZ (N[k]).d.path),.int .i64 ((N[k]).d.ai:Nat),.int .i64 ((N[k]).d.to:Nat)]:=rfl
    have ZR:=aa hnd
    have NT:=aa (Bn hlt)
    clear hnd
    generalize N[k]=v at *
    go_wp2_with fail
    refine ND.out.mono ?_
    rintro r w3 ⟨rfl,qm⟩
    have K3:=aa (KK.out.trans qm)
    have bI:w3.ownsRow w2.heap.size 42 3 (.slice a5 k c5) k ((N.take k).flatMap cH):=bO OO.out (λ i hi=>qm.block i (OO.out.lt i hi).2 id)
    have hs3:w2.heap.size<=w3.heap.size:=K3.out.size
    clear qm KK ND
    generalize bZ v.d.path=PB at *
    go_wp2_with (at_builtin; refine wpList_append_own_at _ rfl _ _ 29 rfl w2.heap.size 42 i0 _ 3 32 Tryz.underlying29 HI.out ia.out gO.out ic.out rfl (by decide) _ _ _ rfl (bI.alloc _) ⟨w3.heap.size,0,none⟩ 1 1 [.string PB,.int .i64 (v.d.ai:Nat),.int .i64 (v.d.to:Nat)] rfl rfl ?c1 ?c2 ?c3 ?c4 ?c5 ?_)
    case c1 =>
     intro j u hj
     match j,hj with
     | 0,hj=>simp at hj; subst hj; simp [Addr.add]
     | 1,hj=>simp at hj; subst hj; simp [Addr.add]
     | 2,hj=>simp at hj; subst hj; simp [Addr.add]
    case c2=>intro u hu; simp at hu; rcases hu with rfl | rfl | rfl<;>rfl
    case c3=>unfold maxLen; omega
    case c4=>omega
    case c5=>simp; omega
    intro v' w5 cN hgrow _ kP
    obtain ⟨a6,c6,ZS⟩:=ah cN
    subst ZS
    have E6:Hid (ak w2 w5/\w5.ownsRow w2.heap.size 42 3 (.slice a6 (k+1) c6) (k+1) ((N.take (k+1)).flatMap cH)):=by
     refine ⟨?_,by rw [NT.out,ZR.out]; exact cN⟩
     have k4:ak w2 (w3.alloc (.cells #[.string PB,.int .i64 (v.d.ai:Nat),.int .i64 (v.d.to:Nat)] 42)):=K3.out.alloc _
     exact ⟨hgrow.os.trans k4.os,hgrow.tape.trans k4.tape,hgrow.output.trans k4.output,Nat.le_trans k4.size hgrow.size,λ i hi _=>by
      rw [hgrow.block i (Nat.lt_of_lt_of_le hi k4.size) (λ e=>by have:=(bI.lt i e.symm).1; omega)]; exact k4.block i hi id⟩
    clear cN hgrow kP bI
    go_wp2
    go_roundw
    case rel=>exact ⟨k+1,by omega,by go_num,E6.out.1,E6.out.2⟩
    case measure=>simp [intOf]; omega
   have OF:k=N.length:=by omega
   subst OF
   have jS:Hid (zq s xs w (.returned (.tuple #[.slice a5 N.length c5,.int .i64 0,.int .i64 0])) wr):=by
    refine ⟨(K1.out.trans K2.out).trans KK.out,Or.inr ⟨H0.out,u,_,OD.out,rfl,?_⟩⟩
    have:=OO.out
    rw [List.take_length] at this
    rw [<-EQ.out.1,<-EQ.out.2]
    exact pW this (Nat.le_trans K1.out.size K2.out.size)
   go_wp2
   go_ret3
   exact jS.out
 obtain ⟨e1,e2,_⟩:=RW.out.no he
 have c2:w1.cell? ⟨w.heap.size,2,none⟩=some (.int .i64 (cw (bs s):Nat)):=by rw [hb.cell 2,e1]; rfl
 have c1:w1.cell? ⟨w.heap.size,1,none⟩=some (.int .i64 (nK (bs s):Nat)):=by rw [hb.cell 1,e2]; rfl
 have hne:cw (bs s)≠0:=by rw [e1]; exact he
 have hd:((cw (bs s):Int) != 0)=true:=by rw [bne_iff_ne]; omega
 have jS:Hid (∀q,zq s xs w (.returned (.tuple #[.slice none 0 0,.int .i64 (cw (bs s):Nat),.int .i64 (nK (bs s):Nat)])) (w1.drewN q)):=λ q=>⟨K1.out.drewN q,Or.inl ⟨hne,rfl⟩⟩
 clear hne he e1 e2 hb YI yY hR RW
 generalize cw (bs s)=te at *
 go_wp2
 go_quiet (fail)
 go_wp2
 go_ret3
 exact jS.out _
end Go.Proofs.YtcbadebjpogmlaaGreatDoor
