import Derived.Test.YtcbadebjpogmlaaGreatDoorVsTxO
import Derived.Deep.Cut
import Derived.Deep.CutBlock
import Derived.Test.YtcbadebjpogmlaaGreatDoorVsRefF
set_option maxHeartbeats 8000000
set_option maxRecDepth 100000
namespace Go.Proofs.YtcbadebjpogmlaaGreatDoor
open Go.RowKit Tr
def ue (k:Nat) (tx nm pt:List UInt8) (j P e:Nat):Rs:=if e=0 then ⟨[⟨⟨k,0,tx,nm,pt,j,P,(P:Int) - 1⟩,[]⟩],0,P⟩ else ⟨[],e,P⟩
theorem Ez {s:ByteArray} {nm pt:List UInt8} {cG j c:Nat} (hj:j<=s.size) (hb:bt (bs s) j=c) :
 (c=34->iW (bs s) nm pt cG j=ue 2 (aP (bs s) j).t nm pt j (aP (bs s) j).p (aP (bs s) j).e/\((aP (bs s) j).e=0->j<(aP (bs s) j).p)/\(aP (bs s) j).p<=s.size) /\
 (c=116\/c=102\/c=110->iW (bs s) nm pt cG j=ue 3 ((bw c).map UInt8.ofNat) nm pt j (dz (bs s) (bw c) j) (if dz (bs s) (bw c) j=j+(bw c).length then 0 else 2)/\((if dz (bs s) (bw c) j=j+(bw c).length then 0 else 2)=0->j<dz (bs s) (bw c) j)/\dz (bs s) (bw c) j<=s.size):=by
 have hl:j<=(bs s).length:=by rw [an]; exact hj
 refine ⟨λ h=>?_,λ h=>?_⟩
 ·have t:=lJ hl
  rw [an] at t
  refine ⟨?_,t.2.2,t.2.1⟩
  unfold iW ue
  rw [hb,if_pos h]
 have hw:(∀x ∈ bw c,x<256)/\0<(bw c).length:=by rcases h with rfl | rfl | rfl<;>decide
 have t:=vz (bw c) j hw.1 hl
 rw [an] at t
 refine ⟨?_,λ e=>?_,t.2⟩
 ·unfold iW ue
  rw [hb,if_neg (by omega),if_pos h]
  by_cases e:dz (bs s) (bw c) j=j+(bw c).length
  ·simp [e]
  simp [e]
 by_cases e':dz (bs s) (bw c) j=j+(bw c).length
 ·omega
 rw [if_neg e'] at e; cases e
theorem NI {s:ByteArray} {n:Nat} (hs:s.size<=2000000) {w:World} {rb bv:Nat} {ip:Option Addr} {cG B0:Nat} {di:dO} {eD:Value} {xs:List Value} {p:Nat} {rt:Value} (A:Nat->Nat) {dp:Nat} {nm pt:List UInt8}
 (hp:p<=s.size) (rR:dp<=9) (hxl:xs.length<=s.size) (hv:VS w rb bv ip cG B0 di eD eD xs s p 0 rt ⟨0,0,[],nm,pt,0,0,-1⟩ w) (hne:bv≠rb) (hB:B0<=w.heap.size) (hV:∀m,m<n->AO s m) (hn:2 * (s.size - p)+1<=n+1) (Pd:1<=dp) (rO:pt.length<=dp * 10000000) :
 Calls Tryz.prog 97 #[.pointer (some ⟨rb,0,none⟩),.pointer ip,.pointer (some ⟨bv,0,none⟩),.int .i64 (dp:Nat)] w λ r w' =>
  r=.returned (.tuple #[])/\J1 w rb bv ip cG B0 di eD xs s p rt A dp (rd (bs s) (n+1) false dp nm pt cG p []) w':=by
 obtain ⟨j,hj⟩:∃j,j=sk (bs s) p:=⟨_,rfl⟩
 have hjl:j<=s.size:=by rw [hj,<-an s]; exact ir (by rw [an]; exact hp)
 have XL:p<=j:=by rw [hj]; exact fV _ _
 have HJ:=aa hj
 have S0:=aa hv
 have nA:s.size<=4000000:=by omega
 obtain ⟨X,hX⟩:∃X,X=rd (bs s) (n+1) false dp nm pt cG p []:=⟨_,rfl⟩
 rw [<-hX]
 rw [rd_val,<-hj] at hX
 have HX:=aa hX
 have hrow:Hid (ip≠none->∀k,eD.ownBlock=some k->k<w.heap.size):=λ hi k hk=>by
  rcases hv.h with ⟨e,_⟩ | ⟨bi,_,hI,_,_⟩
  ·exact absurd e hi
  exact (hI.row.lt k hk).2
 have HV:=aa hV
 clear hj hv hX hV
 go_enter Tryz.func97,Tryz.ntmps97
 go_wp2_with fail
 refine (dL S0.out.rr nA).mono ?_
 rintro r w1 ⟨rfl,jx,nB,h1'⟩
 have ny:jx=j:=by rw [<-nB.eq,HJ.out]
 subst ny
 have S1:=aa (S0.out.step h1' hne)
 clear h1' nB S0
 go_wp2_with fail
 by_cases hlt:jx<s.size
 ·refine (yH S1.out.rr true (by simp [hlt])).mono ?_
  rintro r w2 ⟨rfl,h2⟩
  have S2:=aa (S1.out.step h2 hne)
  clear h2 S1
  have c0:=S2.out.rr.c0
  have c1:=S2.out.rr.c1
  have y5:w2.cell? ⟨bv,5,none⟩=some (.int .i64 0):=S2.out.v.cell 5
  have z5:=S2.out.v.fz 5
  have Tc:rb≠bv:=λ e=>hne e.symm
  have Xv:(jx:Int)<(s.size:Int):=by omega
  have oo:=dR hlt
  go_wp2
  go_quiet (fail)
  have S3:Hid (VS w rb bv ip cG B0 di eD eD xs s jx 0 rt ⟨0,0,[],nm,pt,jx,0,-1⟩ ((w2.setCell ⟨bv,5,none⟩ (.int .i64 (jx:Nat))).drewN nq)):=(S2.out.iY (d':=⟨0,0,[],nm,pt,jx,0,-1⟩) hne 5 (.int .i64 (jx:Nat)) rfl).drewN hne nq
  clear S2 c0 c1 y5 z5
  generalize (w2.setCell ⟨bv,5,none⟩ (.int .i64 (jx:Nat))).drewN nq=w3 at *
  have Js:=aa oo
  have HLT:=aa ((s[jx]'hlt).toNat_lt)
  generalize (s[jx]'hlt).toNat=c at *
  go_upto_region 6 with fail
  go_cut [10] from 36 (λ x wc=>x=.bool (decide (c=91\/c=123))/\wc=w3)
  case first =>
   by_cases h1:c=91
   ·subst h1
    go_wp2
    go_meet
    exact ⟨by simp,rfl⟩
   by_cases h2:c=123
   ·subst h2
    go_wp2
    go_meet
    exact ⟨by simp,rfl⟩
   have e91:((c:Int) == 91)=false:=iQ h1
   have ajJ:((c:Int) == 123)=false:=iQ h2
   go_wp2
   go_meet
   exact ⟨by simp [h1,h2],rfl⟩
  case rest =>
  obtain ⟨rfl,Lg⟩:=hcut
  have Lg:=Lg.symm
  subst Lg
  obtain ⟨ins,J6⟩:∃d,decide (c=91\/c=123)=d:=⟨_,rfl⟩
  rw [J6]
  have TD:xs.length<=4000000:=by omega
  have y0:w3.cell? ⟨bv,0,none⟩=some (.int .i64 0):=S3.out.v.cell 0
  have z0:=S3.out.v.fz 0
  have hle:w.heap.size<=w3.heap.size:=S3.out.f.size
  have aC:c≠256:=by have:=HLT.out; omega
  cases ins
  ·have hc:¬(c=91\/c=123):=by simpa using J6
   have HC:=aa hc
   clear J6 hc
   have Fc:=aa (Ez (nm:=nm) (pt:=pt) (cG:=cG) hjl Js.out)
   have xG:Hid (X=iW (bs s) nm pt cG jx):=by rw [HX.out,Js.out,if_neg aC,if_neg HC.out]; exact aa rfl
   by_cases hq:c=34\/c=116\/c=102\/c=110
   ·go_upto_block 0 with fail
    go_cut [] from 67 (λ wd=>∃(k:Nat) (tx:List UInt8) (P e:Nat),VS w rb bv ip cG B0 di eD eD xs s P e rt ⟨k,0,tx,nm,pt,jx,0,-1⟩ wd/\X=ue k tx nm pt jx P e/\(e=0->jx<P)/\P<=s.size)
    case first =>
     clear HX HC Js
     rcases hq with h | h | h | h
     ·subst h
      have S4:=aa (S3.out.iY (d':=⟨2,0,[],nm,pt,jx,0,-1⟩) hne 0 (.int .i64 2) rfl)
      have HL:=aa (Fc.out.1 rfl)
      clear Fc S3
      go_wp2_with fail
      refine (JY S4.out.rr nA).mono ?_
      rintro r w5 ⟨rfl,h5⟩
      have S5:=aa (S4.out.step h5 hne)
      clear h5 S4
      generalize aP (bs s) jx=T at *
      have y2:w5.cell? ⟨bv,2,none⟩=some (.string ⟨#[]⟩):=S5.out.v.cell 2
      have z2:=S5.out.v.fz 2
      go_wp2
      go_meet
      exact ⟨2,_,_,_,S5.out.iY (d':=⟨2,0,T.t,nm,pt,jx,0,-1⟩) hne 2 (.string (sb T.t)) rfl,xG.out.trans HL.out.1,HL.out.2.1,HL.out.2.2⟩
     ·subst h
      have S4:=aa (S3.out.iY (d':=⟨3,0,[],nm,pt,jx,0,-1⟩) hne 0 (.int .i64 3) rfl)
      have HL:=aa (Fc.out.2 (by simp))
      clear Fc S3
      go_wp2_with fail
      refine (AK S4.out.rr nA ⟨#[116,114,117,101]⟩ (by decide)).mono ?_
      rintro r w5 ⟨rfl,h5⟩
      have S5:=aa (S4.out.step h5 hne)
      clear h5 S4
      have y2:w5.cell? ⟨bv,2,none⟩=some (.string ⟨#[]⟩):=S5.out.v.cell 2
      have z2:=S5.out.v.fz 2
      go_wp2
      go_meet
      exact ⟨3,_,_,_,S5.out.iY (d':=⟨3,0,PD.map UInt8.ofNat,nm,pt,jx,0,-1⟩) hne 2 (.string ⟨#[116,114,117,101]⟩) rfl,xG.out.trans HL.out.1,HL.out.2.1,HL.out.2.2⟩
     ·subst h
      have S4:=aa (S3.out.iY (d':=⟨3,0,[],nm,pt,jx,0,-1⟩) hne 0 (.int .i64 3) rfl)
      have HL:=aa (Fc.out.2 (by simp))
      clear Fc S3
      go_wp2_with fail
      refine (AK S4.out.rr nA ⟨#[102,97,108,115,101]⟩ (by decide)).mono ?_
      rintro r w5 ⟨rfl,h5⟩
      have S5:=aa (S4.out.step h5 hne)
      clear h5 S4
      have y2:w5.cell? ⟨bv,2,none⟩=some (.string ⟨#[]⟩):=S5.out.v.cell 2
      have z2:=S5.out.v.fz 2
      go_wp2
      go_meet
      exact ⟨3,_,_,_,S5.out.iY (d':=⟨3,0,PE.map UInt8.ofNat,nm,pt,jx,0,-1⟩) hne 2 (.string ⟨#[102,97,108,115,101]⟩) rfl,xG.out.trans HL.out.1,HL.out.2.1,HL.out.2.2⟩
     subst h
     have S4:=aa (S3.out.iY (d':=⟨3,0,[],nm,pt,jx,0,-1⟩) hne 0 (.int .i64 3) rfl)
     have HL:=aa (Fc.out.2 (by simp))
     clear Fc S3
     go_wp2_with fail
     refine (AK S4.out.rr nA ⟨#[110,117,108,108]⟩ (by decide)).mono ?_
     rintro r w5 ⟨rfl,h5⟩
     have S5:=aa (S4.out.step h5 hne)
     clear h5 S4
     have y2:w5.cell? ⟨bv,2,none⟩=some (.string ⟨#[]⟩):=S5.out.v.cell 2
     have z2:=S5.out.v.fz 2
     go_wp2
     go_meet
     exact ⟨3,_,_,_,S5.out.iY (d':=⟨3,0,PF.map UInt8.ofNat,nm,pt,jx,0,-1⟩) hne 2 (.string ⟨#[110,117,108,108]⟩) rfl,xG.out.trans HL.out.1,HL.out.2.1,HL.out.2.2⟩
    case rest =>
    obtain ⟨k,tx,P,e,h5,hXe,hPj,hPl⟩:=hcut
    have S5:=aa h5
    have Tz:=aa hXe
    clear h5 hXe xG Fc HX HC Js S3 y0 z0 hq
    have c2:wc.cell? ⟨rb,2,none⟩=some (.int .i64 (e:Nat)):=S5.out.r.cell 2
    by_cases he:e=0
    ·subst he
     have c1:wc.cell? ⟨rb,1,none⟩=some (.int .i64 (P:Nat)):=S5.out.r.cell 1
     have y6:wc.cell? ⟨bv,6,none⟩=some (.int .i64 0):=S5.out.v.cell 6
     have y7:wc.cell? ⟨bv,7,none⟩=some (.int .i64 (-1)):=S5.out.v.cell 7
     have z6:=S5.out.v.fz 6
     have z7:=S5.out.v.fz 7
     have S7:=aa ((S5.out.iY (d':=⟨k,0,tx,nm,pt,jx,P,-1⟩) hne 6 (.int .i64 (P:Nat)) rfl).iY (d':=⟨k,0,tx,nm,pt,jx,P,(P:Int) - 1⟩) hne 7 (.int .i64 ((P:Int) - 1)) rfl)
     have V9:B0<=wc.heap.size:=Nat.le_trans hB S5.out.f.size
     have abY:w.heap.size<=wc.heap.size:=S5.out.f.size
     have hPb:(P:Int)<=2000000:=by omega
     have HPJ:=aa (hPj rfl)
     clear hPj
     go_wp2_with fail
     refine (vE S7.out hne (by simpa [World.setCell] using V9) TD).mono ?_
     rintro r w8 ⟨rfl,EZ,rt8,Ug,XM,XN⟩
     have S8:=aa Ug
     have XO:=aa XM
     have HN8:=aa XN
     clear Ug XM XN S7 S5
     go_wp2
     go_end0
     rw [Tz.out]
     refine ⟨rfl,VS.leaf S8.out (λ hi=>⟨(XO.out hi).1,?_⟩) HN8.out rR XL HPJ.out⟩
     rcases (XO.out hi).2 with y | ⟨g,y1,y2,y3⟩
     ·exact Or.inl y
     exact Or.inr ⟨g,y1,by simp [World.setCell] at y2; omega,y3⟩
    have Lc:((e:Int) == 0)=false:=pG he
    have HE:=aa he
    clear he
    go_wp2
    go_end0
    rw [Tz.out,ue,if_neg HE.out]
    exact ⟨rfl,S5.out.vF⟩
   have e34:((c:Int) == 34)=false:=iQ (show c≠34 by omega)
   have ajL:((c:Int) == 116)=false:=iQ (show c≠116 by omega)
   have ajM:((c:Int) == 102)=false:=iQ (show c≠102 by omega)
   have ajN:((c:Int) == 110)=false:=iQ (show c≠110 by omega)
   have hTo:=JU (s:=bs s) (i:=jx) (by rw [an]; exact hjl)
   have Yv:=aa (λ w d (h:RV rb bv s w jx 0 rt d (.slice none 0 0) w)=>XK h hne nA hjl)
   have Uo:Hid (X=if uR (bs s) jx=true then ⟨[⟨⟨1,pF (bs s) jx,[],nm,pt,jx,lT (bs s) jx,if fH cG (bt (bs s) (lT (bs s) jx))=true then (lT (bs s) jx:Int) else -1⟩,[]⟩],0,lT (bs s) jx⟩ else ⟨[],2,cW (bs s) jx⟩):=by
    rw [xG.out]
    unfold iW
    rw [Js.out,if_neg (by omega),if_neg (by omega)]
    exact aa rfl
   clear xG Fc HX HC Js hq
   generalize lT (bs s) jx=nt at *
   generalize pF (bs s) jx=nv at *
   go_wp2_with fail
   refine (Yv.out _ _ S3.out.J5).mono ?_
   rintro r w5 ⟨rfl,⟨ho,h5⟩ | ⟨ho,h5⟩⟩
   ·have S5:=aa (S3.out.rv h5)
    have c2:w5.cell? ⟨rb,2,none⟩=some (.int .i64 0):=h5.r.cell 2
    have V9:B0<=w5.heap.size:=Nat.le_trans hB S5.out.f.size
    have abY:w.heap.size<=w5.heap.size:=S5.out.f.size
    have HPJ:=aa (hTo ho).1
    have HX4:=aa (Uo.out.trans (if_pos ho))
    clear h5 S3 Uo ho hTo Yv
    go_wp2_with fail
    refine (vE S5.out hne V9 TD).mono ?_
    rintro r w8 ⟨rfl,EZ,rt8,Ug,XM,XN⟩
    have S8:=aa Ug
    have XO:=aa XM
    have HN8:=aa XN
    clear Ug XM XN S5
    go_wp2_with fail
    refine (XJ S8.out hne).mono ?_
    rintro r w9 ⟨rfl,h9,hgr⟩
    have S9:=aa h9
    clear h9
    go_wp2
    (try simp only [Exit.inBlock,Exit.then]); refine bodyPost_ret (results_none rfl _ _ _) rfl ?_
    rw [HX4.out]
    refine ⟨rfl,VS.leaf S9.out (λ hi=>⟨(XO.out hi).1,?_⟩) HN8.out rR XL HPJ.out⟩
    rcases (XO.out hi).2 with y | ⟨g,y1,y2,y3⟩
    ·exact Or.inl y
    exact Or.inr ⟨g,y1,by omega,by omega⟩
   have S5:=aa (S3.out.rv h5)
   have c2:w5.cell? ⟨rb,2,none⟩=some (.int .i64 2):=h5.r.cell 2
   have HX4:=aa (Uo.out.trans (if_neg (by rw [ho]; decide)))
   clear h5 S3 Uo ho hTo Yv
   go_wp2
   (try simp only [Exit.inBlock,Exit.then]); refine bodyPost_ret (results_none rfl _ _ _) rfl ?_
   rw [HX4.out]
   exact ⟨rfl,S5.out.vF⟩
  have hc:c=91\/c=123:=by simpa using J6
  have HC:=aa hc
  clear J6 hc
  by_cases h8:8<dp
  ·have d8:(8:Int)<(dp:Int):=by omega
   go_wp2_with fail
   refine (gS S3.out.rr 3 _ rfl).mono ?_
   rintro r w4 ⟨rfl,h4⟩
   rw [if_pos rfl] at h4
   have S4:=aa (S3.out.step h4 hne)
   clear h4 S3
   go_wp2
   (try simp only [Exit.inBlock,Exit.then]); refine bodyPost_ret (results_none rfl _ _ _) rfl ?_
   rw [HX.out,Js.out,if_neg aC,if_pos HC.out,if_pos h8]
   exact ⟨rfl,S4.out.vF⟩
  have d8:¬(8:Int)<(dp:Int):=by omega
  have eX:=HX.out
  rw [Js.out,if_neg aC,if_pos HC.out,if_neg h8] at eX
  have HX2:=aa eX
  clear eX HX
  go_upto_if 54 with fail
  go_cut [11] from 55 (λ x wd=>∃(K:Nat) (cl:Int),(K=4/\cl=93/\c=91\/K=5/\cl=125/\c=123)/\x=.int .u8 cl/\VS w rb bv ip cG B0 di eD eD xs s jx 0 rt ⟨K,0,[],nm,pt,jx,0,-1⟩ wd/\wd.heap.size=w3.heap.size)
  case first =>
   have S4:=S3.out.iY (d':=⟨5,0,[],nm,pt,jx,0,-1⟩) hne 0 (.int .i64 5) rfl
   have S4H:=aa S4
   clear S4
   rcases HC.out with h | h
   ·subst h
    go_wp2
    go_meet
    exact ⟨4,93,Or.inl ⟨rfl,rfl,by trivial⟩,rfl,S4H.out.iY (d':=⟨4,0,[],nm,pt,jx,0,-1⟩) hne 0 (.int .i64 4) rfl,by simp [World.setCell]⟩
   subst h
   go_wp2
   go_meet
   exact ⟨5,125,Or.inr ⟨rfl,rfl,by trivial⟩,rfl,S4H.out,by simp [World.setCell]⟩
  case rest =>
  obtain ⟨K,cl,hK,rfl,h4,hsz⟩:=hcut
  have S4:=aa h4
  obtain ⟨R,hR⟩:∃R,R=pH (bs s) n dp pt K (jx+1):=⟨_,rfl⟩
  have hRp:jx<R.p:=by
   rw [hR]
   have h3:=fV (bs s) (jx+1)
   have h4:=ir (s:=bs s) (i:=jx+1) (by rw [an]; omega)
   unfold pH
   split
   ·simp; omega
   have:=(k7 (s:=bs s) n true dp [] pt K (sk (bs s) (jx+1)) [] h4).ge
   omega
  have HP:Hid (∀(W:World) (rt':Value),ay W rb (yG s jx 0 rt') 161->ay W bv (rH ⟨K,0,[],nm,pt,jx,0,-1⟩ (.slice none 0 0)) 195->Calls Tryz.prog 125 #[.pointer (some ⟨rb,0,none⟩),.pointer (some ⟨bv,0,none⟩),.int .u8 cl,.int .i64 (dp:Nat)] W λ r w' =>
   r=.returned (.tuple #[])/\XH W rb bv ⟨K,0,[],nm,pt,jx,0,-1⟩ s rt' (λ f=>if f=jx then bv else A f) dp jx R w'):=λ W rt' hr eK=>by
   rw [hR]
   rcases hK with ⟨rfl,rfl,_⟩ | ⟨rfl,rfl,_⟩
   ·exact CM HV.out hs (λ f=>if f=jx then bv else A f) (by omega) hlt (by omega) Pd rO hr eK (Or.inl rfl) rfl hne
   exact CM HV.out hs (λ f=>if f=jx then bv else A f) (by omega) hlt (by omega) Pd rO hr eK (Or.inr rfl) rfl hne
  have xG:Hid (X=held K nm pt jx R):=by
   rw [HX2.out,hR]
   rcases hK with ⟨rfl,rfl,h⟩ | ⟨rfl,rfl,h⟩
   ·rw [if_pos h]; exact aa rfl
   rw [if_neg (by omega)]; exact aa rfl
  have XP:K=4\/K=5:=by omega
  have HK:=aa XP
  clear h4 S3 hK hR HX2 HC HV XP
  have Rf:B0<=wc.heap.size:=by omega
  go_wp2_with fail
  refine (vE S4.out hne Rf TD).mono ?_
  rintro r w5 ⟨rfl,sv5,rt5,h5,hM5,hN5⟩
  have S5:=aa h5
  have HM5:=aa hM5
  have HN5:=aa hN5
  clear h5 hM5 hN5
  go_wp2_with fail
  refine (HP.out _ _ S5.out.r S5.out.v).mono ?_
  rintro r w6 ⟨rfl,h6⟩
  have P6:=aa h6
  clear h6
  go_wp2
  (try simp only [Exit.inBlock,Exit.then]); refine bodyPost_ret (results_none rfl _ _ _) rfl ?_
  refine ⟨rfl,?_⟩
  rw [xG.out]
  exact VS.held (p0:=p) (rt:=rt) S5.out (λ hi=>⟨(HM5.out hi).1,by
   rcases (HM5.out hi).2 with y | ⟨g,y1,y2,y3⟩
   ·exact Or.inl y
   exact Or.inr ⟨g,y1,by omega,y3⟩⟩) HN5.out (by omega) XL rfl hRp hrow.out P6.out
 have oo:bt (bs s) jx=256:=gK hlt
 refine (yH S1.out.rr false (by simp [hlt])).mono ?_
 rintro r w2 ⟨rfl,h2⟩
 have S2:=aa (S1.out.step h2 hne)
 clear h2 S1
 go_wp2_with fail
 refine (gS S2.out.rr 2 _ rfl).mono ?_
 rintro r w3 ⟨rfl,h3⟩
 rw [if_pos rfl] at h3
 have S3:=aa (S2.out.step h3 hne)
 clear h3 S2
 go_wp2
 (try simp only [Exit.inBlock,Exit.then]); refine bodyPost_ret (results_none rfl _ _ _) rfl ?_
 rw [HX.out,if_pos oo]
 exact ⟨rfl,S3.out.vF⟩
theorem NJ {s:ByteArray} (hs:s.size<=2000000):∀n,AO s n:=by
 intro n
 induction n using Nat.strongRecOn with
 | _ n ih =>
  intro w rb bv ip cG B0 di eD xs p rt A dp nm pt hn hp rR h1 rO hxl hr hb hh hne hnr Iq hB
  obtain ⟨m,rfl⟩:∃m,n=m+1:=⟨n - 1,by omega⟩
  have hv:VS w rb bv ip cG B0 di eD eD xs s p 0 rt ⟨0,0,[],nm,pt,0,0,-1⟩ w:=⟨hr,hb,hh,Fr.refl _ _,hnr,Iq⟩
  have hV:∀k,k<m->AO s k:=λ k hk=>ih k (by omega)
  exact NI hs A hp rR hxl hv hne hB hV hn h1 rO
theorem NK {s:List UInt8} {n dp:Nat} {nm pt:List UInt8} {k i:Nat} {ws:List Tv} (he:(rd s (n+1) false dp nm pt k i ws).e=0):∃t,(rd s (n+1) false dp nm pt k i ws).ws=[t]/\(t.d.cl<0->t.ws=[]):=by
 rw [rd_val] at he ⊢
 split at he
 ·cases he
 rename_i aC
 rw [if_neg aC]
 split at he
 ·rename_i hb
  rw [if_pos hb]
  split at he
  ·cases he
  rename_i h8
  rw [if_neg h8]
  refine ⟨_,rfl,λ h=>?_⟩
  exfalso
  have e2:(pH s n dp pt (if bt s (sk s i)=91 then 4 else 5) (sk s i+1)).e=0:=he
  have hp:0<(pH s n dp pt (if bt s (sk s i)=91 then 4 else 5) (sk s i+1)).p:=by
   generalize (if bt s (sk s i)=91 then 4 else 5)=kk at *
   unfold pH at e2 ⊢
   split
   ·simp
   rename_i h9
   rw [if_neg h9] at e2
   rcases Nat.lt_or_ge (sk s (sk s i+1)) (s.length+1) with h10 | h10
   ·have:=(k7 (s:=s) n true dp [] pt kk (sk s (sk s i+1)) [] (by omega)).gt e2
    omega
   have h11:sk s i<s.length:=by
    rcases Nat.lt_or_ge (sk s i) s.length with x | x
    ·exact x
    exact absurd (iD x) aC
   have:=ir (s:=s) (i:=sk s i+1) (by omega)
   omega
  simp only [e2,if_true] at h
  omega
 rename_i hb
 rw [if_neg hb]
 have h11:sk s i<s.length:=by
  rcases Nat.lt_or_ge (sk s i) s.length with x | x
  ·exact x
  exact absurd (iD x) aC
 have hw:=(CJ (s:=s) (nm:=nm) (pt:=pt) (cG:=k) h11).2.2.2
 have wv:(iW s nm pt k (sk s i)).ws≠[]:=by
  unfold iW at he ⊢
  split
  ·rename_i q1
   rw [if_pos q1] at he
   split
   ·simp
   rename_i q2; rw [if_neg q2] at he; exact absurd he q2
  rename_i q1
  rw [if_neg q1] at he
  split
  ·rename_i q2
   rw [if_pos q2] at he
   split
   ·simp
   rename_i q3; rw [if_neg q3] at he; cases he
  rename_i q2
  rw [if_neg q2] at he
  split
  ·simp
  rename_i q3; rw [if_neg q3] at he; cases he
 rcases vA (s:=s) n dp nm pt k i ws with q | ⟨t,q,_⟩
 ·rw [rd_val,if_neg aC,if_neg hb] at q; exact absurd q wv
 rw [rd_val,if_neg aC,if_neg hb] at q
 exact ⟨t,q,λ_=>(hw t (by rw [q]; simp)).2.1⟩
def shut (ends:Bool) (len e:Nat) (t:Tv):Tv:=if e=0/\ends=true/\t.d.cl<0 then ⟨{ t.d with cl:=(len:Int) },t.ws⟩ else t
structure EB (w:World) (s:ByteArray) (rb bv p e:Nat) (rt:Value) (ws:List Tv) (A:Nat->Nat) (w':World):Prop where
 r:ay w' rb (yG s p e rt) 161
 f:ak w w'
 ge:w.heap.size<=rb
 n:ws=[]->rt=.pointer none
 t:∀t,ws=[t]->rt=dM A t/\A t.d.ai=bv/\RT w' A (λ k=>k≠rb/\w.heap.size<=k/\k<w'.heap.size) (s.size+1) 9 t
theorem EB.rr {w:World} {s:ByteArray} {rb bv p e:Nat} {rt:Value} {ws:List Tv} {A:Nat->Nat} {w':World} (h:EB w s rb bv p e rt ws A w'):RR rb s w' p e rt w':=⟨h.r,Fr.refl _ _⟩
theorem EB.step {w:World} {s:ByteArray} {rb bv p e p' e':Nat} {rt:Value} {ws:List Tv} {A:Nat->Nat} {w' w'':World} (h:EB w s rb bv p e rt ws A w') (k:RR rb s w' p' e' rt w''):EB w s rb bv p' e' rt ws A w'':=by
 refine ⟨k.k,h.f.new k.f (λ i hi e=>by unfold PB at e; have:=h.ge; omega),h.ge,h.n,λ t ht=>?_⟩
 obtain ⟨h1,h2,h3⟩:=h.t t ht
 refine ⟨h1,h2,RT.mono (λ q hq=>⟨hq.1,hq.2.1,Nat.lt_of_lt_of_le hq.2.2 k.f.size⟩) (Nat.le_refl _) _ _ (RT.keep (w':=w'') (λ q hq=>k.f.block q hq.2.2 (λ x=>hq.1 x)) _ _ h3)⟩
structure Tg (w:World) (s:ByteArray) (ends:Bool) (rb:Nat) (w':World):Prop where
 f:ak w w'
 r:∃rt,ay w' rb (yG s (aV (bs s)).p (aV (bs s)).e rt) 161/\((aV (bs s)).ws=[]->rt=.pointer none) /\
  ∀t,(aV (bs s)).ws=[t]->∃A,rt=dM A t/\RT w' A (λ k=>w.heap.size<=k/\k<w'.heap.size) (s.size+1) 9 (shut ends s.size (aV (bs s)).e t)
theorem EB.same {w:World} {s:ByteArray} {rb bv:Nat} {rt:Value} {A:Nat->Nat} {w':World} {ends:Bool} (h:EB w s rb bv (aV (bs s)).p (aV (bs s)).e rt (aV (bs s)).ws A w') (hc:∀t,(aV (bs s)).ws=[t]->shut ends s.size (aV (bs s)).e t=t):Tg w s ends rb w' :=
 ⟨h.f,rt,h.r,h.n,λ t ht=>⟨A,(h.t t ht).1,by rw [hc t ht]; exact RT.mono (λ q hq=>hq.2) (Nat.le_refl _) _ _ (h.t t ht).2.2⟩⟩
theorem EB.Th {w:World} {s:ByteArray} {rb bv:Nat} {rt:Value} {A:Nat->Nat} {w':World} (h:EB w s rb bv (aV (bs s)).p (aV (bs s)).e rt (aV (bs s)).ws A w') (he:(aV (bs s)).e=0) {t0:Tv} (h0:(aV (bs s)).ws=[t0]) (hc:t0.d.cl<0) (hl:t0.ws=[]) (hne:bv≠rb) (hge:w.heap.size<=bv) :
 Tg w s true rb (w'.setCell ⟨bv,7,none⟩ (.int .i64 (s.size:Nat))):=by
 obtain ⟨h1,h2,h3,h4,⟨sv,h5,h6,h7⟩,_⟩:=h.t t0 h0
 rw [h2] at h5
 have f2:Fr (λ q=>q=bv) w' (w'.setCell ⟨bv,7,none⟩ (.int .i64 (s.size:Nat))):=(Fr.refl (λ q=>q=bv) w').setCell ⟨bv,7,none⟩ (Or.inl rfl) _
 refine ⟨h.f.new f2 (λ i hi e=>by omega),rt,h.r.fr f2 (λ e=>hne e.symm),h.n,λ t ht=>?_⟩
 have et:t=t0:=by rw [h0] at ht; simpa using ht.symm
 subst et
 have es:shut true s.size (aV (bs s)).e t=⟨{ t.d with cl:=(s.size:Int) },t.ws⟩:=by unfold shut; rw [if_pos ⟨he,rfl,hc⟩]
 rw [es]
 refine ⟨A,h1,h3,?_,⟨sv,?_,λ q hq=>?_,?_⟩,λ c Fg=>by rw [hl] at Fg; cases Fg⟩
 ·show w.heap.size<=A t.d.ai/\A t.d.ai<_
  rw [h2]; exact ⟨hge,by have:=h5.lt; simpa [World.setCell] using this⟩
 ·show ay _ (A t.d.ai) _ _
  rw [h2]; exact h5.set 7 _
 ·have:=h6 q hq; exact ⟨this.2.1,by have:=this.2.2; simpa [World.setCell] using this⟩
 refine bO h7 (λ q hq=>f2.block q (h7.lt q hq).2 (λ e=>?_))
 subst e
 rcases h7.2 with ⟨x,_⟩ | ⟨g,cap,cur,x1,_,x3,_⟩
 ·rw [x] at hq; cases hq
 rw [x1] at hq
 have eg:g=q:=Option.some.inj hq
 subst eg
 unfold ay at h5
 rw [x3] at h5
 injection h5 with h5
 injection h5 with _ h5 _
 exact absurd h5 (by decide)
theorem AP {w:World} {s:ByteArray} (hs:s.size<=2000000) :
 Calls Tryz.prog 97 #[.pointer (some ⟨w.heap.size,0,none⟩),.pointer none,.pointer (some ⟨w.heap.size+1,0,none⟩),.int .i64 1]
  ((w.alloc (.cells #[.string s,.int .i64 0,.int .i64 0,.pointer none] 161)).alloc (.cells #[.int .i64 0,.int .i64 0,.string ⟨#[]⟩,.string ⟨#[]⟩,.string ⟨#[36]⟩,.int .i64 0,.int .i64 0,.int .i64 (-1),.slice none 0 0] 195)) λ r w' =>
  r=.returned (.tuple #[])/\∃rt A,EB w s w.heap.size (w.heap.size+1) (rd (bs s) (2 * (bs s).length+3) false 1 [] [36] 0 0 []).p (rd (bs s) (2 * (bs s).length+3) false 1 [] [36] 0 0 []).e rt (rd (bs s) (2 * (bs s).length+3) false 1 [] [36] 0 0 []).ws A w':=by
 obtain ⟨W1,mq⟩:∃W1,W1=w.alloc (.cells #[.string s,.int .i64 0,.int .i64 0,.pointer none] 161):=⟨_,rfl⟩
 have hz1:W1.heap.size=w.heap.size+1:=by rw [mq]; simp
 have yY:ay W1 w.heap.size (yG s 0 0 (.pointer none)) 161:=by rw [mq]; exact ay.new _ _ _
 have sL:ak w W1:=by rw [mq]; exact (Fr.refl _ w).alloc _
 rw [<-mq]
 have h:=NJ hs (2 * (bs s).length+3) (W1.alloc (.cells (rH ⟨0,0,[],[],[36],0,0,-1⟩ (.slice none 0 0)) 195)) w.heap.size (w.heap.size+1) none 0 0 ⟨0,0,[],[],[],0,0,-1⟩ (.slice none 0 0) [] 0 (.pointer none) (λ_=>0) 1 [] [36]
  (by rw [an]; omega) (by omega) (by omega) (by omega) (by simp) (by simp) (yY.alloc _) (by rw [<-hz1]; exact ay.new _ _ _) (Or.inl ⟨rfl,rfl⟩) (by omega) (λ⟨_,e,_⟩=>by cases e) (λ⟨_,e,_⟩=>by cases e) (Nat.zero_le _)
 refine h.mono ?_
 rintro r w' ⟨rfl,V⟩
 refine ⟨rfl,?_⟩
 obtain ⟨rt,hr,_,Ul,hrn⟩:=V.r
 obtain ⟨pI,_,_,hT⟩:=V.h
 have Xd:Fr (λ k=>k=w.heap.size\/k=w.heap.size+1) (W1.alloc (.cells (rH ⟨0,0,[],[],[36],0,0,-1⟩ (.slice none 0 0)) 195)) w':=V.f.mono (by
  rintro k _ (x | x | ⟨_,e,_⟩)
  ·exact Or.inl x
  ·exact Or.inr x
  cases e)
 have hkw:ak w w':=(sL.alloc _).new Xd (λ i hi e=>by omega)
 have hsz:(W1.alloc (.cells (rH ⟨0,0,[],[],[36],0,0,-1⟩ (.slice none 0 0)) 195)).heap.size=w.heap.size+2:=by simp [hz1]
 have uz:w.heap.size+2<=w'.heap.size:=by have:=Xd.size; omega
 have hle:=(k7 (s:=bs s) (2 * (bs s).length+3) false 1 [] [36] 0 0 [] (by omega)).le
 have wF:=an s
 rcases vA (s:=bs s) (2 * (bs s).length+2) 1 [] [36] 0 0 [] with hz | ⟨t,ht,_⟩
 ·have hz':(rd (bs s) (2 * (bs s).length+3) false 1 [] [36] 0 0 []).ws=[]:=hz
  have e0:rt=.pointer none:=hrn hz'
  exact ⟨rt,λ_=>0,hr,hkw,Nat.le_refl _,λ_=>e0,λ t ht=>by rw [hz'] at ht; cases ht⟩
 have ht':(rd (bs s) (2 * (bs s).length+3) false 1 [] [36] 0 0 []).ws=[t]:=ht
 obtain ⟨A,_,XE,Nz⟩:=hT t ht'
 refine ⟨rt,A,hr,hkw,Nat.le_refl _,(λ x=>by rw [ht'] at x; cases x),λ t' ht2=>?_⟩
 have e4:t'=t:=by rw [ht'] at ht2; simpa using ht2.symm
 subst e4
 refine ⟨by rw [Ul (by rw [ht']; simp) rfl]; unfold dM; rw [XE],XE,RT.mono (λ k hk=>?_) (by omega) _ _ Nz⟩
 rcases hk with x | ⟨x1,x2,_⟩
 ·subst x; exact ⟨by omega,by omega,by omega⟩
 rw [hsz] at x1; exact ⟨by omega,by omega,x2⟩
theorem Ti {w:World} {s:ByteArray} (hs:s.size<=2000000) (ends:Bool) :
 Calls Tryz.prog 68 #[.string s,.bool ends] w λ r w'=>r=.returned (.pointer (some ⟨w.heap.size,0,none⟩))/\Tg w s ends w.heap.size w':=by
 obtain ⟨R,hR⟩:∃R,R=rd (bs s) (2 * (bs s).length+3) false 1 [] [36] 0 0 []:=⟨_,rfl⟩
 have Zk:=aa (AP (w:=w) hs)
 rw [<-hR] at Zk
 have nA:s.size<=4000000:=by omega
 have hRl:R.p<=s.size:=by rw [hR,<-an s]; exact (k7 _ false 1 [] [36] 0 0 [] (by omega)).le
 by_cases he:R.e=0
 ·obtain ⟨j,hj⟩:∃j,j=sk (bs s) R.p:=⟨_,rfl⟩
  have hjl:j<=s.size:=by rw [hj,<-an s]; exact ir (by rw [an]; exact hRl)
  have HJ:=aa hj
  have PM:∃t,R.ws=[t]/\(t.d.cl<0->t.ws=[]):=by rw [hR]; exact NK (by rw [<-hR]; exact he)
  by_cases hb:bt (bs s) j=256
  ·have eT:aV (bs s)=⟨R.ws,0,j⟩:=by
    unfold aV
    simp only
    rw [<-hR,if_neg (by simpa using he),<-hj,if_pos hb]
   have hge:¬j<s.size:=λ h=>by have:=dR h; have:=(s[j]'h).toNat_lt; omega
   have HMO:=aa (show (decide (0=0) && decide (j<s.size))=false by simp; omega)
   obtain ⟨t,ht,hcl⟩:=PM
   have HT:=aa ht
   have HC:=aa hcl
   have HE:=aa he
   have ET:=aa eT
   clear hR hj he hb eT ht hcl
   go_enter Tryz.func68,Tryz.ntmps68
   go_wp2_with fail
   refine (Zk.out).mono ?_
   rintro r w1 ⟨rfl,rt,A,h1⟩
   rw [HE.out] at h1
   have I1:=aa h1
   clear h1
   go_wp2_with fail
   refine (dL I1.out.rr nA).mono ?_
   rintro r w2 ⟨rfl,jx,nB,h2⟩
   have ny:jx=j:=by rw [<-nB.eq,HJ.out]
   subst ny
   have I2:=aa (I1.out.step h2)
   clear h2 nB I1
   go_wp2_with fail
   refine (yH I2.out.rr _ HMO.out).mono ?_
   rintro r w3 ⟨rfl,h3⟩
   have I3:=aa (I2.out.step h3)
   clear h3 I2
   have c2:w3.cell? ⟨w.heap.size,2,none⟩=some (.int .i64 0):=I3.out.r.cell 2
   obtain ⟨q1,q2,q3,q4,⟨sv,q5,q6,q7⟩,q8⟩:=I3.out.t t HT.out
   rw [q2] at q5
   have y7:w3.cell? ⟨w.heap.size+1,7,none⟩=some (.int .i64 t.d.cl):=q5.cell 7
   have z7:=q5.fz 7
   have IF:Hid (EB w s w.heap.size (w.heap.size+1) (aV (bs s)).p (aV (bs s)).e rt (aV (bs s)).ws A w3):=by rw [ET.out]; exact I3.out
   have E0:Hid ((aV (bs s)).e=0):=by rw [ET.out]; exact aa rfl
   have W0:Hid ((aV (bs s)).ws=[t]):=by rw [ET.out]; exact HT.out
   clear q1 q3 q4 q5 q6 q7 q8 I3
   cases ends
   ·go_wp2
    go_ret
    exact ⟨rfl,IF.out.same (λ t' _=>by unfold shut; rw [if_neg (λ h=>by cases h.2.1)])⟩
   by_cases hc:t.d.cl<0
   ·have hd:decide (t.d.cl<0)=true:=by simpa using hc
    have P9:=aa (IF.out.Th E0.out W0.out hc (HC.out hc) (by omega) (by omega))
    go_wp2
    go_ret
    exact ⟨rfl,P9.out⟩
   have hd:decide (t.d.cl<0)=false:=by simpa using hc
   have P9:=aa (IF.out.same (ends:=true) (λ t' ht'=>by
    have e:t'=t:=by rw [W0.out] at ht'; simpa using ht'.symm
    unfold shut; rw [e,if_neg (λ h=>hc h.2.2)]))
   go_wp2
   go_ret
   exact ⟨rfl,P9.out⟩
  have eT:aV (bs s)=⟨R.ws,2,j⟩:=by
   unfold aV
   simp only
   rw [<-hR,if_neg (by simpa using he),<-hj,if_neg hb]
  have hlt:j<s.size:=by
   rcases Nat.lt_or_ge j s.size with h | h
   ·exact h
   exact absurd (gK (by omega)) hb
  have HMO:=aa (show (decide (0=0) && decide (j<s.size))=true by simp [hlt])
  have HE:=aa he
  have ET:=aa eT
  clear hR hj he hb eT PM
  go_enter Tryz.func68,Tryz.ntmps68
  go_wp2_with fail
  refine (Zk.out).mono ?_
  rintro r w1 ⟨rfl,rt,A,h1⟩
  rw [HE.out] at h1
  have I1:=aa h1
  clear h1
  go_wp2_with fail
  refine (dL I1.out.rr nA).mono ?_
  rintro r w2 ⟨rfl,jx,nB,h2⟩
  have ny:jx=j:=by rw [<-nB.eq,HJ.out]
  subst ny
  have I2:=aa (I1.out.step h2)
  clear h2 nB I1
  go_wp2_with fail
  refine (yH I2.out.rr _ HMO.out).mono ?_
  rintro r w3 ⟨rfl,h3⟩
  have I3:=aa (I2.out.step h3)
  clear h3 I2
  go_wp2_with fail
  refine (gS I3.out.rr 2 _ rfl).mono ?_
  rintro r w4 ⟨rfl,h4⟩
  rw [if_pos rfl] at h4
  have I4:=aa (I3.out.step h4)
  clear h4 I3
  have c2:w4.cell? ⟨w.heap.size,2,none⟩=some (.int .i64 2):=I4.out.r.cell 2
  have IF:Hid (EB w s w.heap.size (w.heap.size+1) (aV (bs s)).p (aV (bs s)).e rt (aV (bs s)).ws A w4):=by rw [ET.out]; exact I4.out
  have E0:Hid ((aV (bs s)).e=2):=by rw [ET.out]; exact aa rfl
  clear I4
  go_wp2
  go_ret
  exact ⟨rfl,IF.out.same (λ t' _=>by unfold shut; rw [if_neg (λ h=>by rw [E0.out] at h; cases h.1)])⟩
 have eT:aV (bs s)=R:=by
  unfold aV
  simp only
  rw [<-hR,if_pos (by simpa using he)]
 have HE:=aa he
 have ET:=aa eT
 have Lc:((R.e:Int) == 0)=false:=pG he
 clear hR he eT
 go_enter Tryz.func68,Tryz.ntmps68
 go_wp2_with fail
 refine (Zk.out).mono ?_
 rintro r w1 ⟨rfl,rt,A,h1⟩
 have I1:=aa h1
 clear h1
 go_wp2_with fail
 refine (ow I1.out.rr HE.out).mono ?_
 rintro r w2 ⟨rfl,h2⟩
 have I2:=aa (I1.out.step h2)
 clear h2 I1
 go_wp2_with fail
 refine (yH I2.out.rr false (by simp [HE.out])).mono ?_
 rintro r w3 ⟨rfl,h3⟩
 have I3:=aa (I2.out.step h3)
 clear h3 I2
 have c2:w3.cell? ⟨w.heap.size,2,none⟩=some (.int .i64 (R.e:Nat)):=I3.out.r.cell 2
 have IF:Hid (EB w s w.heap.size (w.heap.size+1) (aV (bs s)).p (aV (bs s)).e rt (aV (bs s)).ws A w3):=by rw [ET.out]; exact I3.out
 have E0:Hid ((aV (bs s)).e≠0):=by rw [ET.out]; exact HE.out
 clear I3
 go_wp2
 go_ret
 exact ⟨rfl,IF.out.same (λ t' _=>by unfold shut; rw [if_neg (λ h=>E0.out h.1)])⟩
structure VC (w:World) (A:Nat->Nat) (t:Tv) (sv:Value):Prop where
 b:ay w (A t.d.ai) (rH t.d sv) 195
 o:w.ownsRow 0 159 1 sv t.ws.length (t.ws.map (dM A))
theorem RT.vc {w:World} {A:Nat->Nat} {D:Nat->Prop} {hi n:Nat} {t:Tv} (h:RT w A D hi (n+1) t):∃sv,VC w A t sv:=by
 obtain ⟨_,_,⟨sv,h3,_,h5⟩,_⟩:=h
 exact ⟨sv,h3,h5⟩
theorem RT.kids {w:World} {A:Nat->Nat} {D:Nat->Prop} {hi n:Nat} {t:Tv} (h:RT w A D hi (n+1) t) {c:Tv} (hc:c ∈ t.ws):RT w A D hi n c:=h.2.2.2 c hc
theorem VC.at_ {w:World} {A:Nat->Nat} {t:Tv} {sv:Value} (h:VC w A t sv) {k:Nat} (hk:k<t.ws.length):∃g cap,sv=.slice (some ⟨g,0,none⟩) t.ws.length cap/\w.cell? ⟨g,k,none⟩=some (.pointer (some ⟨A (t.ws[k]).d.ai,0,none⟩)):=by
 obtain ⟨g,cap,hv,_,qg⟩:=h.o.form (by omega)
 refine ⟨g,cap,hv,?_⟩
 have h2:=h.o
 rw [hv] at h2
 have:=h2.cellAt k (by omega)
 rw [this]
 simp [dM,hk]
structure mj (w:World) (A:Nat->Nat) (l:List Tv) (sv:Value) (w':World):Prop where
 f:ak w w'
 o:w'.ownsRow w.heap.size 159 1 sv l.length (l.map (dM A))
theorem uf (n:Nat) (ws:List Tv) (k:Nat) (h:k<ws.length):(ws.take (k+1)).flatMap (au n)=(ws.take k).flatMap (au n)++au n ws[k]:=by
 rw [List.take_succ_eq_append_getElem h,List.flatMap_append]
 simp
theorem yM (n:Nat) (ws:List Tv) (k:Nat):((ws.take k).flatMap (au n)).length<=(ws.flatMap (au n)).length:=by
 have e:ws.flatMap (au n)=(ws.take k++ws.drop k).flatMap (au n):=by rw [List.take_append_drop]
 rw [e,List.flatMap_append,List.length_append]
 omega
theorem oz (n:Nat):∀(ws:List Tv),(∀c ∈ ws,1<=(au n c).length)->ws.length<=(ws.flatMap (au n)).length
 | [],_=>Nat.zero_le _
 | c::ws,h=>by
  have h1:=h c (by simp)
  have h2:=oz n ws (λ d hd=>h d (by simp [hd]))
  rw [List.flatMap_cons,List.length_append,List.length_cons]
  omega
theorem RT.one {w:World} {A:Nat->Nat} {D:Nat->Prop} {hi:Nat}:∀{n:Nat} {t:Tv},RT w A D hi n t->1<=(au n t).length
 | 0,_,h=>absurd h id
 | _+1,_,_=>by simp [au]
theorem rJ (w:World) (B:Nat) (x:Value) (hB:B<=w.heap.size):(w.alloc (.cells #[x] 159)).ownsRow B 159 1 (.slice (some ⟨w.heap.size,0,none⟩) 1 1) 1 [x] :=
 ⟨rfl,Or.inr ⟨w.heap.size,1,_,rfl,hB,heap_alloc_new w _,Nat.le_refl _,by unfold maxLen; decide,rfl,rfl⟩⟩
theorem XQ {A:Nat->Nat} {D:Nat->Prop} {hi N:Nat} (hN:N<=4000000):∀(n:Nat) (t:Tv) (w:World),RT w A D hi n t->(∀k,D k->k<w.heap.size)->(au n t).length<=N ->
 Calls Tryz.prog 122 #[.pointer (some ⟨A t.d.ai,0,none⟩)] w λ r w'=>∃sv,r=.returned sv/\mj w A (au n t) sv w':=by
 obtain ⟨i0,hi',hz0,hz1,dN⟩:=info_parts rI
 have HI:=aa hi'
 have ia:=aa hz0
 have gO:=aa hz1
 have ic:=aa dN
 clear hi' hz0 hz1 dN
 intro n
 induction n with
 | zero=>intro t w h; exact absurd h id
 | succ n ih =>
  intro t w h hD hl
  have HIH:=aa ih
  have HR:=aa h
  have HD:=aa hD
  have HL:=aa hl
  clear ih h hD hl
  go_enter Tryz.func122,Tryz.ntmps122
  have S:Hid (mj w A (t::(t.ws.take 0).flatMap (au n)) (.slice (some ⟨w.heap.size,0,none⟩) 1 1) (w.alloc (.cells #[.pointer (some ⟨A t.d.ai,0,none⟩)] 159))) :=
   ⟨(Fr.refl _ w).alloc _,rJ w w.heap.size (.pointer (some ⟨A t.d.ai,0,none⟩)) (Nat.le_refl _)⟩
  go_wp2
  go_loopw [3,4] (λ o i wr=>∃k:Nat,k<=t.ws.length/\i=.int .i64 k/\mj w A (t::(t.ws.take k).flatMap (au n)) o wr) (λ_ i _=>t.ws.length - (intOf i).toNat)
  case atStart=>exact ⟨0,Nat.zero_le _,rfl,S.out⟩
  case round =>
   clear S
   obtain ⟨k,hk,rfl,hS⟩:=hrel
   have S:=aa hS
   have NL:RT wr A D hi (n+1) t:=RT.keep (λ q hq=>hS.f.block q (HD.out q hq) id) _ _ HR.out
   obtain ⟨sv,hV⟩:=NL.vc
   have R2:=aa NL
   obtain ⟨l,hl⟩:∃l,l=t::(t.ws.take k).flatMap (au n):=⟨_,rfl⟩
   rw [<-hl] at S
   obtain ⟨o0,XR,hsv⟩:=ah hS.o
   obtain ⟨ol,hol⟩:∃ol,ol=l.length:=⟨_,rfl⟩
   rw [<-hl,<-hol] at hsv
   subst hsv
   have J7:=S.out.o
   rw [<-hol] at J7
   have HO:=aa J7
   clear J7
   obtain ⟨v0,y_,rfl⟩:=ah hV.o
   have c8:wr.cell? ⟨A t.d.ai,8,none⟩=some (.slice v0 t.ws.length y_):=hV.b.cell 8
   have hLL:=HL.out
   have hlen:t.ws.length<=4000000:=by
    have:=oz n t.ws (λ c hc=>(HR.out.kids hc).one)
    have e:(au (n+1) t).length=1+(t.ws.flatMap (au n)).length:=by simp only [au,List.length_cons]; omega
    omega
   have ab5:ol<=4000000:=by
    have:=yM n t.ws k
    have e:(au (n+1) t).length=1+(t.ws.flatMap (au n)).length:=by simp only [au,List.length_cons]; omega
    rw [hol,hl,List.length_cons]; omega
   by_cases hlt:k<t.ws.length
   ·have hki:(k:Int)<(t.ws.length:Int):=by omega
    obtain ⟨g,cap,hv,hcell⟩:=hV.at_ hlt
    simp only [Value.slice.injEq,true_and] at hv
    obtain ⟨rfl,rfl⟩:=hv
    have iZ:=R2.out.kids (List.getElem_mem hlt)
    have hsum:ol+(au n t.ws[k]).length<=N:=by
     have h1:=yM n t.ws (k+1)
     rw [uf n t.ws k hlt,List.length_append] at h1
     have e:(au (n+1) t).length=1+(t.ws.flatMap (au n)).length:=by simp only [au,List.length_cons]; omega
     rw [hol,hl,List.length_cons]; omega
    have hDr:∀q,D q->q<wr.heap.size:=λ q hq=>Nat.lt_of_lt_of_le (HD.out q hq) S.out.f.size
    have CA:=aa (HIH.out t.ws[k] wr iZ hDr (by omega))
    have XT:=aa (uf n t.ws k hlt)
    have hone:=iZ.one
    generalize t.ws[k]=c at *
    obtain ⟨lc,hlc⟩:∃lc,lc=au n c:=⟨_,rfl⟩
    rw [<-hlc] at CA hsum XT hone
    have HHL:=aa hl
    have HHO:=aa hol
    clear hS NL hV hl hol hlc iZ R2 hDr
    go_wp2_with fail
    refine (CA.out).mono ?_
    rintro r w2 ⟨iA,rfl,h2⟩
    obtain ⟨g2,cap2,lY,OE,ajT⟩:=h2.o.form (by omega)
    subst lY
    obtain ⟨m2,hm2⟩:∃m2,m2=lc.length:=⟨_,rfl⟩
    rw [<-hm2] at hsum hone
    have H2:=aa h2
    have kq:w2.ownsRow w.heap.size 159 1 (.slice o0 ol XR) ol (l.map (dM A)):=aW HO.out h2.f (λ_ _ x=>x)
    have O2:Hid (w2.ownsRow wr.heap.size 159 1 (.slice (some ⟨g2,0,none⟩) m2 cap2) m2 (lc.map (dM A))):=by rw [hm2]; exact h2.o
    have hB2:w.heap.size<=w2.heap.size:=Nat.le_trans S.out.f.size h2.f.size
    have YG:=aa hm2
    rw [<-hm2]
    clear h2 hm2
    go_wp2_with (at_builtin; refine wpList_append_own _ rfl _ _ 191 rfl w.heap.size 159 i0 _ 1 8 Tryz.underlying191 HI.out ia.out gO.out ic.out rfl (by decide) _ _ _ rfl kq ⟨g2,0,none⟩ m2 cap2 (lc.map (dM A)) rfl ?c0 ?c1 ?c2 ?c3 ?c4 hB2 ?_)
    case c0=>rw [List.length_map,YG.out]; omega
    case c1=>exact O2.out.cells (g:=g2) rfl
    case c2 =>
     intro u hu
     obtain ⟨c',_,rfl⟩:=List.mem_map.1 hu
     rfl
    case c3=>unfold maxLen; omega
    case c4=>omega
    intro v' w3 bI hgrow _
    have S3:Hid (mj w A (t::(t.ws.take (k+1)).flatMap (au n)) v' w3):=by
     have e1:t::(t.ws.take (k+1)).flatMap (au n)=l++lc:=by rw [XT.out,HHL.out]; rfl
     rw [e1]
     refine ⟨(S.out.f.trans H2.out.f).grown hgrow (λ q hq=>Or.inl (by have:=(kq.lt q hq).1; omega)),?_⟩
     rw [List.map_append,List.length_append,<-HHO.out,<-YG.out]
     exact bI
    obtain ⟨o3,c3,rfl⟩:=ah bI
    clear bI hgrow kq
    go_wp2
    go_roundw
    case rel=>exact ⟨k+1,by omega,by go_num,S3.out⟩
    case measure=>simp [intOf]; omega
   have hkl:k=t.ws.length:=by omega
   have hki:¬(k:Int)<(t.ws.length:Int):=by omega
   have eA:au (n+1) t=l:=by rw [hl,hkl,List.take_length]; rfl
   have EA:=aa eA
   have KE:=aa hol
   clear hS NL hV eA hl hol
   go_wp2
   go_ret
   exact ⟨_,rfl,by rw [EA.out]; exact S.out⟩
end Go.Proofs.YtcbadebjpogmlaaGreatDoor
