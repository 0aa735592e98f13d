import Derived.Test.YtcbadebjpogmlaaGreatDoorVsTxH
import Derived.Deep.CutRange
set_option maxHeartbeats 3000000
set_option maxRecDepth 100000
namespace Go.Proofs.YtcbadebjpogmlaaGreatDoor
open Go.RowKit Tr
theorem NC (s:List UInt8) (n dp:Nat) (pt:List UInt8) (i m:Nat):dn s n dp pt 4 i m=rd s n false (dp+1) [] (pt++[91]++dec m++[93]) 4 i []:=by unfold dn; rw [if_pos rfl]
theorem CK (s:List UInt8) (n dp:Nat) (pt:List UInt8) (i m:Nat):dn s n dp pt 5 i m=sF s n dp pt (sk s i):=by unfold dn sF; rw [if_neg (by decide)]
theorem vD {s:List UInt8} (n dp:Nat) (pt:List UInt8) (k i m:Nat) (h:i<=s.length):i<=(dn s n dp pt k i m).p/\(dn s n dp pt k i m).p<=s.length/\((dn s n dp pt k i m).e=0->i<(dn s n dp pt k i m).p):=by
 unfold dn
 split
 ·have:=k7 (s:=s) n false (dp+1) [] (pt++[91]++dec m++[93]) 4 i [] h
  exact ⟨this.ge,this.le,this.gt⟩
 have h1:=fV s i
 have h2:=ir h
 have h3:=lJ h2
 split
 ·rename_i he
  exact ⟨by simp; omega,h3.2.1,λ e=>absurd e he⟩
 rename_i he
 have h4:=h3.2.2 (by simpa using he)
 have h5:=fV s (aP s (sk s i)).p
 have h6:=ir h3.2.1
 split
 ·rename_i h7
  have:=gu h7 (by decide)
  have h8:=k7 (s:=s) n false (dp+1) (aP s (sk s i)).t (pt++[91]++iV (aP s (sk s i)).t++[93]) 5 (sk s (aP s (sk s i)).p+1) [] (by omega)
  exact ⟨by have:=h8.ge; omega,h8.le,λ_=>by have:=h8.ge; omega⟩
 exact ⟨by simp; omega,h6,λ h=>by cases h⟩
theorem J4 {s:List UInt8} (n dp:Nat) (pt:List UInt8) (k i m:Nat):(dn s (n+1) dp pt k i m).ws.length<=1:=by
 have h1:∀dp nm pt k i,(rd s (n+1) false dp nm pt k i []).ws.length<=1:=λ dp nm pt k i=>by
  rcases vA (s:=s) n dp nm pt k i [] with h | ⟨t,h,_⟩<;>rw [h]<;>simp
 unfold dn
 split
 ·exact h1 _ _ _ _ _
 split
 ·simp
 split
 ·exact h1 _ _ _ _ _
 simp
theorem CM {s:ByteArray} {n:Nat} (hV:∀m,m<n->AO s m) (hs:s.size<=2000000) {w:World} {rb bv:Nat} {d:dO} {j:Nat} {rt:Value} (A0:Nat->Nat) {dp:Nat}
 (hn:2 * (s.size - (j+1))+2<=n) (hj:j<s.size) (rR:dp<=8) (h1:1<=dp) (rO:d.path.length<=dp * 10000000) (hr:ay w rb (yG s j 0 rt) 161) (hb:ay w bv (rH d (.slice none 0 0)) 195) {K:Nat} (hK:K=4\/K=5) (hk:d.kind=K) (hne:bv≠rb) :
 Calls Tryz.prog 125 #[.pointer (some ⟨rb,0,none⟩),.pointer (some ⟨bv,0,none⟩),.int .u8 ((b8 K:Nat):Int),.int .i64 (dp:Nat)] w λ r w' =>
  r=.returned (.tuple #[])/\XH w rb bv d s rt A0 dp j (pH (bs s) n dp d.path K (j+1)) w':=by
 obtain ⟨R,hR⟩:∃R,R=pH (bs s) n dp d.path K (j+1):=⟨_,rfl⟩
 rw [<-hR]
 obtain ⟨m0,hm0⟩:∃m0,m0=sk (bs s) (j+1):=⟨_,rfl⟩
 have abQ:m0<=s.size:=by rw [hm0,<-an s]; exact ir (by rw [an]; omega)
 have abR:j+1<=m0:=by rw [hm0]; exact fV _ _
 have HM0:=aa hm0
 have nA:s.size<=4000000:=by omega
 have hrb:rb<w.heap.size:=hr.lt
 have PK:bv<w.heap.size:=hb.lt
 have F0:Hid (vC w rb bv d s rt A0 dp j j 0 [] (.slice none 0 0) A0 w):=⟨hr,⟨hb,World.ownsRow_nil _ _ _ _,PK⟩,Fr.refl _ _,λ_ _=>rfl,λ c hc=>by cases hc⟩
 have q1:w.cell? ⟨rb,1,none⟩=some (.int .i64 (j:Nat)):=hr.cell 1
 have qz:=hr.fz 1
 have Za:=(RR.jD (w:=w) ⟨hr,Fr.refl _ _⟩ (j+1))
 rw [show ((j+1:Nat):Int)=(j:Int)+1 by omega] at Za
 have F1:=aa (F0.out.step Za hne hrb (by omega))
 have R1:=aa Za.here
 have HV:=aa hV
 clear Za F0 hV hr hb
 by_cases hend:bt (bs s) m0=b8 K
 ·have Zb:R=⟨[],0,m0+1⟩:=by rw [hR]; unfold pH; rw [<-hm0,if_pos hend]
  subst Zb
  have x1:(decide (0=0) && decide (bt (bs s) m0=b8 K))=true:=by simp [hend]
  have X1:=aa x1
  have e1:dJ (bs s) m0 0 (b8 K)=m0+1:=by simp [dJ,hend]
  have e2:dK (bs s) m0 0 (b8 K)=0:=by simp [dK,hend]
  have E1:=aa e1
  have E2:=aa e2
  clear hR hm0 hend x1 e1 e2
  go_enter Tryz.func125,Tryz.ntmps125
  go_wp2_with fail
  refine (dL R1.out nA).mono ?_
  rintro r w2 ⟨rfl,jx,nB,h2⟩
  have ny:jx=m0:=by rw [<-nB.eq,HM0.out]
  subst ny
  have F2:=aa (F1.out.step h2 hne hrb nB.ge)
  have R2:=aa h2.here
  clear h2 nB
  go_wp2_with fail
  refine (kG R2.out (b8 K) _ rfl (hY K) _ X1.out).mono ?_
  rintro r w3 ⟨rfl,h3⟩
  have F3:=aa (F2.out.step h3 hne hrb (Nat.le_refl _))
  have R3:=aa h3.here
  clear h3
  go_wp2
  go_loopw [9] (λ_ wr=>wr=w3) (λ_ _=>0)
  case atStart=>rfl
  case round =>
   subst hrel
   go_wp2_with fail
   refine (jz R3.out nA (b8 K) _ rfl (hY K)).mono ?_
   rintro r w5 ⟨rfl,h5⟩
   rw [E1.out,E2.out] at h5
   have F5:=aa (F3.out.step h5 hne hrb (by omega))
   have c2:w5.cell? ⟨rb,2,none⟩=some (.int .i64 0):=h5.c2
   have c1:w5.cell? ⟨rb,1,none⟩=some (.int .i64 ((jx+1:Nat):Int)):=h5.c1
   clear h5
   have y6:w5.cell? ⟨bv,6,none⟩=some (.int .i64 (d.to:Nat)):=F5.out.b.k.cell 6
   have y7:w5.cell? ⟨bv,7,none⟩=some (.int .i64 d.cl):=F5.out.b.k.cell 7
   have z6:=F5.out.b.k.fz 6
   have z7:=F5.out.b.k.fz 7
   have P5:=aa (vC.good (R:=⟨[],0,jx+1⟩) F5.out rfl hne PK)
   simp only at P5
   rw [show ((jx+1:Nat):Int)=(jx:Int)+1 by omega] at P5 c1
   rw [show (jx:Int)+1 - 1=(jx:Int) by omega] at P5
   go_wp2
   go_end0
   exact ⟨rfl,P5.out⟩
 have Zb:rd (bs s) n true dp [] d.path K m0 []=R:=by rw [hR]; unfold pH; rw [<-hm0,if_neg hend]
 have HQ0:=aa Zb
 have x1:(decide (0=0) && decide (bt (bs s) m0=b8 K))=false:=by simp [hend]
 have X1:=aa x1
 clear hR hm0 hend x1 Zb
 go_enter Tryz.func125,Tryz.ntmps125
 go_wp2_with fail
 refine (dL R1.out nA).mono ?_
 rintro r w2 ⟨rfl,jx,nB,h2⟩
 have ny:jx=m0:=by rw [<-nB.eq,HM0.out]
 subst ny
 have F2:=aa (F1.out.step h2 hne hrb nB.ge)
 have R2:=aa h2.here
 clear h2 nB
 go_wp2_with fail
 refine (kG R2.out (b8 K) _ rfl (hY K) _ X1.out).mono ?_
 rintro r w3 ⟨rfl,h3⟩
 have F3:=aa (F2.out.step h3 hne hrb (Nat.le_refl _))
 clear h3
 go_wp2
 go_loopw [9] (λ_ wr=>∃(i m:Nat) (ws:List Tv) (fZ:Value) (A:Nat->Nat),vC w rb bv d s rt A0 dp j i 0 ws fZ A wr/\rd (bs s) m true dp [] d.path K i ws=R/\2 * (s.size - i)+2<=m/\m<=n/\ws.length<=i/\i<=s.size/\j+1<=i) (λ_ wr=>s.size+1 - rP rb wr)
 case atStart=>exact ⟨jx,n,[],_,A0,F3.out,HQ0.out,by omega,Nat.le_refl _,Nat.zero_le _,abQ,abR⟩
 case round =>
  clear F3 R2 F2 F1 R1 HQ0 X1 q1 qz
  obtain ⟨i,m1,ws,fZ,A,hF,hQ,hen,hmn,hlw,hil,hji⟩:=hrel
  obtain ⟨m,rfl⟩:∃m,m1=m+1:=⟨m1 - 1,by omega⟩
  have F:=aa hF
  have HQ:=aa hQ
  have HPi:=aa (RR.rP (w:=wr) ⟨hF.r,Fr.refl _ _⟩)
  obtain ⟨Rm,NF⟩:∃Rm,Rm=dn (bs s) m dp d.path K i ws.length:=⟨_,rfl⟩
  have hRl:Rm.p<=s.size:=by rw [NF,<-an s]; exact (vD m dp d.path K i ws.length (by rw [an]; exact hil)).2.1
  have hRg:i<=Rm.p:=by rw [NF]; exact (vD m dp d.path K i ws.length (by rw [an]; exact hil)).1
  have hRt:Rm.e=0->i<Rm.p:=by rw [NF]; exact (vD m dp d.path K i ws.length (by rw [an]; exact hil)).2.2
  have hR1:Rm.ws.length<=1:=by
   obtain ⟨m',rfl⟩:∃m',m=m'+1:=⟨m - 1,by omega⟩
   rw [NF]; exact J4 m' dp d.path K i ws.length
  have HL1:=aa (show Rm.e=0->ws.length+Rm.ws.length<=Rm.p from λ e=>by have:=hRt e; omega)
  have Um:=aa NF
  have c2:wr.cell? ⟨rb,2,none⟩=some (.int .i64 0):=hF.r.cell 2
  have ck:wr.cell? ⟨bv,0,none⟩=some (.int .i64 (K:Nat)):=by
   have:=hF.b.k.cell 0
   simp only [rH] at this
   rw [hk] at this
   exact this
  have hxl:(ws.map (dM A)).length<=s.size:=by rw [List.length_map]; omega
  have hrow:fZ.ownBlock≠some rb:=λ e=>by have:=(hF.b.row.lt rb e).1; omega
  clear hF hQ
  obtain ⟨ib,hib⟩:∃ib,ib=sk (bs s) i:=⟨_,rfl⟩
  have XI:ib<=s.size:=by rw [hib,<-an s]; exact ir (by rw [an]; exact hil)
  have ajz:i<=ib:=by rw [hib]; exact fV _ _
  have HIB:=aa hib
  have Zc:Hid (K=4->Calls Tryz.prog 169 #[.pointer (some ⟨rb,0,none⟩),.pointer (some ⟨bv,0,none⟩),.int .i64 ((dp:Int)+1)] wr λ r w'=>r=.returned (.tuple #[])/\vP wr rb bv w.heap.size d fZ (ws.map (dM A)) s i rt A dp Rm w'):=λ hK4=>by
   have h:=Ew (HV.out m (by omega)) hs A (by omega) hil rR rO hxl F.out.r F.out.b (hk.trans hK4) hne hrow F.out.f.size h1
   rw [List.length_map] at h
   rw [NF,hK4,NC]
   exact h
  have Zd:Hid (K=5->∀W,vC w rb bv d s rt A0 dp j ib 0 ws fZ A W->Calls Tryz.prog 170 #[.pointer (some ⟨rb,0,none⟩),.pointer (some ⟨bv,0,none⟩),.int .i64 ((dp:Int)+1)] W λ r w'=>r=.returned (.tuple #[])/\vP W rb bv w.heap.size d fZ (ws.map (dM A)) s ib rt A dp Rm w'):=λ Ze W hW=>by
   have h:=Ex (HV.out m (by omega)) hs A (p:=ib) (by omega) XI rR rO hxl hW.r hW.b (hk.trans Ze) hne hrow hW.f.size
   rw [NF,Ze,CK,<-hib]
   exact h
  have NH:Hid (K=5->ib<=Rm.p):=λ Ze=>by
   rw [NF,Ze,CK,<-hib]
   have h3:=lJ (s:=bs s) (i:=ib) (by rw [an]; exact XI)
   unfold sF
   split
   ·exact h3.1
   have h5:=fV (bs s) (aP (bs s) ib).p
   have h6:=ir h3.2.1
   split
   ·rename_i h7
    have h9:=gu h7 (by decide)
    have h8:=k7 (s:=bs s) m false (dp+1) (aP (bs s) ib).t (d.path++[91]++iV (aP (bs s) ib).t++[93]) 5 (sk (bs s) (aP (bs s) ib).p+1) [] (by omega)
    have:=h8.ge
    omega
   simp; omega
  clear NF hib
  go_upto_if 35 with fail
  go_cut [] from 36 to 47 (λ wd=>∃(iA:Value) (A2:Nat->Nat),vC w rb bv d s rt A0 dp j Rm.p Rm.e (ws++Rm.ws) iA A2 wd)
  case first =>
   rcases hK with rfl | rfl
   ·have ve:=Zc.out rfl
    have VE:=aa ve
    clear Zc Zd NH ve Um HQ HL1
    go_wp2_with fail
    refine (VE.out).mono ?_
    rintro r w2 ⟨rfl,h2⟩
    obtain ⟨iA,A2,Tf⟩:=F.out.item h2 hrb PK hji hRg
    clear h2
    go_wp2
    go_meet
    exact ⟨iA,A2,Tf⟩
   have ve:=Zd.out rfl
   have VE:=aa ve
   have hRb:=NH.out rfl
   clear Zc Zd NH ve Um HQ HL1
   go_wp2_with fail
   refine (dL (w0:=wr) ⟨F.out.r,Fr.refl _ _⟩ nA).mono ?_
   rintro r w1 ⟨rfl,jy,hjy,hq1⟩
   have abV:jy=ib:=by rw [<-hjy.eq,HIB.out]
   subst abV
   have F1:=aa (F.out.step hq1 hne hrb hjy.ge)
   clear hq1 hjy
   go_wp2_with fail
   refine (VE.out _ F1.out).mono ?_
   rintro r w2 ⟨rfl,h2⟩
   obtain ⟨iA,A2,Tf⟩:=F1.out.item h2 hrb PK (by omega) hRb
   clear h2
   go_wp2
   go_meet
   exact ⟨iA,A2,Tf⟩
  case rest =>
  clear Zc Zd NH ck
  obtain ⟨iA,A2,Tf⟩:=hcut
  have F2:=aa Tf
  have Zf:Hid (RR rb s wc Rm.p Rm.e rt wc):=⟨Tf.r,Fr.refl _ _⟩
  clear Tf
  by_cases hme:Rm.e=0
  ·obtain ⟨j2,hj2⟩:∃j2,j2=sk (bs s) Rm.p:=⟨_,rfl⟩
   have ajC:j2<=s.size:=by rw [hj2,<-an s]; exact ir (by rw [an]; exact hRl)
   have ajD:Rm.p<=j2:=by rw [hj2]; exact fV _ _
   have HJ2:=aa hj2
   have sr:=aa hme
   by_cases lW:bt (bs s) j2=44
   ·have ajE:j2<s.size:=SY lW (by decide)
    have hrd:rd (bs s) m true dp [] d.path K (j2+1) (ws++Rm.ws)=R:=by
     rw [<-HQ.out,nh,<-Um.out,if_neg (by simpa using hme),<-hj2,if_pos lW]
    have HRD:=aa hrd
    have Un:(decide (0=0) && decide (bt (bs s) j2=44))=true:=by simp [lW]
    have Zg:=aa Un
    clear hrd Un lW hj2 hme
    go_wp2_with fail
    refine (dL (by have:=Zf.out; rw [sr.out] at this; exact this) nA).mono ?_
    rintro r w3 ⟨rfl,jx,nB,h3⟩
    have ny:jx=j2:=by rw [<-nB.eq,HJ2.out]
    subst ny
    have F3:=aa (F2.out.step h3 hne hrb nB.ge)
    have R3:=aa h3.here
    clear h3 nB
    go_wp2_with fail
    refine (kG R3.out 44 _ rfl (by decide) _ Zg.out).mono ?_
    rintro r w4 ⟨rfl,h4⟩
    have F4:=aa (F3.out.step h4 hne hrb (Nat.le_refl _))
    have c1:=h4.c1
    have kz:=h4.k.fz 1
    have h5:=h4.here.jD (jx+1)
    rw [show ((jx+1:Nat):Int)=(jx:Int)+1 by omega] at h5
    have F5:Hid (vC w rb bv d s rt A0 dp j (jx+1) 0 (ws++Rm.ws) iA A2 (w4.setCell ⟨rb,1,none⟩ (.int .i64 ((jx:Int)+1)))):=F4.out.step h5 hne hrb (by omega)
    have HP5:=aa (h4.jD (jx+1)).rP
    rw [show ((jx+1:Nat):Int)=(jx:Int)+1 by omega] at HP5
    clear h4 h5
    go_wp2
    go_roundw
    case rel=>exact ⟨jx+1,m,ws++Rm.ws,iA,A2,F5.out,HRD.out,by omega,by omega,by have:=HL1.out sr.out; simp; omega,by omega,by omega⟩
    case measure=>rw [HPi.out,HP5.out]; omega
   have Un:(decide (0=0) && decide (bt (bs s) j2=44))=false:=by simp [lW]
   have Zg:=aa Un
   by_cases hend:bt (bs s) j2=b8 K
   ·have hR:R=⟨ws++Rm.ws,0,j2+1⟩:=by
     rw [<-HQ.out,nh,<-Um.out,if_neg (by simpa using hme),<-hj2,if_neg lW,if_pos hend]
    subst hR
    have e1:dJ (bs s) j2 0 (b8 K)=j2+1:=by simp [dJ,hend]
    have e2:dK (bs s) j2 0 (b8 K)=0:=by simp [dK,hend]
    have E1:=aa e1
    have E2:=aa e2
    clear Un lW hj2 hme hend e1 e2
    go_wp2_with fail
    refine (dL (by have:=Zf.out; rw [sr.out] at this; exact this) nA).mono ?_
    rintro r w3 ⟨rfl,jx,nB,h3⟩
    have ny:jx=j2:=by rw [<-nB.eq,HJ2.out]
    subst ny
    have F3:=aa (F2.out.step h3 hne hrb nB.ge)
    have R3:=aa h3.here
    clear h3 nB
    go_wp2_with fail
    refine (kG R3.out 44 _ rfl (by decide) _ Zg.out).mono ?_
    rintro r w4 ⟨rfl,h4⟩
    have F4:=aa (F3.out.step h4 hne hrb (Nat.le_refl _))
    have R4:=aa h4.here
    clear h4
    go_wp2_with fail
    refine (jz R4.out nA (b8 K) _ rfl (hY K)).mono ?_
    rintro r w5 ⟨rfl,h5⟩
    rw [E1.out,E2.out] at h5
    have F5:=aa (F4.out.step h5 hne hrb (by omega))
    have c2:w5.cell? ⟨rb,2,none⟩=some (.int .i64 0):=h5.c2
    have c1:w5.cell? ⟨rb,1,none⟩=some (.int .i64 ((jx+1:Nat):Int)):=h5.c1
    clear h5
    have y6:w5.cell? ⟨bv,6,none⟩=some (.int .i64 (d.to:Nat)):=F5.out.b.k.cell 6
    have y7:w5.cell? ⟨bv,7,none⟩=some (.int .i64 d.cl):=F5.out.b.k.cell 7
    have z6:=F5.out.b.k.fz 6
    have z7:=F5.out.b.k.fz 7
    have P5:=aa (vC.good (R:=⟨ws++Rm.ws,0,jx+1⟩) F5.out rfl hne PK)
    simp only at P5
    rw [show ((jx+1:Nat):Int)=(jx:Int)+1 by omega] at P5 c1
    rw [show (jx:Int)+1 - 1=(jx:Int) by omega] at P5
    go_wp2
    go_end0
    exact ⟨rfl,P5.out⟩
   have hR:R=⟨ws++Rm.ws,2,j2⟩:=by
    rw [<-HQ.out,nh,<-Um.out,if_neg (by simpa using hme),<-hj2,if_neg lW,if_neg hend]
   subst hR
   have e1:dJ (bs s) j2 0 (b8 K)=j2:=by simp [dJ,hend]
   have e2:dK (bs s) j2 0 (b8 K)=2:=by simp [dK,hend]
   have E1:=aa e1
   have E2:=aa e2
   clear Un lW hj2 hme hend e1 e2
   go_wp2_with fail
   refine (dL (by have:=Zf.out; rw [sr.out] at this; exact this) nA).mono ?_
   rintro r w3 ⟨rfl,jx,nB,h3⟩
   have ny:jx=j2:=by rw [<-nB.eq,HJ2.out]
   subst ny
   have F3:=aa (F2.out.step h3 hne hrb nB.ge)
   have R3:=aa h3.here
   clear h3 nB
   go_wp2_with fail
   refine (kG R3.out 44 _ rfl (by decide) _ Zg.out).mono ?_
   rintro r w4 ⟨rfl,h4⟩
   have F4:=aa (F3.out.step h4 hne hrb (Nat.le_refl _))
   have R4:=aa h4.here
   clear h4
   go_wp2_with fail
   refine (jz R4.out nA (b8 K) _ rfl (hY K)).mono ?_
   rintro r w5 ⟨rfl,h5⟩
   rw [E1.out,E2.out] at h5
   have F5:=aa (F4.out.step h5 hne hrb (Nat.le_refl _))
   have c2:w5.cell? ⟨rb,2,none⟩=some (.int .i64 2):=h5.c2
   clear h5
   have P5:=aa (vC.bad (R:=⟨ws++Rm.ws,2,jx⟩) F5.out (by simp))
   go_wp2
   go_end0
   exact ⟨rfl,P5.out⟩
  have hR:R=⟨ws++Rm.ws,Rm.e,Rm.p⟩:=by
   rw [<-HQ.out,nh,<-Um.out,if_pos (by simpa using hme)]
  subst hR
  have e1:dJ (bs s) Rm.p Rm.e (b8 K)=Rm.p:=by simp [dJ,hme]
  have e2:dK (bs s) Rm.p Rm.e (b8 K)=Rm.e:=by simp [dK,hme]
  have E1:=aa e1
  have E2:=aa e2
  have Lc:((Rm.e:Int) == 0)=false:=pG hme
  have sr:=aa hme
  clear e1 e2 hme
  go_wp2_with fail
  refine (ow Zf.out sr.out).mono ?_
  rintro r w3 ⟨rfl,h3⟩
  have F3:=aa (F2.out.step h3 hne hrb (Nat.le_refl _))
  have R3:=aa h3.here
  clear h3
  go_wp2_with fail
  refine (kG R3.out 44 _ rfl (by decide) false (by simp [sr.out])).mono ?_
  rintro r w4 ⟨rfl,h4⟩
  have F4:=aa (F3.out.step h4 hne hrb (Nat.le_refl _))
  have R4:=aa h4.here
  clear h4
  go_wp2_with fail
  refine (jz R4.out nA (b8 K) _ rfl (hY K)).mono ?_
  rintro r w5 ⟨rfl,h5⟩
  rw [E1.out,E2.out] at h5
  have F5:=aa (F4.out.step h5 hne hrb (Nat.le_refl _))
  have c2:w5.cell? ⟨rb,2,none⟩=some (.int .i64 (Rm.e:Nat)):=h5.c2
  clear h5
  have P5:=aa (vC.bad (R:=⟨ws++Rm.ws,Rm.e,Rm.p⟩) F5.out sr.out)
  go_wp2
  go_end0
  exact ⟨rfl,P5.out⟩
structure VS (w:World) (rb bv:Nat) (ip:Option Addr) (cG B0:Nat) (di:dO) (iR eD:Value) (xs:List Value) (s:ByteArray) (p e:Nat) (rt:Value) (d:dO) (w':World):Prop where
 r:ay w' rb (yG s p e rt) 161
 v:ay w' bv (rH d (.slice none 0 0)) 195
 h:Td ip cG B0 di eD xs w'
 f:Fr (λ k=>k=rb\/k=bv\/HK ip iR k) w w'
 nr:¬HK ip eD rb
 nv:¬HK ip eD bv
theorem Td.keep {ip:Option Addr} {cG B0:Nat} {di:dO} {eD:Value} {xs:List Value} {w w':World} (h:Td ip cG B0 di eD xs w) (hk:∀k,HK ip eD k->k<w.heap.size->w'.heap[k]?=w.heap[k]?):Td ip cG B0 di eD xs w':=by
 rcases h with x | ⟨bi,e,hI,h1,h2⟩
 ·exact Or.inl x
 exact Or.inr ⟨bi,e,⟨(hk bi ⟨bi,e,Or.inl rfl⟩ hI.k.lt).trans hI.k,bO hI.row (λ k hk2=>hk k ⟨bi,e,Or.inr hk2⟩ (hI.row.lt k hk2).2),hI.lt⟩,h1,h2⟩
theorem VS.rr {w:World} {rb bv:Nat} {ip:Option Addr} {cG B0:Nat} {di:dO} {iR eD:Value} {xs:List Value} {s:ByteArray} {p e:Nat} {rt:Value} {d:dO} {w':World} (h:VS w rb bv ip cG B0 di iR eD xs s p e rt d w'):RR rb s w' p e rt w':=⟨h.r,Fr.refl _ _⟩
theorem VS.step {w:World} {rb bv:Nat} {ip:Option Addr} {cG B0:Nat} {di:dO} {iR eD:Value} {xs:List Value} {s:ByteArray} {p e p' e':Nat} {rt:Value} {d:dO} {w' w'':World} (h:VS w rb bv ip cG B0 di iR eD xs s p e rt d w') (k:RR rb s w' p' e' rt w'') (hne:bv≠rb):VS w rb bv ip cG B0 di iR eD xs s p' e' rt d w'' :=
 ⟨k.k,h.v.fr k.f hne,h.h.keep (λ q hq hl=>k.f.block q hl (λ x=>h.nr (by unfold PB at x; rw [<-x]; exact hq))),h.f.trans (k.f.mono (λ_ _ x=>Or.inl x)),h.nr,h.nv⟩
theorem VS.rv {w:World} {rb bv:Nat} {ip:Option Addr} {cG B0:Nat} {di:dO} {iR eD:Value} {xs:List Value} {s:ByteArray} {p e p' e':Nat} {rt:Value} {d d':dO} {w' w'':World} (h:VS w rb bv ip cG B0 di iR eD xs s p e rt d w') (k:RV rb bv s w' p' e' rt d' (.slice none 0 0) w''):VS w rb bv ip cG B0 di iR eD xs s p' e' rt d' w'' :=
 ⟨k.r,k.v,h.h.keep (λ q hq hl=>k.f.block q hl (by
  rintro (x | x)
  ·exact h.nr (x▸hq)
  exact h.nv (x▸hq))),h.f.trans (k.f.mono (λ_ _ x=>x.elim Or.inl (λ y=>Or.inr (Or.inl y)))),h.nr,h.nv⟩
theorem VS.J5 {w:World} {rb bv:Nat} {ip:Option Addr} {cG B0:Nat} {di:dO} {iR eD:Value} {xs:List Value} {s:ByteArray} {p e:Nat} {rt:Value} {d:dO} {w':World} (h:VS w rb bv ip cG B0 di iR eD xs s p e rt d w'):RV rb bv s w' p e rt d (.slice none 0 0) w':=⟨h.r,h.v,Fr.refl _ _⟩
theorem VS.iY {w:World} {rb bv:Nat} {ip:Option Addr} {cG B0:Nat} {di:dO} {iR eD:Value} {xs:List Value} {s:ByteArray} {p e:Nat} {rt:Value} {d d':dO} {w':World} (h:VS w rb bv ip cG B0 di iR eD xs s p e rt d w') (hne:bv≠rb) (i:Nat) (x:Value) (hx:(rH d (.slice none 0 0)).setIfInBounds i x=rH d' (.slice none 0 0)):VS w rb bv ip cG B0 di iR eD xs s p e rt d' (w'.setCell ⟨bv,i,none⟩ x) :=
 h.rv (h.J5.iY hne i x hx)
theorem VS.drewN {w:World} {rb bv:Nat} {ip:Option Addr} {cG B0:Nat} {di:dO} {iR eD:Value} {xs:List Value} {s:ByteArray} {p e:Nat} {rt:Value} {d:dO} {w':World} (h:VS w rb bv ip cG B0 di iR eD xs s p e rt d w') (hne:bv≠rb) (n:Nat):VS w rb bv ip cG B0 di iR eD xs s p e rt d (w'.drewN n):=h.step (h.rr.drewN n) hne
theorem vE {w:World} {rb bv:Nat} {ip:Option Addr} {cG B0:Nat} {di:dO} {iR:Value} {xs:List Value} {s:ByteArray} {p:Nat} {rt:Value} {d:dO} {w1:World} (h:VS w rb bv ip cG B0 di iR iR xs s p 0 rt d w1) (hne:bv≠rb) (hB:B0<=w1.heap.size) (hx:xs.length<=4000000) :
 Calls Tryz.prog 124 #[.pointer (some ⟨rb,0,none⟩),.pointer ip,.pointer (some ⟨bv,0,none⟩)] w1 λ r w'=>r=.returned (.tuple #[]) /\
  ∃eD rt',VS w rb bv ip cG B0 di iR eD (xs++[.pointer (some ⟨bv,0,none⟩)]) s p 0 rt' d w'/\(ip≠none->rt'=rt/\ni iR eD w1 w')/\(ip=none->rt'=.pointer (some ⟨bv,0,none⟩)):=by
 have hrl:=h.r.lt
 have hvl:=h.v.lt
 rcases h.h with ⟨rfl,rfl⟩ | ⟨bi,rfl,hI,h1,h2⟩
 ·refine (yK h.J5 hne).mono ?_
  rintro r w' ⟨rfl,k⟩
  refine ⟨rfl,iR,_,⟨k.r,k.v,Or.inl ⟨rfl,rfl⟩,h.f.trans (k.f.mono (λ_ _ x=>x.elim Or.inl (λ y=>Or.inr (Or.inl y)))),?_,?_⟩,λ x=>absurd rfl x,λ_=>rfl⟩
  ·rintro ⟨bi,e,_⟩; cases e
  rintro ⟨bi,e,_⟩; cases e
 refine (AN (rb:=rb) (bv:=bv) hI hB hx).mono ?_
 rintro r w' ⟨rfl,eD,hI2,f2,hM⟩
 have hK:∀k,(k=bi\/iR.ownBlock=some k)->HK (some ⟨bi,0,none⟩) iR k:=λ k hk=>⟨bi,rfl,hk⟩
 have nr:¬(rb=bi\/iR.ownBlock=some rb):=λ x=>h.nr (hK _ x)
 have nv:¬(bv=bi\/iR.ownBlock=some bv):=λ x=>h.nv (hK _ x)
 have hnew:∀q,q<w1.heap.size->q≠bi->iR.ownBlock≠some q->¬HK (some ⟨bi,0,none⟩) eD q:=by
  rintro q hq hqb hqs ⟨bj,e,x | x⟩
  ·injection e with e; injection e with e _ _; omega
  rcases hM with y | ⟨g,y1,y2,_⟩
  ·exact hqs (y▸x)
  rw [y1] at x; injection x with x; omega
 refine ⟨rfl,eD,rt,⟨h.r.fr f2 nr,h.v.fr f2 nv,Or.inr ⟨bi,rfl,hI2,h1,h2⟩,h.f.trans (f2.mono (λ k _ x=>Or.inr (Or.inr (hK k x)))),?_,?_⟩,λ_=>⟨rfl,hM⟩,λ x=>by cases x⟩
 ·exact hnew rb hrl (λ x=>nr (Or.inl x)) (λ x=>nr (Or.inr x))
 exact hnew bv hvl (λ x=>nv (Or.inl x)) (λ x=>nv (Or.inr x))
theorem VS.vF {w:World} {rb bv:Nat} {ip:Option Addr} {cG B0:Nat} {di:dO} {iR:Value} {xs:List Value} {s:ByteArray} {p0 p e:Nat} {rt:Value} {d:dO} {w':World} {A:Nat->Nat} {dp:Nat} (h:VS w rb bv ip cG B0 di iR iR xs s p e rt d w'):J1 w rb bv ip cG B0 di iR xs s p0 rt A dp ⟨[],e,p⟩ w' :=
 ⟨⟨rt,h.r,λ_=>rfl,λ x=>absurd rfl x,λ_=>rfl⟩,h.f,iR,by simpa using h.h,λ_=>Or.inl rfl,λ t ht=>by cases ht⟩
theorem VS.leaf {w:World} {rb bv:Nat} {ip:Option Addr} {cG B0:Nat} {di:dO} {iR eD:Value} {xs:List Value} {s:ByteArray} {p0 p:Nat} {rt rt':Value} {d:dO} {w':World} {A:Nat->Nat} {dp:Nat} (h:VS w rb bv ip cG B0 di iR eD (xs++[.pointer (some ⟨bv,0,none⟩)]) s p 0 rt' d w')
 (hM:ip≠none->rt'=rt/\ni iR eD w w') (hN:ip=none->rt'=.pointer (some ⟨bv,0,none⟩)) (rR:dp<=9) (hj:p0<=d.ai) (hp:d.ai<p):J1 w rb bv ip cG B0 di iR xs s p0 rt A dp ⟨[⟨d,[]⟩],0,p⟩ w':=by
 refine ⟨⟨rt',h.r,λ x=>(hM x).1,λ_ x=>hN x,(λ x=>by cases x)⟩,h.f,eD,h.h,λ x=>(hM x).2,λ t ht=>?_⟩
 have e:t=⟨d,[]⟩:=by simpa using ht.symm
 subst e
 refine ⟨λ f=>if f=d.ai then bv else A f,λ f hf=>if_neg (by omega),if_pos rfl,?_⟩
 obtain ⟨q,hq⟩:∃q,10 - dp=q+1:=⟨9 - dp,by omega⟩
 rw [hq]
 refine ⟨hp,Or.inl (if_pos rfl),⟨.slice none 0 0,?_,(λ k hk=>by cases hk),World.ownsRow_nil _ _ _ _⟩,(λ c hc=>by cases hc)⟩
 show ay w' (if d.ai=d.ai then bv else A d.ai) _ _
 rw [if_pos rfl]
 exact h.v
theorem VS.held {w w1:World} {rb bv:Nat} {ip:Option Addr} {cG B0:Nat} {di:dO} {iR eD:Value} {xs:List Value} {s:ByteArray} {p0 j:Nat} {rt rt':Value} {d:dO} {w':World} {A:Nat->Nat} {dp:Nat} {R:Rs} (h:VS w rb bv ip cG B0 di iR eD (xs++[.pointer (some ⟨bv,0,none⟩)]) s j 0 rt' d w1)
 (hM:ip≠none->rt'=rt/\ni iR eD w w1) (hN:ip=none->rt'=.pointer (some ⟨bv,0,none⟩)) (rR:dp<=8) (hj:p0<=j) (hfr:d.ai=j) (hp:j<R.p) (hsv:ip≠none->∀k,iR.ownBlock=some k->k<w.heap.size) (k:XH w1 rb bv d s rt' (λ f=>if f=j then bv else A f) dp j R w') :
 J1 w rb bv ip cG B0 di iR xs s p0 rt A dp ⟨[⟨kD d R,R.ws⟩],R.e,R.p⟩ w':=by
 have hkeep:Td ip cG B0 di eD (xs++[.pointer (some ⟨bv,0,none⟩)]) w':=h.h.keep (λ q hq hl=>k.f.block q hl (by
  rintro (x | x)
  ·exact h.nr (x▸hq)
  exact h.nv (x▸hq)))
 have hsz:w.heap.size<=w1.heap.size:=h.f.size
 have rW:ip≠none->ni iR eD w w':=λ x=>by
  rcases (hM x).2 with y | ⟨g,y1,y2,y3⟩
  ·exact Or.inl y
  exact Or.inr ⟨g,y1,y2,Nat.lt_of_lt_of_le y3 k.f.size⟩
 have hrow:ip≠none->∀q,eD.ownBlock=some q->q<w1.heap.size:=λ x q hq=>by
  rcases (hM x).2 with y | ⟨g,y1,y2,y3⟩
  ·have:=hsv x q (y▸hq); omega
  rw [y1] at hq; injection hq with hq; omega
 refine ⟨⟨rt',k.r,λ x=>(hM x).1,λ_ x=>hN x,(λ x=>by cases x)⟩,h.f.trans (k.f.mono (λ_ _ x=>x.elim Or.inl (λ y=>Or.inr (Or.inl y)))),eD,hkeep,rW,λ t ht=>?_⟩
 have e:t=⟨kD d R,R.ws⟩:=by simpa using ht.symm
 subst e
 obtain ⟨fZ,A1,hA,hb,hl,ho,hT⟩:=k.h
 have Zj:(kD d R).ai=j:=hfr
 obtain ⟨q,hq⟩:∃q,10 - dp=q+1:=⟨9 - dp,by omega⟩
 have hq9:9 - dp=q:=by omega
 rw [hq9] at hT
 have hAj:A1 j=bv:=(hA j (by omega)).trans (if_pos rfl)
 have hD:∀x,w1.heap.size<=x/\x<w'.heap.size->x=bv\/(w.heap.size<=x/\x<w'.heap.size/\(ip≠none->eD.ownBlock≠some x)):=λ x hx=>Or.inr ⟨by omega,hx.2,λ hi e=>by have:=hrow hi x e; omega⟩
 refine ⟨A1,λ f hf=>(hA f (by omega)).trans (if_neg (by omega)),by show A1 (kD d R).ai=bv; rw [Zj]; exact hAj,?_⟩
 rw [hq]
 refine ⟨by show (kD d R).ai<R.p; rw [Zj]; exact hp,by show A1 (kD d R).ai=bv\/_; rw [Zj]; exact Or.inl hAj,⟨fZ,?_,λ x hx=>hD x (hl x hx),ho⟩,λ c hc=>RT.mono hD (Nat.le_refl _) _ _ (hT c hc)⟩
 show ay w' (A1 (kD d R).ai) _ _
 rw [Zj,hAj]
 exact hb
theorem Ey (cG:Nat):fH cG 256=false:=by unfold fH; simp
theorem XJ {w:World} {rb bv:Nat} {ip:Option Addr} {cG B0:Nat} {di:dO} {iR eD:Value} {xs:List Value} {s:ByteArray} {p:Nat} {rt:Value} {d:dO} {w1:World} (h:VS w rb bv ip cG B0 di iR eD xs s p 0 rt d w1) (hne:bv≠rb) :
 Calls Tryz.prog 129 #[.pointer (some ⟨rb,0,none⟩),.pointer ip,.pointer (some ⟨bv,0,none⟩)] w1 λ r w'=>r=.returned (.tuple #[])/\VS w rb bv ip cG B0 di iR eD xs s p 0 rt { d with cl:=if fH cG (bt (bs s) p)=true then (p:Int) else d.cl } w'/\w1.heap.size<=w'.heap.size:=by
 by_cases hp:p<s.size
 ·have hk:(ip=none/\cG=0)\/∃bi,ip=some ⟨bi,0,none⟩/\w1.cell? ⟨bi,0,none⟩=some (.int .i64 (cG:Nat))/\(cG=4\/cG=5):=by
   rcases h.h with h0 | ⟨bi,rfl,hI,h1,h2⟩
   ·exact Or.inl h0
   have hk:w1.cell? ⟨bi,0,none⟩=some (.int .i64 (di.kind:Nat)):=hI.k.cell 0
   rw [h1] at hk
   exact Or.inr ⟨bi,rfl,hk,h2⟩
  refine (Eu h.J5 hne hp hk).mono ?_
  rintro r w' ⟨rfl,k⟩
  exact ⟨rfl,h.rv k,k.f.size⟩
 have e:bt (bs s) p=256:=gK hp
 have e2:({ d with cl:=if fH cG (bt (bs s) p)=true then (p:Int) else d.cl }:dO)=d:=by rw [e,Ey]; rfl
 rw [e2]
 refine (sE h.J5 (by omega) ip).mono ?_
 rintro r w' ⟨rfl,k⟩
 exact ⟨rfl,h.rv k,k.f.size⟩
theorem XK {rb bv:Nat} {s:ByteArray} {w:World} {p:Nat} {rt:Value} {d:dO} (h:RV rb bv s w p 0 rt d (.slice none 0 0) w) (hne:bv≠rb) (hs:s.size<=4000000) (hp:p<=s.size) :
 Calls Tryz.prog 128 #[.pointer (some ⟨rb,0,none⟩),.pointer (some ⟨bv,0,none⟩)] w λ r w'=>r=.returned (.tuple #[]) /\
  ((uR (bs s) p=true/\RV rb bv s w (lT (bs s) p) 0 rt ⟨1,pF (bs s) p,d.s,d.name,d.path,d.ai,lT (bs s) p,d.cl⟩ (.slice none 0 0) w')\/(uR (bs s) p=false/\RV rb bv s w (cW (bs s) p) 2 rt d (.slice none 0 0) w')) :=
 JZ h hne hs hp
end Go.Proofs.YtcbadebjpogmlaaGreatDoor
