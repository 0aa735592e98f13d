import Derived.Test.YtcbadebjpogmlaaGreatDoorVvTxC
import Derived.Deep.CutRange
set_option maxHeartbeats 3000000
set_option maxRecDepth 100000
namespace Go.Proofs.YtcbadebjpogmlaaGreatDoor
open Go.RowKit Tr Go.Proofs.Tryz
theorem RI(s:List UInt8)(n a:Nat)(b:List UInt8)(i m:Nat):df s n a b 4 i m=rd s n false (a+1) [] (b++[91]++dec m++[93]) 4 i []:=by unfold df;rw[ae rfl]
theorem EI(s:List UInt8)(n a:Nat)(b:List UInt8)(i m:Nat):df s n a b 5 i m=tL s n a b (sk s i):=by unfold df tL;rw[aa de]
variable{a:List UInt8}
theorem wN(n b:Nat)(c:List UInt8)(k i m:Nat)(h:i<=a.length):i<=(df a n b c k i m).p/\(df a n b c k i m).p<=a.length/\((df a n b c k i m).e=0->i<(df a n b c k i m).p):=by
 unfold df;split;.have:=jM (s:=a) n false (b+1) [] (c++[91]++dec m++[93]) 4 i [] h;exact⟨this.ge,this.le,this.gt⟩
 have l:=e_ a i;have f:=gB h;have e:=j_ f;split;.grind
 rename_i j;have o:=e.2.2 (by simpa using j);have p:=e_ a (aM a (sk a i)).p;have q:=gB e.2.1;split;.rename_i g;have:=ik g de;have d:=jM (s:=a) n false (b+1) (aM a (sk a i)).t (c++[91]++h_ (aM a (sk a i)).t++[93]) 5 (sk a (aM a (sk a i)).p+1) [] om;exact⟨by have:=d.ge;omega,d.le,λ_=>by have:=d.ge;omega⟩
 grind
theorem MT(n b:Nat)(c:List UInt8)(k i m:Nat):(df a (n+1) b c k i m).ws.length<=1:=by
 have e:∀b d c k i,(rd a (n+1) false b d c k i []).ws.length<=1:=λb d c k i=>by rcases Cc (s:=a) n b d c k i []with h|⟨t,h,_⟩<;>rw[h]<;>simp
 grind[df]
theorem EJ{s:ByteArray}{n:Nat}(hV:∀m,m<n->Cb s m)(hs:s.size<=2000000){w:World}{p z:Nat}{d:jt}{j:Nat}{rt:Value}(A0:Nat->Nat){u:Nat}(hn:2*(s.size-(j+1))+2<=n)(hj:j<s.size)(za:u<=8)(h1:1<=u)(WY:d.path.length<=u*10000000)(hr:V w p (qJ s j 0 rt) 161)(hb:V w z (qR d (.slice none 0 0)) 195){K:Nat}(hK:K=4\/K=5)(hk:d.kind=K)(b:z≠p):Calls prog 125 #[pT p,pT z,.int .u8 ((bW K:Nat):Int),.int .i64 (u:Nat)] w λr w'=>r=.returned (.tuple #[])/\PtP w p z d s rt A0 u j (oF (E s) n u d.path K (j+1)) w':=by
 obtain⟨R,hR⟩:∃R,R=oF (E s) n u d.path K (j+1):=⟨_,rfl⟩;rw[<-hR];obtain⟨T,N⟩:∃T,T=sk (E s) (j+1):=⟨_,rfl⟩;have aeK:T<=s.size:=by rw[N,<-ak s];exact gB (by rw[ak];omega)
 have aeL:j+1<=T:=by rw[N];exact e_ _ _
 have HM0:=Z N;have x:s.size<=4000000:=om;have f:p<w.heap.size:=hr.lt;have Yf:z<w.heap.size:=hb.lt;have F0:Hid (wL w p z d s rt A0 u j j 0 [] (.slice none 0 0) A0 w):=⟨hr,⟨hb,World.ownsRow_nil _ _ _ _,Yf⟩,Fr.refl _ _,λ_ _=>rfl,λc hc=>by cases hc⟩;have q1:w.cell? (aD p 1)=some (.int .i64 (j:Nat)):=hr.cell 1;have qz:=hr.fz 1;have hP1:=(RR.kI (w:=w) ⟨hr,Fr.refl _ _⟩ (j+1));rw[show((j+1:Nat):Int)=(j:Int)+1 by omega]at hP1;have F1:=Z (F0.o.step hP1 b f om);have R1:=Z hP1.here;have HV:=Z hV;clear hP1 F0 hV hr hb;by_cases a:bt (E s) T=bW K
 .have hRe:R=⟨[],0,T+1⟩:=by rw[hR];unfold oF;rw[<-N,ae a]
  subst hRe;have x1:(decide (0=0)&&decide (bt (E s) T=bW K))=true:=by simp[a]
  have X1:=Z x1;have e1:eU (E s) T 0 (bW K)=T+1:=by simp[eU,a]
  have e2:eW (E s) T 0 (bW K)=0:=by simp[eW,a]
  have E1:=Z e1;have E2:=Z e2;clear hR N a x1 e1 e2;go_enter func125,ntmps125;go_wp2_with fail;refine(ef R1.o x).mono ?_;rintro r w2⟨rfl,l,k,h2⟩;have D:l=T:=by rw[<-k.eq,HM0.o]
  subst D;have F2:=Z (F1.o.step h2 b f k.ge);have R2:=Z h2.here;clear h2 k;go_wp2_with fail;refine mo (lG R2.o (bW K) _ rfl (iY K) _ X1.o) λw3 t=>?_;have F3:=Z (F2.o.step t b f lr);have R3:=Z t.here;clear t;go_wp2;go_loopw[9]λ_ wr=>wr=w3λ_ _=>0;case atStart=>rfl
  case round=>subst hrel;go_wp2_with fail;refine mo (kj R3.o x (bW K) _ rfl (iY K)) λw5 q=>?_;rw[E1.o,E2.o]at q;have H:=Z (F3.o.step q b f om);have c2:w5.cell? (aD p 2)=some (.int .i64 0):=q.c2;have c1:w5.cell? (aD p 1)=some (.int .i64 ((l+1:Nat):Int)):=q.c1;clear q;have y6:w5.cell? (aD z 6)=some (.int .i64 (d.to:Nat)):=H.o.b.k.cell 6;have y7:w5.cell? (aD z 7)=some (.int .i64 d.cl):=H.o.b.k.cell 7;have z6:=H.o.b.k.fz 6;have z7:=H.o.b.k.fz 7;have P5:=Z (wL.good (R:=⟨[],0,l+1⟩) H.o rfl b Yf);simp only at P5;rw[show((l+1:Nat):Int)=(l:Int)+1 by omega]at P5 c1;rw[show(l:Int)+1-1=(l:Int)by omega]at P5;go_wp2;go_end0;exact⟨rfl,P5.o⟩
 have hRe:rd (E s) n true u [] d.path K T []=R:=by rw[hR];unfold oF;rw[<-N,aa a]
 have HQ0:=Z hRe;have x1:(decide (0=0)&&decide (bt (E s) T=bW K))=false:=by simp[a]
 have X1:=Z x1;clear hR N a x1 hRe;go_enter func125,ntmps125;go_wp2_with fail;refine(ef R1.o x).mono ?_;rintro r w2⟨rfl,l,k,h2⟩;have D:l=T:=by rw[<-k.eq,HM0.o]
 subst D;have F2:=Z (F1.o.step h2 b f k.ge);have R2:=Z h2.here;clear h2 k;go_wp2_with fail;refine mo (lG R2.o (bW K) _ rfl (iY K) _ X1.o) λw3 t=>?_;have F3:=Z (F2.o.step t b f lr);clear t;go_wp2;go_loopw[9]λ_ wr=>∃(i m:Nat)(v:List Tv)(z_:Value)(A:Nat->Nat),wL w p z d s rt A0 u j i 0 v z_ A wr/\rd (E s) m true u [] d.path K i v=R/\2*(s.size-i)+2<=m/\m<=n/\v.length<=i/\i<=s.size/\j+1<=iλ_ wr=>s.size+1-rP p wr;case atStart=>exact⟨l,n,[],_,A0,F3.o,HQ0.o,om,aP _,aT _,aeK,aeL⟩
 case round=>
  clear F3 R2 F2 F1 R1 HQ0 X1 q1 qz;obtain⟨i,m1,v,z_,A,hF,hQ,hen,hmn,hlw,hil,hji⟩:=hrel;obtain⟨m,rfl⟩:∃m,m1=m+1:=⟨m1-1,om⟩;have F:=Z hF;have HQ:=Z hQ;have HPi:=Z (RR.rP (w:=wr) ⟨hF.r,Fr.refl _ _⟩);obtain⟨g,Yg⟩:∃g,g=df (E s) m u d.path K i v.length:=⟨_,rfl⟩;have hRl:g.p<=s.size:=by rw[Yg,<-ak s];exact(wN m u d.path K i v.length (by rw[ak];exact hil)).2.1
  have hRg:i<=g.p:=by rw[Yg];exact(wN m u d.path K i v.length (by rw[ak];exact hil)).1
  have hRt:g.e=0->i<g.p:=by rw[Yg];exact(wN m u d.path K i v.length (by rw[ak];exact hil)).2.2
  have hR1:g.ws.length<=1:=by obtain⟨m',rfl⟩:∃m',m=m'+1:=⟨m-1,om⟩;grind[MT]
  have HL1:=Z (show g.e=0->v.length+g.ws.length<=g.p fromλe=>by have:=hRt e;omega);have U:=Z Yg;have c2:wr.cell? (aD p 2)=some (.int .i64 0):=hF.r.cell 2;have ck:wr.cell? (aD z 0)=some (.int .i64 (K:Nat)):=by have:=hF.b.k.cell 0;grind[qR]
  have hxl:(v.map (cj A)).length<=s.size:=by rw[eY];omega
  have hrow:z_.ownBlock≠some p:=λe=>by have:=(hF.b.row.lt p e).1;omega
  clear hF hQ;obtain⟨S,hib⟩:∃S,S=sk (E s) i:=⟨_,rfl⟩;have aaX:S<=s.size:=by rw[hib,<-ak s];exact gB (by rw[ak];exact hil)
  have al4:i<=S:=by rw[hib];exact e_ _ _
  have HIB:=Z hib;have VE4:Hid (K=4->Calls prog 169 #[pT p,pT z,.int .i64 ((u:Int)+1)] wr λr w'=>r=.returned (.tuple #[])/\xh wr p z w.heap.size d z_ (v.map (cj A)) s i rt A u g w'):=λhK4=>by have h:=Hj (HV.o m om) hs A om hil za WY hxl F.o.r F.o.b (hk.trans hK4) b hrow F.o.f.size h1;grind[RI]
  have VE5:Hid (K=5->∀W,wL w p z d s rt A0 u j S 0 v z_ A W->Calls prog 170 #[pT p,pT z,.int .i64 ((u:Int)+1)] W λr w'=>r=.returned (.tuple #[])/\xh W p z w.heap.size d z_ (v.map (cj A)) s S rt A u g w'):=λhK5 W hW=>by have h:=Hk (HV.o m om) hs A (p:=S) om aaX za WY hxl hW.r hW.b (hk.trans hK5) b hrow hW.f.size;grind[EI]
  have P:Hid (K=5->S<=g.p):=λhK5=>by
   rw[Yg,hK5,EI,<-hib];have t:=j_ (s:=E s) (i:=S) (by rw[ak];exact aaX);unfold tL;split;.exact t.1
   have q:=e_ (E s) (aM (E s) S).p;have h6:=gB t.2.1;split;.rename_i h7;have h9:=ik h7 de;have h8:=jM (s:=E s) m false (u+1) (aM (E s) S).t (d.path++[91]++h_ (aM (E s) S).t++[93]) 5 (sk (E s) (aM (E s) S).p+1) [] om;have:=h8.ge;omega
   simp;omega
  clear Yg hib;go_upto_if 35 with fail;go_cut[]from 36 to 47λwd=>∃(L:Value)(A2:Nat->Nat),wL w p z d s rt A0 u j g.p g.e (v++g.ws) L A2 wd;case first=>
   rcases hK with rfl|rfl;.have ve:=VE4.o rfl;have VE:=Z ve;clear VE4 VE5 P ve U HQ HL1;go_wp2_with fail;refine mo (VE.o) λw2 h2=>?_;obtain⟨L,A2,M⟩:=F.o.item h2 f Yf hji hRg;clear h2;go_wp2;go_meet;exact⟨L,A2,M⟩
   have ve:=VE5.o rfl;have VE:=Z ve;have hRb:=P.o rfl;clear VE4 VE5 P ve U HQ HL1;go_wp2_with fail;refine(ef (w0:=wr) ⟨F.o.r,Fr.refl _ _⟩ x).mono ?_;rintro r w1⟨rfl,jy,hjy,hq1⟩;have aeP:jy=S:=by rw[<-hjy.eq,HIB.o]
   subst aeP;have F1:=Z (F.o.step hq1 b f hjy.ge);clear hq1 hjy;go_wp2_with fail;refine mo (VE.o _ F1.o) λw2 h2=>?_;obtain⟨L,A2,M⟩:=F1.o.item h2 f Yf om hRb;clear h2;go_wp2;go_meet;exact⟨L,A2,M⟩
  case rest=>
  clear VE4 VE5 P ck;obtain⟨L,A2,M⟩:=hcut;have F2:=Z M;have RR2:Hid (RR p s wc g.p g.e rt wc):=⟨M.r,Fr.refl _ _⟩;clear M;by_cases o:g.e=0
  .obtain⟨y,C⟩:∃y,y=sk (E s) g.p:=⟨_,rfl⟩;have al8:y<=s.size:=by rw[C,<-ak s];exact gB (by rw[ak];exact hRl)
   have al9:g.p<=y:=by rw[C];exact e_ _ _
   have HJ2:=Z C;have J:=Z o;by_cases B:bt (E s) y=44
   .have al_:y<s.size:=Vf B de;have hrd:rd (E s) m true u [] d.path K (y+1) (v++g.ws)=R:=by rw[<-HQ.o,mF,<-U.o,aa (by simpa using o),<-C,ae B]
    have HRD:=Z hrd;have Yh:(decide (0=0)&&decide (bt (E s) y=44))=true:=by simp[B]
    have X44:=Z Yh;clear hrd Yh B C o;go_wp2_with fail;refine(ef (by have:=RR2.o;rw[J.o]at this;exact this) x).mono ?_;rintro r w3⟨rfl,l,k,t⟩;have D:l=y:=by rw[<-k.eq,HJ2.o]
    subst D;have F3:=Z (F2.o.step t b f k.ge);have R3:=Z t.here;clear t k;go_wp2_with fail;refine mo (lG R3.o 44 _ rfl de _ X44.o) λw4 G=>?_;have F4:=Z (F3.o.step G b f lr);have c1:=G.c1;have kz:=G.k.fz 1;have q:=G.here.kI (l+1);rw[show((l+1:Nat):Int)=(l:Int)+1 by omega]at q;have H:Hid (wL w p z d s rt A0 u j (l+1) 0 (v++g.ws) L A2 (w4.setCell (aD p 1) (.int .i64 ((l:Int)+1)))):=F4.o.step q b f om;have HP5:=Z (G.kI (l+1)).rP;rw[show((l+1:Nat):Int)=(l:Int)+1 by omega]at HP5;clear G q;go_wp2;go_roundw;case rel=>exact⟨l+1,m,v++g.ws,L,A2,H.o,HRD.o,om,om,by have:=HL1.o J.o;simp;omega,om,om⟩
    case measure=>rw[HPi.o,HP5.o];omega
   have Yh:(decide (0=0)&&decide (bt (E s) y=44))=false:=by simp[B]
   have X44:=Z Yh;by_cases a:bt (E s) y=bW K
   .have hR:R=⟨v++g.ws,0,y+1⟩:=by rw[<-HQ.o,mF,<-U.o,aa (by simpa using o),<-C,aa B,ae a]
    subst hR;have e1:eU (E s) y 0 (bW K)=y+1:=by simp[eU,a]
    have e2:eW (E s) y 0 (bW K)=0:=by simp[eW,a]
    have E1:=Z e1;have E2:=Z e2;clear Yh B C o a e1 e2;go_wp2_with fail;refine(ef (by have:=RR2.o;rw[J.o]at this;exact this) x).mono ?_;rintro r w3⟨rfl,l,k,t⟩;have D:l=y:=by rw[<-k.eq,HJ2.o]
    subst D;have F3:=Z (F2.o.step t b f k.ge);have R3:=Z t.here;clear t k;go_wp2_with fail;refine mo (lG R3.o 44 _ rfl de _ X44.o) λw4 G=>?_;have F4:=Z (F3.o.step G b f lr);have R4:=Z G.here;clear G;go_wp2_with fail;refine mo (kj R4.o x (bW K) _ rfl (iY K)) λw5 q=>?_;rw[E1.o,E2.o]at q;have H:=Z (F4.o.step q b f om);have c2:w5.cell? (aD p 2)=some (.int .i64 0):=q.c2;have c1:w5.cell? (aD p 1)=some (.int .i64 ((l+1:Nat):Int)):=q.c1;clear q;have y6:w5.cell? (aD z 6)=some (.int .i64 (d.to:Nat)):=H.o.b.k.cell 6;have y7:w5.cell? (aD z 7)=some (.int .i64 d.cl):=H.o.b.k.cell 7;have z6:=H.o.b.k.fz 6;have z7:=H.o.b.k.fz 7;have P5:=Z (wL.good (R:=⟨v++g.ws,0,l+1⟩) H.o rfl b Yf);simp only at P5;rw[show((l+1:Nat):Int)=(l:Int)+1 by omega]at P5 c1;rw[show(l:Int)+1-1=(l:Int)by omega]at P5;go_wp2;go_end0;exact⟨rfl,P5.o⟩
   have hR:R=⟨v++g.ws,2,y⟩:=by rw[<-HQ.o,mF,<-U.o,aa (by simpa using o),<-C,aa B,aa a]
   subst hR;have e1:eU (E s) y 0 (bW K)=y:=by simp[eU,a]
   have e2:eW (E s) y 0 (bW K)=2:=by simp[eW,a]
   have E1:=Z e1;have E2:=Z e2;clear Yh B C o a e1 e2;go_wp2_with fail;refine(ef (by have:=RR2.o;rw[J.o]at this;exact this) x).mono ?_;rintro r w3⟨rfl,l,k,t⟩;have D:l=y:=by rw[<-k.eq,HJ2.o]
   subst D;have F3:=Z (F2.o.step t b f k.ge);have R3:=Z t.here;clear t k;go_wp2_with fail;refine mo (lG R3.o 44 _ rfl de _ X44.o) λw4 G=>?_;have F4:=Z (F3.o.step G b f lr);have R4:=Z G.here;clear G;go_wp2_with fail;refine mo (kj R4.o x (bW K) _ rfl (iY K)) λw5 q=>?_;rw[E1.o,E2.o]at q;have H:=Z (F4.o.step q b f lr);have c2:w5.cell? (aD p 2)=some (.int .i64 2):=q.c2;clear q;have P5:=Z (wL.bad (R:=⟨v++g.ws,2,l⟩) H.o si);go_wp2;go_end0;exact⟨rfl,P5.o⟩
  have hR:R=⟨v++g.ws,g.e,g.p⟩:=by rw[<-HQ.o,mF,<-U.o,ae (by simpa using o)]
  subst hR;have e1:eU (E s) g.p g.e (bW K)=g.p:=by simp[eU,o]
  have e2:eW (E s) g.p g.e (bW K)=g.e:=by simp[eW,o]
  have E1:=Z e1;have E2:=Z e2;have WE:((g.e:Int)==0)=false:=qp o;have J:=Z o;clear e1 e2 o;go_wp2_with fail;refine mo (pK RR2.o J.o) λw3 t=>?_;have F3:=Z (F2.o.step t b f lr);have R3:=Z t.here;clear t;go_wp2_with fail;refine mo (lG R3.o 44 _ rfl de false (by simp[J.o])) λw4 G=>?_;have F4:=Z (F3.o.step G b f lr);have R4:=Z G.here;clear G;go_wp2_with fail;refine mo (kj R4.o x (bW K) _ rfl (iY K)) λw5 q=>?_;rw[E1.o,E2.o]at q;have H:=Z (F4.o.step q b f lr);have c2:w5.cell? (aD p 2)=some (.int .i64 (g.e:Nat)):=q.c2;clear q;have P5:=Z (wL.bad (R:=⟨v++g.ws,g.e,g.p⟩) H.o J.o);go_wp2;go_end0;exact⟨rfl,P5.o⟩
