import Derived.Test.YtcbadebjpogmlaaGreatDoorVvPlain
import Derived.Deep.RegionWith
set_option maxHeartbeats 4000000
set_option maxRecDepth 100000
namespace Go.Proofs.YtcbadebjpogmlaaGreatDoor
open Go.RowKit Tr Go.Proofs.Tryz
def bL(c:Nat):Nat:=if isLet c=true then 1 else if c=48 then 2 else if O c=true then 3 else if c=32 then 4 else 0
variable{w v u:World}
theorem dN(c:Nat)(j:c<256):Calls prog 147 #[.int .u8 (c:Int)] w λr g=>r=.returned (.int .i64 (bL c:Nat))/\g=w:=by
 by_cases a:isLet c=true
 .have e:bL c=1:=by simp[bL,a]
  rw[e];simp[isLet]at a;have d1:(97:Int)<=(c:Int):=om;have d2:(c:Int)<=122:=om;clear e a;go_enter func147,ntmps147;go_wp2;go_ret;exact⟨rfl,rfl⟩
 by_cases d:c=48;.subst d;have e:bL 48=2:=rfl;rw[e];clear e a;go_enter func147,ntmps147;go_wp2;go_ret;exact⟨rfl,rfl⟩
 by_cases b:O c=true
 .have e:bL c=3:=by simp[bL,a,d,b]
  rw[e];simp[O]at b;have d1:¬(97:Int)<=(c:Int):=om;have d2:decide ((97:Int)<=(c:Int))=false:=by simpa using d1
  have d3:((c:Int)==48)=false:=dH;have d4:(49:Int)<=(c:Int):=om;have d5:(c:Int)<=57:=om;clear e a d b;go_enter func147,ntmps147;go_wp2;go_ret;exact⟨rfl,rfl⟩
 by_cases f:c=32;.subst f;have e:bL 32=4:=rfl;rw[e];clear e a d b;go_enter func147,ntmps147;go_wp2;go_ret;exact⟨rfl,rfl⟩
 have e:bL c=0:=by simp[bL,a,d,b,f]
 rw[e];simp[isLet]at a;simp[O]at b;have d3:((c:Int)==48)=false:=dH;have d6:((c:Int)==32)=false:=dH;by_cases h:97<=c
 .have d1:(97:Int)<=(c:Int):=om;have d2:decide ((c:Int)<=122)=false:=by simp;omega
  have d4:(49:Int)<=(c:Int):=om;have d5:decide ((c:Int)<=57)=false:=by simp;omega
  clear e a d b f;go_enter func147,ntmps147;go_wp2;go_ret;exact⟨rfl,rfl⟩
 have d1:decide ((97:Int)<=(c:Int))=false:=by simp;omega
 by_cases i:49<=c
 .have d4:(49:Int)<=(c:Int):=om;have d5:decide ((c:Int)<=57)=false:=by simp;omega
  clear e a d b f;go_enter func147,ntmps147;go_wp2;go_ret;exact⟨rfl,rfl⟩
 have d4:decide ((49:Int)<=(c:Int))=false:=by simp;omega
 clear e a d b f;go_enter func147,ntmps147;go_wp2;go_ret;exact⟨rfl,rfl⟩
theorem kO{a b:Bool}(h:a=b):Ending.returned (.bool a)=.returned (.bool b):=by rw[h]
theorem Lg(c:Nat):((bL c:Int)==1)=isLet c:=by grind[bL]
theorem Lh(c:Nat):((bL c:Int)!=0)=aR c:=by grind[O,aR,bL]
theorem Qy(c:Nat):bL c<=4:=by
 unfold bL;repeat' split
 all_goals omega
theorem nf(c:Nat)(a:c<256):Calls prog 193 #[.int .u8 (c:Int)] w λr b=>r=.returned (.bool (isLet c))/\b=w:=by have HK:=Z (Lg c);go_enter func193,ntmps193;go_wp2_with fail;refine(dN c a).mono ?_;rintro r d⟨rfl,rfl⟩;generalize bL c=k at*;go_wp2;go_ret;exact⟨kO HK.o,rfl⟩
theorem Be(c:Nat)(a:c<256):Calls prog 195 #[.int .u8 (c:Int)] w λr b=>r=.returned (.bool (aR c))/\b=w:=by have HK:=Z (Lh c);go_enter func195,ntmps195;go_wp2_with fail;refine(dN c a).mono ?_;rintro r d⟨rfl,rfl⟩;generalize bL c=k at*;go_wp2;go_ret;exact⟨kO HK.o,rfl⟩
theorem Gn(c:Nat)(b:c<256):Calls prog 194 #[.int .u8 (c:Int)] w λr g=>r=.returned (.bool (O c))/\g=w:=by
 by_cases a:bL c=2
 .have e:O c=true:=by grind[O,bL]
  rw[e];have HK:=Z a;clear e a;go_enter func194,ntmps194;go_wp2_with fail;refine(dN c b).mono ?_;rintro r d⟨rfl,rfl⟩;rw[HK.o];go_wp2;go_ret;exact⟨rfl,rfl⟩
 have e:O c=((bL c:Int)==3):=by grind[O,isLet,bL]
 rw[e];have d2:((bL c:Int)==2)=false:=dH;have HK:=Z (rfl:bL c=bL c);have f:=Qy c;clear e a;go_enter func194,ntmps194;go_wp2_with fail;refine(dN c b).mono ?_;rintro r d⟨rfl,rfl⟩;go_wp2_with fail;refine(dN c b).mono ?_;rintro r d⟨rfl,rfl⟩;go_wp2;go_ret;exact⟨rfl,rfl⟩
def bG(w:World)(b:Nat)(x:Nat)(g:G):Prop:=w.heap[b]?=some (.cells #[.int .i64 x,.int .i64 g.bh,.int .i64 g.sz,.string ⟨g.rs.toArray⟩,.string ⟨g.op.toArray⟩] 176)
variable{n k i:Nat}{a d:G}
theorem bG.lt(h:bG w n k a):n<w.heap.size:=bo h
theorem bG.c0(h:bG w n k a):w.cell? (aD n 0)=some (.int .i64 k):=by unfold bG at h;simp[World.cell?,h]
theorem bG.c1(h:bG w n k a):w.cell? (aD n 1)=some (.int .i64 a.bh):=by unfold bG at h;simp[World.cell?,h]
theorem bG.c2{w:World}(h:bG w n k a):w.cell? (aD n 2)=some (.int .i64 a.sz):=by unfold bG at h;simp[World.cell?,h]
theorem bG.c3(h:bG w n k a):w.cell? (aD n 3)=some (.string ⟨a.rs.toArray⟩):=by unfold bG at h;simp[World.cell?,h]
theorem bG.c4(h:bG w n k a):w.cell? (aD n 4)=some (.string ⟨a.op.toArray⟩):=by unfold bG at h;simp[World.cell?,h]
theorem bG.fz(h:bG w n k a)(i:Nat):w.frozen? (aD n i)=false:=by unfold bG at h;simp[World.frozen?,h]
theorem bG.Li(h:bG w n k a)(y:Nat):bG (w.setCell (aD n 0) (.int .i64 y)) n y a:=by unfold bG at*;simp[World.setCell,Array.getElem?_modify,h]
theorem bG.rV(h:bG w n k a)(y:Nat):bG (w.setCell (aD n 1) (.int .i64 y)) n k {a with bh:=y}:=by unfold bG at*;simp[World.setCell,Array.getElem?_modify,h]
theorem bG.Gp(h:bG w n k a)(y:Nat):bG (w.setCell (aD n 2) (.int .i64 y)) n k {a with sz:=y}:=by unfold bG at*;simp[World.setCell,Array.getElem?_modify,h]
theorem bG.yO(h:bG w n k a)(y:List UInt8):bG (w.setCell (aD n 3) (.string ⟨y.toArray⟩)) n k {a with rs:=y}:=by unfold bG at*;simp[World.setCell,Array.getElem?_modify,h]
theorem bG.Gq(h:bG w n k a)(y:List UInt8):bG (w.setCell (aD n 4) (.string ⟨y.toArray⟩)) n k {a with op:=y}:=by unfold bG at*;simp[World.setCell,Array.getElem?_modify,h]
structure Rg(b:Nat)(w:World)(x:Nat)(g:G)(w':World):Prop where
 m:bG w' b x g
 f:Fr (PB b) w w'
theorem Rg.same(h:bG w n k a):Rg n w k a w:=⟨h,Fr.refl _ _⟩
theorem Rg.trans(b:Rg n w k a v)(c:Rg n v i d u):Rg n w i d u:=⟨c.m,b.f.trans c.f⟩
theorem Rg.Li(b:Rg n w k a v)(y:Nat):Rg n w y a (v.setCell (aD n 0) (.int .i64 y)):=⟨b.m.Li y,b.f.setCell (aD n 0) (Y rfl) _⟩
theorem Rg.rV(b:Rg n w k a v)(y:Nat):Rg n w k {a with bh:=y} (v.setCell (aD n 1) (.int .i64 y)):=⟨b.m.rV y,b.f.setCell (aD n 1) (Y rfl) _⟩
theorem Rg.Gp(b:Rg n w k a v)(y:Nat):Rg n w k {a with sz:=y} (v.setCell (aD n 2) (.int .i64 y)):=⟨b.m.Gp y,b.f.setCell (aD n 2) (Y rfl) _⟩
theorem Rg.yO(b:Rg n w k a v)(y:List UInt8):Rg n w k {a with rs:=y} (v.setCell (aD n 3) (.string ⟨y.toArray⟩)):=⟨b.m.yO y,b.f.setCell (aD n 3) (Y rfl) _⟩
theorem Rg.Gq(b:Rg n w k a v)(y:List UInt8):Rg n w k {a with op:=y} (v.setCell (aD n 4) (.string ⟨y.toArray⟩)):=⟨b.m.Gq y,b.f.setCell (aD n 4) (Y rfl) _⟩
def xg(b:Nat)(w:World)(x:Nat)(g:G)(r:Ending)(a:World):Prop:=r=.returned (.int .i64 (g.st:Nat))/\Rg b w x g a
theorem Rg.as{g:G}(h:Rg n w k g v)(a:G)(b:a.bh=g.bh)(c:a.sz=g.sz)(d:a.rs=g.rs)(e:a.op=g.op):Rg n w k a v:=⟨by have:=h.m;unfold bG at*;rw[b,c,d,e];exact this,h.f⟩
theorem Lj(h:bG w n k a)(c:Nat)(i:c<256)(b:Nat)(j:Int)(l:j=b):Calls prog 202 #[pT n,.int .u8 (c:Int),.int .i64 j] w (xg n w k (iW a c b)):=by
 subst l;have f1:=h.fz 1;have f2:=h.fz 2;have c1:=h.c1;have c2:=h.c2;have g:=Z h;clear h;cases d:isLet c
 .have e:iW a c b={a with st:=0}:=by simp[iW,d]
  rw[e];have f:=Z d;clear e d;go_enter func202,ntmps202;go_wp2_with fail;refine(nf c i).mono ?_;rintro r m⟨rfl,rfl⟩;rw[f.o];go_wp2;go_ret;exact⟨rfl,Rg.as (Rg.same g.o) _ rfl rfl rfl rfl⟩
 have e:iW a c b={a with st:=21,bh:=b,sz:=1}:=by simp[iW,d]
 rw[e];have f:=Z d;clear e d;go_enter func202,ntmps202;go_wp2_with fail;refine(nf c i).mono ?_;rintro r m⟨rfl,rfl⟩;rw[f.o];go_wp2;go_ret;exact⟨rfl,Rg.as (((Rg.same g.o).rV b).Gp 1) _ rfl rfl rfl rfl⟩
theorem DQ(h:bG w n k a)(b:Nat)(c:Int)(e:c=b):Calls prog 197 #[pT n,.int .i64 c] w (xg n w k (jg a b)):=by subst e;have f1:=h.fz 1;have f2:=h.fz 2;have c1:=h.c1;have c2:=h.c2;have d:=Z h;clear h;go_enter func197,ntmps197;go_wp2;go_ret;exact⟨rfl,Rg.as (((Rg.same d.o).rV b).Gp 0) _ rfl rfl rfl rfl⟩
theorem DS(h:bG w n k a)(b:Nat)(c:Int)(e:c=b):Calls prog 198 #[pT n,.int .i64 c] w (xg n w k (iH a b)):=by subst e;have f1:=h.fz 1;have c1:=h.c1;have d:=Z h;clear h;go_enter func198,ntmps198;go_wp2;go_ret;exact⟨rfl,Rg.as ((Rg.same d.o).rV b) _ rfl rfl rfl rfl⟩
theorem DU(h:bG w n k a)(l:List UInt8)(c:Nat)(f:Int)(g:f=c):Calls prog 146 #[pT n,.string ⟨l.toArray⟩,.int .i64 f] w (xg n w k (dQ a l c)):=by subst g;have f1:=h.fz 1;have f3:=h.fz 3;have c1:=h.c1;have c3:=h.c3;have d:=Z h;clear h;cases l with|nil=>have e:dQ a [] c={a with st:=c}:=rfl;rw[e];clear e;go_enter func146,ntmps146;go_wp2;go_ret;exact⟨rfl,Rg.as (Rg.same d.o) _ rfl rfl rfl rfl⟩|cons b r=>have e:dQ a (b::r) c={a with st:=24,bh:=c,rs:=b::r}:=rfl;rw[e];clear e;go_enter func146,ntmps146;go_wp2;go_ret;exact⟨rfl,Rg.as (((Rg.same d.o).rV c).yO (b::r)) _ rfl rfl rfl rfl⟩
theorem qL(h:bG w n k a)(c:Nat)(i:c<256)(b:Nat)(j:Int)(m:j=b):Calls prog 148 #[pT n,.int .u8 (c:Int),.int .i64 j] w (xg n w k (bJ a c b)):=by
 subst m;have f1:=h.fz 1;have f2:=h.fz 2;have c1:=h.c1;have c2:=h.c2;have g:=Z h;clear h;by_cases d:c=48
 .have e:bJ a c b={a with st:=b}:=by simp[bJ,d]
  have HK:Hid (bL c=2):=by unfold Hid;rw[d];rfl
  rw[e];clear e d;go_enter func148,ntmps148;go_wp2_with fail;refine(dN c i).mono ?_;rintro r l⟨rfl,rfl⟩;rw[HK.o];go_wp2;go_ret;exact⟨rfl,Rg.as (Rg.same g.o) _ rfl rfl rfl rfl⟩
 cases f:O c
 .have e:bJ a c b={a with st:=0}:=by simp[bJ,d,f]
  have d1:((bL c:Int)==2)=false:=by grind[bL]
  have d2:((bL c:Int)==3)=false:=by grind[bL]
  rw[e];clear e d f;go_enter func148,ntmps148;go_wp2_with fail;refine(dN c i).mono ?_;rintro r l⟨rfl,rfl⟩;go_wp2;go_ret;exact⟨rfl,Rg.as (Rg.same g.o) _ rfl rfl rfl rfl⟩
 have e:bJ a c b={a with st:=22,bh:=b,sz:=1}:=by simp[bJ,d,f]
 have HK:Hid (bL c=3):=by unfold Hid bL;grind[O,isLet]
 rw[e];clear e d f;go_enter func148,ntmps148;go_wp2_with fail;refine(dN c i).mono ?_;rintro r l⟨rfl,rfl⟩;rw[HK.o];go_wp2;go_ret;exact⟨rfl,Rg.as (((Rg.same g.o).rV b).Gp 1) _ rfl rfl rfl rfl⟩
theorem yP(h:bG w n k a)(c:Nat)(l:c<256)(b:Nat)(j:Int)(m:j=b):Calls prog 201 #[pT n,.int .u8 (c:Int),.int .i64 j] w (xg n w k (dM a c b)):=by
 subst m;have i:=Z h;clear h;by_cases f:c=45
 .have e:dM a c b=iH a b:=by simp[dM,f]
  rw[e];have d:((c:Int)==45)=true:=by rw[f];rfl
  clear e f;go_enter func201,ntmps201;go_wp2_with fail;refine mh (DS i.o b _ rfl) λo g=>?_;go_wp2;go_ret;exact⟨rfl,g.o⟩
 have e:dM a c b=bJ a c b:=by simp[dM,f]
 rw[e];have d:((c:Int)==45)=false:=dH;clear e f;go_enter func201,ntmps201;go_wp2_with fail;refine mh (qL i.o c l b _ rfl) λo g=>?_;generalize bJ a c b=p at*;go_wp2;go_ret;exact⟨rfl,g.o⟩
theorem iq(a:Nat)(k:Int):((a:Int)==k)=true/\(a:Int)=k\/((a:Int)==k)=false/\(a:Int)≠k:=by grind
theorem iqn(a:Nat)(k:Int):((a:Int)==k)=true/\((a:Int)!=k)=false/\(a:Int)=k\/((a:Int)==k)=false/\((a:Int)!=k)=true/\(a:Int)≠k:=by grind
theorem Bf(h:bG w n a.st a)(c:Nat)(y:c<256):Calls prog 155 #[pT n,.int .u8 (c:Int)] w (xg n w a.st (fj a c)):=by
 have c0:=h.c0;have d:=Z h;clear h;obtain⟨u,f⟩:∃x,x=c:=⟨_,rfl⟩;obtain⟨p,e⟩:∃x,x=a:=⟨_,rfl⟩;have v:p.st=a.st:=by rw[e]
 obtain⟨s,b⟩:∃x,fj p u=x:=⟨_,rfl⟩;rw[show fj a c=s by rw[<-f,<-e];exact b];unfold fj at b;repeat' split at b
 all_goals(rcases iq c 61 with⟨d0,g⟩|⟨d0,g⟩<;>try omega)
 all_goals(rcases iqn a.st 17 with⟨d1,f1,i⟩|⟨d1,f1,i⟩<;>try omega)
 all_goals(rcases iq a.st 15 with⟨d2,j⟩|⟨d2,j⟩<;>try omega)
 all_goals(rcases iq c 39 with⟨d3,k⟩|⟨d3,k⟩<;>try omega)
 all_goals(rcases iq c 116 with⟨d4,l⟩|⟨d4,l⟩<;>try omega)
 all_goals(rcases iq c 102 with⟨d5,m⟩|⟨d5,m⟩<;>try omega)
 all_goals(rcases iq c 110 with⟨d6,o⟩|⟨d6,o⟩<;>try omega)
 all_goals have H:=Z (db f (db e b));clear f e v b g i j k l m o;go_enter func155,ntmps155;go_wp2_with fail;first|((first|refine(yP d.o c y 18 18 rfl).mono ?_|refine(DQ d.o 18 18 rfl).mono ?_|refine(DU d.o _ 18 18 rfl).mono ?_);rintro r z⟨rfl,q⟩;have t:=Z q;clear q;go_wp2;go_ret;obtain⟨rfl,rfl,rfl⟩:=H.o;exact⟨rfl,t.o⟩)|(go_ret;obtain⟨rfl,rfl,rfl⟩:=H.o;exact⟨rfl,Rg.as (Rg.same d.o) _ rfl rfl rfl rfl⟩)
theorem Ll(h:bG w n a.st a)(c:Nat)(s:c<256):Calls prog 156 #[pT n,.int .u8 (c:Int)] w (xg n w a.st (dh a c)):=by
 have c0:=h.c0;have e:=Z h;clear h;obtain⟨y,f⟩:∃x,x=c:=⟨_,rfl⟩;obtain⟨q,d⟩:∃x,x=a:=⟨_,rfl⟩;have z:q.st=a.st:=by rw[d]
 obtain⟨u,b⟩:∃x,dh q y=x:=⟨_,rfl⟩;rw[show dh a c=u by rw[<-f,<-d];exact b];unfold dh at b;repeat' split at b
 all_goals(rcases iq a.st 12 with⟨d0,g⟩|⟨d0,g⟩<;>try omega)
 all_goals(rcases iq a.st 13 with⟨d1,i⟩|⟨d1,i⟩<;>try omega)
 all_goals(rcases iq a.st 14 with⟨d2,j⟩|⟨d2,j⟩<;>try omega)
 all_goals(rcases iq a.st 19 with⟨d3,k⟩|⟨d3,k⟩<;>try omega)
 all_goals(rcases iq a.st 20 with⟨d4,l⟩|⟨d4,l⟩<;>try omega)
 all_goals(rcases iq c 93 with⟨d5,m⟩|⟨d5,m⟩<;>try omega)
 all_goals(rcases iq c 38 with⟨d6,o⟩|⟨d6,o⟩<;>try omega)
 all_goals(rcases iq c 124 with⟨d7,p⟩|⟨d7,p⟩<;>try omega)
 all_goals have H:=Z (db f (db d b));clear f d z b g i j k l m o p;go_enter func156,ntmps156;go_wp2_with fail;first|((first|refine(Lj e.o c s 11 11 rfl).mono ?_|refine(yP e.o c s 14 14 rfl).mono ?_);rintro r A⟨rfl,t⟩;have v:=Z t;clear t;go_wp2;go_ret;obtain⟨rfl,rfl,rfl⟩:=H.o;exact⟨rfl,v.o⟩)|(go_ret;obtain⟨rfl,rfl,rfl⟩:=H.o;exact⟨rfl,Rg.as (Rg.same e.o) _ rfl rfl rfl rfl⟩)
theorem kn{g:G}(h:bG w n g.st g)(c:Nat)(u:c<256):Calls prog 151 #[pT n,.int .u8 (c:Int)] w (xg n w g.st (bN g c)):=by
 have c0:=h.c0;have e:=Z h;clear h;obtain⟨s,d⟩:∃x,x=c:=⟨_,rfl⟩;obtain⟨m,b⟩:∃x,x=g:=⟨_,rfl⟩;have t:m.st=g.st:=by rw[b]
 obtain⟨p,a⟩:∃x,bN m s=x:=⟨_,rfl⟩;rw[show bN g c=p by rw[<-d,<-b];exact a];unfold bN at a;repeat' split at a
 all_goals(rcases iq c 44 with⟨d0,f⟩|⟨d0,f⟩<;>try omega)
 all_goals(rcases iq c 93 with⟨d1,i⟩|⟨d1,i⟩<;>try omega)
 all_goals(rcases iq c 58 with⟨d2,j⟩|⟨d2,j⟩<;>try omega)
 all_goals(rcases iq g.st 7 with⟨d3,k⟩|⟨d3,k⟩<;>try omega)
 all_goals(rcases iq g.st 8 with⟨d4,l⟩|⟨d4,l⟩<;>try omega)
 all_goals have H:=Z (db d (db b a));clear d b t a f i j k l;go_enter func151,ntmps151;go_wp2_with fail;first|((first|refine(qL e.o c u 9 9 rfl).mono ?_);rintro r v⟨rfl,o⟩;have q:=Z o;clear o;go_wp2;go_ret;obtain⟨rfl,rfl,rfl⟩:=H.o;exact⟨rfl,q.o⟩)|(go_ret;obtain⟨rfl,rfl,rfl⟩:=H.o;exact⟨rfl,Rg.as (Rg.same e.o) _ rfl rfl rfl rfl⟩)
theorem wa(h:bG w n a.st a)(c:Nat)(p:c<256):Calls prog 196 #[pT n,.int .u8 (c:Int)] w (xg n w a.st (l5 a c)):=by
 have c0:=h.c0;have f:=Z h;clear h;obtain⟨m,e⟩:∃x,x=c:=⟨_,rfl⟩;obtain⟨i,d⟩:∃x,x=a:=⟨_,rfl⟩;have o:i.st=a.st:=by rw[d]
 obtain⟨k,b⟩:∃x,l5 i m=x:=⟨_,rfl⟩;rw[show l5 a c=k by rw[<-e,<-d];exact b];unfold l5 at b;repeat' split at b
 all_goals(rcases iq c 42 with⟨d0,g⟩|⟨d0,g⟩<;>try omega)
 all_goals have H:=Z (db e (db d b));clear e d o b g;go_enter func196,ntmps196;go_wp2_with fail;first|((first|refine(Lj f.o c p 3 3 rfl).mono ?_);rintro r q⟨rfl,j⟩;have l:=Z j;clear j;go_wp2;go_ret;obtain⟨rfl,rfl,rfl⟩:=H.o;exact⟨rfl,l.o⟩)|(go_ret;obtain⟨rfl,rfl,rfl⟩:=H.o;exact⟨rfl,Rg.as (Rg.same f.o) _ rfl rfl rfl rfl⟩)
theorem Bg(h:bG w n a.st a)(c:Nat)(u:c<256):Calls prog 150 #[pT n,.int .u8 (c:Int)] w (xg n w a.st (cE a c)):=by
 have c0:=h.c0;have d:=Z h;clear h;obtain⟨s,f⟩:∃x,x=c:=⟨_,rfl⟩;obtain⟨m,e⟩:∃x,x=a:=⟨_,rfl⟩;have t:m.st=a.st:=by rw[e]
 obtain⟨p,b⟩:∃x,cE m s=x:=⟨_,rfl⟩;rw[show cE a c=p by rw[<-f,<-e];exact b];unfold cE at b;repeat' split at b
 all_goals(rcases iq c 42 with⟨d0,g⟩|⟨d0,g⟩<;>try omega)
 all_goals(rcases iq c 39 with⟨d1,i⟩|⟨d1,i⟩<;>try omega)
 all_goals(rcases iq c 45 with⟨d2,j⟩|⟨d2,j⟩<;>try omega)
 all_goals(rcases iq c 58 with⟨d3,k⟩|⟨d3,k⟩<;>try omega)
 all_goals(rcases iq c 63 with⟨d4,l⟩|⟨d4,l⟩<;>try omega)
 all_goals have H:=Z (db f (db e b));clear f e t b g i j k l;go_enter func150,ntmps150;go_wp2_with fail;first|((first|refine(DQ d.o 9 9 rfl).mono ?_|refine(DS d.o 9 9 rfl).mono ?_|refine(qL d.o c u 7 7 rfl).mono ?_);rintro r v⟨rfl,o⟩;have q:=Z o;clear o;go_wp2;go_ret;obtain⟨rfl,rfl,rfl⟩:=H.o;exact⟨rfl,q.o⟩)|(go_ret;obtain⟨rfl,rfl,rfl⟩:=H.o;exact⟨rfl,Rg.as (Rg.same d.o) _ rfl rfl rfl rfl⟩)
theorem Gr(h:bG w n a.st a)(c:Nat)(y:c<256):Calls prog 149 #[pT n,.int .u8 (c:Int)] w (xg n w a.st (cC a c)):=by
 have c0:=h.c0;have f:=Z h;clear h;obtain⟨u,e⟩:∃x,x=c:=⟨_,rfl⟩;obtain⟨p,d⟩:∃x,x=a:=⟨_,rfl⟩;have v:p.st=a.st:=by rw[d]
 obtain⟨s,b⟩:∃x,cC p u=x:=⟨_,rfl⟩;rw[show cC a c=s by rw[<-e,<-d];exact b];unfold cC at b;repeat' split at b
 all_goals(rcases iq a.st 2 with⟨d0,g⟩|⟨d0,g⟩<;>try omega)
 all_goals(rcases iq a.st 3 with⟨d1,i⟩|⟨d1,i⟩<;>try omega)
 all_goals(rcases iq a.st 4 with⟨d2,j⟩|⟨d2,j⟩<;>try omega)
 all_goals(rcases iq a.st 5 with⟨d3,k⟩|⟨d3,k⟩<;>try omega)
 all_goals(rcases iq c 36 with⟨d4,l⟩|⟨d4,l⟩<;>try omega)
 all_goals(rcases iq c 46 with⟨d5,m⟩|⟨d5,m⟩<;>try omega)
 all_goals(rcases iq c 91 with⟨d6,o⟩|⟨d6,o⟩<;>try omega)
 all_goals have H:=Z (db e (db d b));clear e d v b g i j k l m o;go_enter func149,ntmps149;go_wp2_with fail;first|((first|refine(wa f.o c y).mono ?_);rintro r z⟨rfl,q⟩;have t:=Z q;clear q;go_wp2;go_ret;obtain⟨rfl,rfl,rfl⟩:=H.o;exact⟨rfl,t.o⟩)|(go_ret;obtain⟨rfl,rfl,rfl⟩:=H.o;exact⟨rfl,Rg.as (Rg.same f.o) _ rfl rfl rfl rfl⟩)
def Z9:Value->Nat|.string t=>t.size|_=>0
variable{q s:ByteArray}
theorem we(h:n<q.size)(f:q.size=n+1):E q=E (q.extract 0 n)++[q[n]]:=by
 have e:(E q).length=n+1:=by rw[ak];exact f
 have b:E (q.extract 0 n)=(E q).take n:=by simp[E,List.extract_eq_take_drop]
 rw[b];have a:E q=(E q).take (n+1):=by rw[gv om]
 have c:(E q).take (n+1)=(E q).take n++[(E q)[n]'(by omega)]:=eC om;have d:(E q)[n]'(by omega)=q[n]:=by simp[E,ByteArray.getElem_eq_getElem_data]
 rw[c,d]at a;exact a
variable{b:List UInt8}{c:UInt8}
theorem Gu(h:c≠33):bI (b++[c])=b++[c]:=by simp_all[bI]
theorem yQ(o:List UInt8):bI (o++[33])=bI o:=by simp[bI]
theorem Lm(c:ByteArray)(o:c.size<=120):Calls prog 236 #[.string c,.int .u8 33] w λr p=>∃t,r=.returned (.string t)/\E t=bI (E c)/\p=w:=by
 go_enter func236,ntmps236;go_wp2;go_loop[0]λv=>∃t:ByteArray,v=.string t/\t.size<=120/\bI (E t)=bI (E c)λv=>Z9 v;case atStart=>exact⟨c,rfl,o,rfl⟩
 case round=>
  obtain⟨t,rfl,q,b⟩:=hrel;have f:=Z b;clear b;by_cases j:t.size=0
  .have i:Hid (E t=[]):=by have:=ak t;rw[j]at this;exact CG this
   go_wp2;go_ret;exact⟨t,rfl,by rw[<-f.o,i.o];rfl,rfl⟩
  obtain⟨n,l⟩:∃n,t.size=n+1:=⟨t.size-1,om⟩;have g:n<t.size:=om;have h:=Z (we g l);have m:(t.extract 0 n).size=n:=by rw[ByteArray.size_extract];omega
  by_cases a:t[n]=33
  .have d:=Z a;have k:(t[n].toNat:Int)=33:=by rw[a];rfl
   clear a;go_wp2;refine⟨⟨t.extract 0 n,rfl,om,?_⟩,by simp only[Z9];omega⟩;rw[<-f.o,h.o,d.o,yQ]
  have d:=Z a;have k:((t[n].toNat:Int)==33)=false:=by rw[iw];intro e;apply a;apply UInt8.toNat_inj.1;grind
  clear a;go_wp2;go_ret;refine⟨t,rfl,?_,rfl⟩;rw[<-f.o,h.o,Gu d.o]
theorem oR(h:E q=E s):q=s:=by cases q;cases s;simp only[E]at h;rw[ByteArray.mk.injEq];exact Array.toList_inj.1 h
theorem mT(l:List UInt8):E ⟨l.toArray⟩=l:=by simp[E]
theorem yR(l:List UInt8)(h:l.length<=120):Calls prog 199 #[.string ⟨l.toArray⟩,.string ⟨#[33]⟩] w λr i=>r=.returned (.string ⟨(bI l).toArray⟩)/\i=w:=by
 cases l with|nil=>have e:bI []=[]:=rfl;rw[e];clear e;go_enter func199,ntmps199;go_wp2;go_ret;exact⟨rfl,rfl⟩|cons a r=>
  have c:=mT (a::r);have b:(⟨(a::r).toArray⟩:ByteArray).size<=120:=by rw[<-ak,c];exact h
  have j:=Z c;have f:=Z b;clear c b;go_enter func199,ntmps199;go_wp2_with fail;refine(Lm ⟨(a::r).toArray⟩ f.o).mono ?_;rintro k m⟨t1,rfl,g,rfl⟩;have d:Hid (t1=⟨(bI (a::r)).toArray⟩):=by grind[oR,mT]
  clear g;go_wp2;go_ret;exact⟨by rw[d.o];rfl,rfl⟩
theorem yS(a:n<q.size)(b:q.size=n+1):(q.extract n (n+1)).toList=[q[n]]:=by
 rw[ByteArray.toList_eq];show E (q.extract n (n+1))=_;have e:E (q.extract n (n+1))=((E q).drop n).take (n+1-n):=by simp[E,List.extract_eq_take_drop]
 rw[e,gv (by rw[List.length_drop,ak];omega)];have c:=we a b;have d:(E (q.extract 0 n)).length=n:=by rw[ak,ByteArray.size_extract];omega
 grind
theorem Gv(h:c≠40):iA (b++[c])=b++[c]:=by simp[iA,h]
theorem Gw(l:List UInt8):iA (l++[40])=l:=by simp[iA]
theorem p_(t:ByteArray)(n:Nat)(c:t.size=n+1)(a:n<t.size)(e:t.size<=120):Calls prog 254 #[.string t,.string ⟨#[40]⟩] w λr d=>r=.returned (.bool (t[n]==40))/\d=w:=by have b:=Z (yS a c);go_enter func254,ntmps254;go_wp2;go_ret;exact⟨kO (by rw[b.o];simp),rfl⟩
theorem wg(t:ByteArray)(n:Nat)(f:t.size=n+1)(a:n<t.size)(h:t.size<=120):Calls prog 200 #[.string t,.string ⟨#[40]⟩] w λr j=>∃t1,r=.returned (.string t1)/\E t1=iA (E t)/\j=w:=by
 have g:=Z (we a f);cases b:(t[n]==40)
 .have d:=Z b;have c:t[n]≠40:=by simpa using b
  have e:=Z c;clear c;clear b;go_enter func200,ntmps200;go_wp2_with(go_at_call 240;go_in);refine(p_ t n f a h).mono ?_;rintro i k⟨rfl,rfl⟩;rw[d.o];go_wp2;go_ret;exact⟨t,rfl,by rw[g.o,Gv e.o],rfl⟩
 have d:=Z b;have c:t[n]=40:=by simpa using b
 have e:=Z c;clear c;clear b;go_enter func200,ntmps200;go_wp2_with(go_at_call 240;go_in);refine(p_ t n f a h).mono ?_;rintro i k⟨rfl,rfl⟩;rw[d.o];go_wp2;go_ret;refine⟨t.extract 0 n,rfl,?_,rfl⟩;rw[g.o,e.o,Gw]
theorem Z_:(Utf8.encode 33).size=1:=de
theorem Z':(Utf8.encode 40).size=1:=de
theorem aaa(l:List UInt8):(⟨l.toArray⟩++Utf8.encode 33:ByteArray)=⟨(l++[UInt8.ofNat 33]).toArray⟩:=by
 apply oR;have e:E (Utf8.encode 33)=[33]:=de;have a:E (⟨l.toArray⟩++Utf8.encode 33)=E ⟨l.toArray⟩++E (Utf8.encode 33):=by simp[E]
 rw[a,e,mT,mT];rfl
theorem aab(l:List UInt8):(⟨l.toArray⟩++Utf8.encode 40:ByteArray)=⟨(l++[UInt8.ofNat 40]).toArray⟩:=by
 apply oR;have e:E (Utf8.encode 40)=[40]:=de;have a:E (⟨l.toArray⟩++Utf8.encode 40)=E ⟨l.toArray⟩++E (Utf8.encode 40):=by simp[E]
 rw[a,e,mT,mT];rfl
theorem Wc(h:bG w n a.st a)(o:a.op.length<=6)(c:Nat)(m:c<256):Calls prog 152 #[pT n,.int .u8 (c:Int)] w (xg n w a.st (gA a c)):=by
 have c0:=h.c0;have c4:=h.c4;have f4:=h.fz 4;have d:=Z h;clear h;by_cases b:c=64
 .have e:gA a c={a with st:=11}:=by simp[gA,b]
  rw[e];have d1:((c:Int)==64)=true:=DH;clear e b;go_enter func152,ntmps152;go_wp2;go_ret;exact⟨rfl,Rg.as (Rg.same d.o) _ rfl rfl rfl rfl⟩
 by_cases g:c=33\/c=40
 .by_cases f:a.op.length=6
  .have e:gA a c={a with st:=1}:=by grind[gA]
   rw[e];have d1:((c:Int)==64)=false:=dH;have j:(⟨a.op.toArray⟩:ByteArray).size=6:=by rw[<-ak,mT];exact f
   have i:a.op.length=6:=f;rcases g with rfl|rfl;all_goals clear e b f;go_enter func152,ntmps152;go_wp2;go_ret;exact⟨rfl,Rg.as (Rg.same d.o) _ rfl rfl rfl rfl⟩
  have e:gA a c={a with st:=10,op:=a.op++[UInt8.ofNat c]}:=by grind[gA]
  rw[e];have d1:((c:Int)==64)=false:=dH;have i:((a.op.length:Int)==6)=false:=dH;rcases g with rfl|rfl;all_goals
   clear e b f;have k:=Z_;have l:=Z';go_enter func152,ntmps152;go_wp2;go_ret;refine⟨rfl,?_⟩;first|rw[aaa]|rw[aab]
   exact Rg.as ((Rg.same d.o).Gq _) _ rfl rfl rfl rfl
 have e:gA a c={a with st:=0}:=by grind[gA]
 rw[e];have d1:((c:Int)==64)=false:=dH;have d2:((c:Int)!=33)=true:=by rw[bne_iff_ne];omega
 have d3:((c:Int)!=40)=true:=by rw[bne_iff_ne];omega
 clear e b g;go_enter func152,ntmps152;go_wp2;go_ret;exact⟨rfl,Rg.as (Rg.same d.o) _ rfl rfl rfl rfl⟩
theorem uD(l:List UInt8):(bI l).length<=l.length:=by unfold bI;rw[List.length_reverse];have a:(l.reverse.dropWhile λx=>x==33).length<=l.reverse.length:=(List.dropWhile_suffix _).length_le;grind
theorem uE(h:bG w n a.st a)(L:a.op.length<=6)(c:Nat)(C:c<256):Calls prog 153 #[pT n,.int .u8 (c:Int)] w (xg n w a.st (bw a c)):=by
 have t:a.op.length<=120:=om;have c0:=h.c0;have c4:=h.c4;have f4:=h.fz 4;have p:=Z h;clear h;obtain⟨o,A⟩:∃o,o=bw a c:=⟨_,rfl⟩;rw[<-A];have i:=Z A;clear A;go_enter func153,ntmps153;go_wp2_with fail;refine(yR a.op t).mono ?_;rintro r M⟨rfl,rfl⟩;have f:=Z ((Rg.same p.o).Gq (bI a.op));by_cases k:c=38
 .have e:o={a with st:=19,op:=bI a.op}:=by rw[i.o];clear i f p;grind[bw]
  subst e;have d1:((c:Int)==38)=true:=DH;go_wp2;go_ret;exact⟨rfl,Rg.as f.o _ rfl rfl rfl rfl⟩
 by_cases g:c=124
 .have e:o={a with st:=20,op:=bI a.op}:=by rw[i.o];clear i f p;grind[bw]
  subst e;have d1:((c:Int)==38)=false:=dH;have d2:((c:Int)==124)=true:=DH;go_wp2;go_ret;exact⟨rfl,Rg.as f.o _ rfl rfl rfl rfl⟩
 by_cases l:c=41
 .cases d:bI a.op with|nil=>
   have e:o=bN {a with op:=[]} c:=by rw[i.o];clear i f p;grind[bw]
   subst e;have d1:((c:Int)==38)=false:=dH;have d2:((c:Int)==124)=false:=dH;have d3:((c:Int)==41)=true:=DH;clear k g l;rw[d]at f;go_wp2_with fail;refine mo (kn (g:={a with op:=[]}) (by exact f.o.m) c C) λF u=>?_;have y:=Z (f.o.trans u);clear u;generalize bN {a with op:=[]} c=H at*;go_wp2;go_ret;exact⟨rfl,y.o⟩|cons b m=>
   have B:bI a.op≠[]:=by rw[d];simp
   have e:o={a with st:=18,op:=iA (bI a.op)}:=by rw[i.o];clear i f p;grind[bw]
   subst e;have d1:((c:Int)==38)=false:=dH;have d2:((c:Int)==124)=false:=dH;have d3:((c:Int)==41)=true:=DH;clear k g l;have z:=f.o.m.c4;have f41:=f.o.m.fz 4;have s:=mT (bI a.op);have v:(⟨(bI a.op).toArray⟩:ByteArray).size=m.length+1:=by rw[<-ak,s,d];rfl
   have D:m.length+1<=6:=by have:=uD a.op;rw[d]at this;simp at this;omega
   have x:=Z s;have j:=Z v;have q:=Z d;clear s v;rw[d]at x j f z f41;simp only;clear d;go_wp2_with fail;refine(wg ⟨(b::m).toArray⟩ m.length j.o (by rw[j.o];omega) (by rw[j.o];omega)).mono ?_;rintro r F⟨t1,rfl,J,rfl⟩;have K:t1=⟨(iA (b::m)).toArray⟩:=by grind[oR,mT]
   subst K;clear J;go_wp2;go_ret;refine⟨rfl,Rg.as (g:={a with op:=iA (b::m)}) ?_ _ rfl rfl rfl (by rw[q.o])⟩;first|exact(Rg.same p.o).Gq (iA (b::m))|exact f.o.Gq (iA (b::m))
 cases d:bI a.op with|nil=>
  have e:o=bN {a with op:=[]} c:=by rw[i.o];clear i f p;grind[bw]
  subst e;have d1:((c:Int)==38)=false:=dH;have d2:((c:Int)==124)=false:=dH;have d3:((c:Int)==41)=false:=dH;clear k g l;rw[d]at f;go_wp2_with fail;refine mo (kn (g:={a with op:=[]}) (by exact f.o.m) c C) λF u=>?_;have y:=Z (f.o.trans u);clear u;generalize bN {a with op:=[]} c=H at*;go_wp2;go_ret;exact⟨rfl,y.o⟩|cons b m=>
  have B:bI a.op≠[]:=by rw[d];simp
  have e:o={a with st:=0,op:=bI a.op}:=by rw[i.o];clear i f p;grind[bw]
  subst e;have d1:((c:Int)==38)=false:=dH;have d2:((c:Int)==124)=false:=dH;have d3:((c:Int)==41)=false:=dH;clear k g l;have q:=Z d;rw[d];rw[d]at f;clear d;go_wp2;go_ret;refine⟨rfl,Rg.as f.o _ rfl rfl rfl q.o⟩
theorem Gx(h:bG w n a.st a)(v:a.op.length<=6)(c:Nat)(u:c<256):Calls prog 154 #[pT n,.int .u8 (c:Int)] w (xg n w a.st (eo a c)):=by
 have c0:=h.c0;have f:=Z h;clear h;obtain⟨s,e⟩:∃x,x=c:=⟨_,rfl⟩;obtain⟨m,d⟩:∃x,x=a:=⟨_,rfl⟩;have t:m.st=a.st:=by rw[d]
 obtain⟨p,b⟩:∃x,eo m s=x:=⟨_,rfl⟩;rw[show eo a c=p by rw[<-e,<-d];exact b];unfold eo at b;repeat' split at b
 all_goals(rcases iq c 46 with⟨d0,g⟩|⟨d0,g⟩<;>try omega)
 all_goals(rcases iq c 91 with⟨d1,i⟩|⟨d1,i⟩<;>try omega)
 all_goals(rcases iq c 61 with⟨d2,j⟩|⟨d2,j⟩<;>try omega)
 all_goals(rcases iq c 33 with⟨d3,k⟩|⟨d3,k⟩<;>try omega)
 all_goals(rcases iq c 60 with⟨d4,l⟩|⟨d4,l⟩<;>try omega)
 all_goals have H:=Z (db e (db d b));clear e d t b g i j k l;go_enter func154,ntmps154;go_wp2_with fail;first|((first|refine(uE f.o v c u).mono ?_);rintro r y⟨rfl,o⟩;have q:=Z o;clear o;go_wp2;go_ret;obtain⟨rfl,rfl,rfl⟩:=H.o;exact⟨rfl,q.o⟩)|(go_ret;obtain⟨rfl,rfl,rfl⟩:=H.o;exact⟨rfl,Rg.as (Rg.same f.o) _ rfl rfl rfl rfl⟩)
theorem uF{g:G}(h:bG w n g.st g)(m:g.op.length<=6)(c:Nat)(b:c<256):Calls prog 112 #[pT n,.int .u8 (c:Int)] w (xg n w g.st (aJ g c)):=by
 have c0:=h.c0;have a:=Z h;clear h;obtain⟨J,l⟩:∃x,x=c:=⟨_,rfl⟩;obtain⟨B,k⟩:∃x,x=g:=⟨_,rfl⟩;have K:B.st=g.st:=by rw[k]
 obtain⟨D,j⟩:∃x,aJ B J=x:=⟨_,rfl⟩;rw[show aJ g c=D by rw[<-l,<-k];exact j];unfold aJ at j;repeat' split at j
 all_goals(rcases iq g.st 2 with⟨d0,o⟩|⟨d0,o⟩<;>try omega)
 all_goals(rcases iq g.st 3 with⟨d1,p⟩|⟨d1,p⟩<;>try omega)
 all_goals(rcases iq g.st 4 with⟨d2,q⟩|⟨d2,q⟩<;>try omega)
 all_goals(rcases iq g.st 5 with⟨d3,s⟩|⟨d3,s⟩<;>try omega)
 all_goals(rcases iq g.st 6 with⟨d4,t⟩|⟨d4,t⟩<;>try omega)
 all_goals(rcases iq g.st 7 with⟨d5,u⟩|⟨d5,u⟩<;>try omega)
 all_goals(rcases iq g.st 8 with⟨d6,v⟩|⟨d6,v⟩<;>try omega)
 all_goals(rcases iq g.st 9 with⟨d7,y⟩|⟨d7,y⟩<;>try omega)
 all_goals(rcases iq g.st 10 with⟨d8,z⟩|⟨d8,z⟩<;>try omega)
 all_goals(rcases iq g.st 18 with⟨d9,A⟩|⟨d9,A⟩<;>try omega)
 all_goals(rcases iq g.st 11 with⟨d10,d⟩|⟨d10,d⟩<;>try omega)
 all_goals(rcases iq g.st 15 with⟨d11,e⟩|⟨d11,e⟩<;>try omega)
 all_goals(rcases iq g.st 16 with⟨d12,f⟩|⟨d12,f⟩<;>try omega)
 all_goals(rcases iq g.st 17 with⟨d13,i⟩|⟨d13,i⟩<;>try omega)
 all_goals have H:=Z (db l (db k j));clear l k K j o p q s t u v y z A d e f i;go_enter func112,ntmps112;go_wp2_with fail;first|((first|refine(Gr a.o c b).mono ?_|refine(Bg a.o c b).mono ?_|refine(kn a.o c b).mono ?_|refine(Wc a.o m c b).mono ?_|refine(uE a.o m c b).mono ?_|refine(Gx a.o m c b).mono ?_|refine(Bf a.o c b).mono ?_|refine(Ll a.o c b).mono ?_);rintro r L⟨rfl,C⟩;have F:=Z C;clear C;go_wp2;go_ret;obtain⟨rfl,rfl,rfl⟩:=H.o;exact⟨rfl,F.o⟩)|(go_ret;obtain⟨rfl,rfl,rfl⟩:=H.o;exact⟨rfl,Rg.as (Rg.same a.o) _ rfl rfl rfl rfl⟩)
structure jP(g:G):Prop where
 bh:g.bh<=20
 op:g.op.length<=6
 sz:g.sz<=8
 rs:g.st=24->g.rs≠[]rl:g.rs.length<=4
def Bh(b:Nat)(w:World)(g:G)(r:Ending)(a:World):Prop:=∃x,xg b w x g r a
theorem Rg.Wd(h:Rg n w.drew k a v):Rg n w k a v:=⟨h.m,⟨h.f.os,h.f.tape,h.f.output,h.f.size,h.f.block⟩⟩
theorem Qz(a:UInt8)(b:List UInt8):E ((⟨(a::b).toArray⟩:ByteArray).extract 1 (b.length+1))=b:=by simp[E,List.extract_eq_take_drop]
theorem Ln{x:Nat}{g:G}(h:bG w n x g)(t:ByteArray)(l:List UInt8)(c:E t=l)(k:Nat)(a:Int)(b:a=k):Calls prog 146 #[pT n,.string t,.int .i64 a] w (xg n w x (dQ g l k)):=by subst c;have e:t=⟨(E t).toArray⟩:=oR (mT (E t)).symm;have:=DU h (E t) k a b;rw[<-e]at this;exact this
theorem jK(h:bG w n a.st a)(m:a.sz<=8)(c:Nat)(j:c<256):Calls prog 145 #[pT n,.int .u8 (c:Int)] w λr l=>r=.returned (.bool (cd a c))/\l=w:=by
 have c0:=h.c0;have c2:=h.c2;clear h;by_cases b:a.st=21
 .have e:cd a c=(isLet c&&decide (a.sz<8)):=by simp[cd,b]
  rw[e];have d1:((a.st:Int)==21)=true:=DH;cases g:isLet c;all_goals have i:=Z g;clear e b g;go_enter func145,ntmps145;go_wp2_with fail;refine(nf c j).mono ?_;rintro r k⟨rfl,rfl⟩;rw[i.o];go_wp2;go_ret;exact⟨kO (by first|rfl|(simp;omega)),rfl⟩
 have d1:((a.st:Int)==21)=false:=dH;by_cases d:a.st=22
 .have e:cd a c=(O c&&decide (a.sz<3)):=by simp[cd,d]
  rw[e];have d2:((a.st:Int)==22)=true:=DH;cases g:O c;all_goals have i:=Z g;clear e b d g;go_enter func145,ntmps145;go_wp2_with fail;refine(Gn c j).mono ?_;rintro r k⟨rfl,rfl⟩;rw[i.o];go_wp2;go_ret;exact⟨kO (by first|rfl|(simp;omega)),rfl⟩
 have d2:((a.st:Int)==22)=false:=dH;by_cases f:a.st=23
 .have e:cd a c=(aR c&&decide (a.sz<8)):=by simp[cd,f]
  rw[e];have d3:((a.st:Int)==23)=true:=DH;cases g:aR c;all_goals have i:=Z g;clear e b d f g;go_enter func145,ntmps145;go_wp2_with fail;refine(Be c j).mono ?_;rintro r k⟨rfl,rfl⟩;rw[i.o];go_wp2;go_ret;exact⟨kO (by first|rfl|(simp;omega)),rfl⟩
 have e:cd a c=false:=by simp[cd,b,d,f]
 rw[e];have d3:((a.st:Int)==23)=false:=dH;clear e b d f;go_enter func145,ntmps145;go_wp2;go_ret;exact⟨rfl,rfl⟩
theorem tG(h:bG w n a.st a)(j:jP a)(c:Nat)(g:c<256)(b:cd a c=true):Calls prog 111 #[pT n,.int .u8 (c:Int)] w (Bh n w (aU a c)):=by
 have e:aU a c={a with sz:=a.sz+1}:=by simp[aU,b]
 rw[e];have i:=j.sz;have c0:=h.c0;have c2:=h.c2;have f2:=h.fz 2;have d:=Z h;have f:=Z b;clear h b e;go_enter func111,ntmps111;go_wp2_with fail;refine(jK d.o i c g).mono ?_;rintro r k⟨rfl,rfl⟩;rw[f.o];go_wp2;go_ret;exact⟨a.st,rfl,Rg.as ((Rg.same d.o).Gp (a.sz+1)) _ rfl rfl rfl rfl⟩
theorem Bi(h:bG w n a.st a)(l:jP a)(c:Nat)(j:c<256)(f:cd a c=false)(d:a.st=23):Calls prog 111 #[pT n,.int .u8 (c:Int)] w (Bh n w (aU a c)):=by
 have k:=l.sz;have c0:=h.c0;have c1:=h.c1;have c2:=h.c2;have g:=Z h;have i:=Z f;have d1:((a.st:Int)==23)=true:=DH;have d2:((a.st:Int)==24)=false:=dH;have d3:((a.st:Int)==25)=false:=dH;have d4:((a.st:Int)==21)=false:=dH;have d5:((a.st:Int)==22)=false:=dH;by_cases b:c=39;focus
  have e:aU a c={a with st:=a.bh}:=by unfold aU;rw[aa (by rw[f];simp),ae ⟨d,b⟩]
  rw[e];have d6:((c:Int)==39)=true:=DH
 rotate_left;focus
  have e:aU a c={a with st:=0}:=by unfold aU;rw[aa (by rw[f];simp),aa λx=>b x.2,aa λx=>by have:=x.1;omega,aa λx=>by have:=x.1;omega,aa om]
  rw[e];have d6:((c:Int)==39)=false:=dH
 all_goals clear h f e d b;go_enter func111,ntmps111;go_wp2_with fail;refine(jK g.o k c j).mono ?_;rintro r m⟨rfl,rfl⟩;rw[i.o];go_wp2;go_ret;exact⟨a.st,rfl,Rg.as (Rg.same g.o) _ rfl rfl rfl rfl⟩
theorem Bj(h:bG w n a.st a)(l:jP a)(c:Nat)(p:c<256)(j:cd a c=false)(i:a.st=24):Calls prog 111 #[pT n,.int .u8 (c:Int)] w (Bh n w (aU a c)):=by
 have s:=l.sz;have k:=l.rl;obtain⟨b,f,d⟩:∃b f,a.rs=b::f:=by cases u:a.rs with|nil=>exact absurd u (l.rs i)|cons b f=>exact⟨b,f,rfl⟩
 have c0:=h.c0;have c1:=h.c1;have c2:=h.c2;have c3:=h.c3;rw[d]at c3 k;have m:=Z h;have o:=Z j;have d1:((a.st:Int)==23)=false:=dH;have d2:((a.st:Int)==24)=true:=DH;have d3:((a.st:Int)==25)=false:=dH;have d4:((a.st:Int)==21)=false:=dH;have d5:((a.st:Int)==22)=false:=dH;simp only[List.length_cons]at k;have z:∀(h:0<(⟨(b::f).toArray⟩:ByteArray).size),((⟨(b::f).toArray⟩:ByteArray)[0]'h).toNat=b.toNat:=λ_=>rfl;by_cases g:c=b.toNat
 .have e:aU a c=dQ a f a.bh:=by unfold aU;rw[aa (by rw[j];simp),aa λx=>by have:=x.1;omega,ae ⟨i,by rw[d];exact g⟩,d];rfl
  rw[e];subst g;clear h j e i d l;go_enter func111,ntmps111;go_wp2_with fail;refine(jK m.o s b.toNat p).mono ?_;rintro r v⟨rfl,rfl⟩;rw[o.o];go_wp2_with fail;go_region_with(go_at_call 146;refine(Ln (g:=a) (x:=a.st) (by exact m.o) _ f (Qz b f) a.bh _ rfl).mono ?_;rintro r A⟨rfl,q⟩);all_goals have t:=Z q.Wd;clear q;generalize dQ a f a.bh=y at*;go_wp2;go_ret;exact⟨a.st,rfl,t.o⟩
 have e:aU a c={a with st:=0}:=by unfold aU;rw[aa (by rw[j];simp),aa λx=>by have:=x.1;omega,aa λx=>g (by have:=x.2;rw[d]at this;exact this),aa λx=>by have:=x.1;omega,aa om]
 rw[e];have d6:((c:Int)==(b.toNat:Int))=false:=dH;clear h j e i g d l;go_enter func111,ntmps111;go_wp2_with fail;refine(jK m.o s c p).mono ?_;rintro r v⟨rfl,rfl⟩;rw[o.o];go_wp2;go_ret;exact⟨a.st,rfl,Rg.as (Rg.same m.o) _ rfl rfl rfl rfl⟩
theorem Bk(h:bG w n a.st a)(p:jP a)(c:Nat)(f:c<256)(g:cd a c=false)(d:a.st=25):Calls prog 111 #[pT n,.int .u8 (c:Int)] w (Bh n w (aU a c)):=by
 have m:=p.sz;have c0:=h.c0;have c1:=h.c1;have c2:=h.c2;have i:=Z h;have k:=Z g;have d1:((a.st:Int)==23)=false:=dH;have d2:((a.st:Int)==24)=false:=dH;have d3:((a.st:Int)==25)=true:=DH;have d4:((a.st:Int)==21)=false:=dH;have d5:((a.st:Int)==22)=false:=dH;by_cases b:O c=true/\c≠48
 .have e:aU a c=bJ a c a.bh:=by unfold aU;rw[aa (by rw[g];simp),aa λx=>by have:=x.1;omega,aa λx=>by have:=x.1;omega,ae ⟨d,b.1,b.2⟩]
  rw[e];have HK:Hid (bL c=3):=by
   unfold Hid bL;have:isLet c=false:=by have:=b.1;simp[O]at this;simp[isLet];omega
   simp[this,b.1,b.2]
  clear h g e d b;go_enter func111,ntmps111;go_wp2_with fail;refine(jK i.o m c f).mono ?_;rintro r j⟨rfl,rfl⟩;rw[k.o];go_wp2_with fail;refine(dN c f).mono ?_;rintro r j⟨rfl,rfl⟩;rw[HK.o];go_wp2_with fail;refine mh (qL i.o c f a.bh _ rfl) λt o=>?_;generalize bJ a c a.bh=q at*;go_wp2;go_ret;exact⟨a.st,rfl,o.o⟩
 have e:aU a c={a with st:=0}:=by unfold aU;rw[aa (by rw[g];simp),aa λx=>by have:=x.1;omega,aa λx=>by have:=x.1;omega,aa λx=>b x.2,aa om]
 rw[e];have d6:((bL c:Int)==3)=false:=by
  rw[iw];intro s;have l:bL c=3:=om;apply b;unfold bL at l;repeat' split at l
  all_goals(first|omega|(constructor<;>assumption))
 clear h g e d b;go_enter func111,ntmps111;go_wp2_with fail;refine(jK i.o m c f).mono ?_;rintro r j⟨rfl,rfl⟩;rw[k.o];go_wp2_with fail;refine(dN c f).mono ?_;rintro r j⟨rfl,rfl⟩;go_wp2;go_ret;exact⟨a.st,rfl,Rg.as (Rg.same i.o) _ rfl rfl rfl rfl⟩
theorem Bl(h:bG w n a.st a)(k:jP a)(c:Nat)(j:c<256)(f:cd a c=false)(b:a.st=21\/a.st=22):Calls prog 111 #[pT n,.int .u8 (c:Int)] w (Bh n w (aU a c)):=by
 have p:=k.sz;have g:=k.op;have c0:=h.c0;have c1:=h.c1;have c2:=h.c2;have f0:=h.fz 0;have d:=Z h;have m:=Z f;have d1:((a.st:Int)==23)=false:=dH;have d2:((a.st:Int)==24)=false:=dH;have d3:((a.st:Int)==25)=false:=dH;have e:aU a c=aJ {a with st:=a.bh} c:=by unfold aU;rw[aa (by rw[f];simp),aa λx=>by have:=x.1;omega,aa λx=>by have:=x.1;omega,aa λx=>by have:=x.1;omega,ae b]
 rw[e];have o:Hid (bG (w.setCell (aD n 0) (.int .i64 a.bh)) n ({a with st:=a.bh}:G).st {a with st:=a.bh}):=by have:=d.o.Li a.bh;exact this
 have l:=Z ((Rg.same d.o).Li a.bh).f;rcases b with b|b;all_goals
  have d4:((a.st:Int)==21)=decide (a.st=21):=by rw[Bool.eq_iff_iff];simp;omega
  have d5:((a.st:Int)==22)=decide (a.st=22):=by rw[Bool.eq_iff_iff];simp;omega
  simp only[b]at d4 d5;rw[<-b]at d4 d5;simp at d4 d5;clear h f e b;go_enter func111,ntmps111;go_wp2_with fail;refine(jK d.o p c j).mono ?_;rintro r s⟨rfl,rfl⟩;rw[m.o];go_wp2_with fail;refine mh (uF (g:={a with st:=a.bh}) o.o g c j) λt i=>?_;generalize aJ {a with st:=a.bh} c=q at*;go_wp2;go_ret;exact⟨a.bh,rfl,i.o.m,l.o.trans i.o.f⟩
theorem Lo(h:bG w n a.st a)(e:jP a)(c:Nat)(b:c<256)(j:21<=a.st/\a.st<=25):Calls prog 111 #[pT n,.int .u8 (c:Int)] w (Bh n w (aU a c)):=by
 cases d:cd a c
 .by_cases f:a.st=21\/a.st=22;.exact Bl h e c b d f
  by_cases g:a.st=23;.exact Bi h e c b d g
  by_cases i:a.st=24;.exact Bj h e c b d i
  exact Bk h e c b d om
 exact tG h e c b d
