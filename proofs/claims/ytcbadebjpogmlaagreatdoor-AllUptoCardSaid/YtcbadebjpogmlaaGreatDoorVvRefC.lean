import Derived.Deep.Cut
import Derived.Test.YtcbadebjpogmlaaGreatDoorVvPlain
set_option maxHeartbeats 2000000
set_option maxRecDepth 100000
namespace Go.Proofs.YtcbadebjpogmlaaGreatDoor
open Go.RowKit Tr Go.Proofs.Tryz
def dv(s:List UInt8)(p:Nat):Nat->Nat|0=>0|k+1=>10*dv s p k+(bt s (p+k)-48)
variable{d:List UInt8}{n k i:Nat}
theorem Ed:∀k,run O d k n=n+k->dv d n k+1<=10^k
 |0,_=>by simp[dv]|k+1,h=>by
  have a:run O d k n=n+k:=by grind[iD,jJ,O]
  have b:O (bt d (n+k))=true:=gL O d (k+1) n (n+k) om om;have:=Ed k a;grind[dv,O]
def oB(s:List UInt8)(u T:St)(a:Bool):Int:=if u.e=0 then(if a=true then-(dv s T.p (u.p-T.p):Int)else(dv s T.p (u.p-T.p):Int))else 0
variable{b m:St}
theorem QO:¬(wrong b 2).e=0:=by unfold wrong;split;simp;assumption
theorem wv:(wrong b n).p=b.p:=by unfold wrong;split<;>rfl
variable{w v u:World}{q:ByteArray}
theorem LY{a f:Bool}(h:bB w n q b)(hs:q.size<=120)(hpT:m.p<=q.size)(hu:(a=false/\m=b/\f=false)\/(a=true/\has (E q) b 45=m/\ar (E q) b 45=f)):Calls prog 120 #[pT n,.bool a] w λr w'=>r=.returned (.int .i64 (oB (E q) (bu (E q) m f) m f))/\Rd n q w (bu (E q) m f) w':=by
 have s:=Z (Rd.same h);have A:=Z hu;clear h hu;go_enter func120,ntmps120;go_upto_if 10 with fail;go_cut[5]from 11λx wc=>x=.bool f/\Rd n q w m wc;case first=>
  rcases A.o with⟨rfl,rfl,rfl⟩|⟨rfl,T,h2⟩;.go_wp2;go_meet;exact⟨rfl,s.o⟩
  have H1:=Z T;have H2:=Z h2;clear T h2 A;go_wp2_with fail;refine mo (kM s.o.m 45 45 rfl om hs) λv0 g0=>?_;rw[H2.o];rw[H1.o]at g0;have R:=Z (s.o.trans g0);clear g0;go_wp2;go_meet;exact⟨rfl,R.o⟩
 case rest=>
 obtain⟨rfl,v⟩:=hcut;have R:=Z v;clear v s A;go_wp2_with fail;refine mo (j4 R.o.m) λv1 g1=>?_;have G1:=Z (R.o.trans g1);clear g1;obtain⟨d,t⟩:∃d,digit (E q) m=d:=⟨_,rfl⟩;obtain⟨z,hz⟩:∃z,ar (E q) m 48=z:=⟨_,rfl⟩;rw[t];have L:=Z t;have D:=Z hz;clear t hz;go_wp2_with fail;refine mo (eI G1.o.m 48 48 rfl om) λv2 g2=>?_;rw[D.o];have P:=Z (G1.o.trans g2);clear g2;go_upto_region 6 with fail;go_cut[24]from 17λx wc=>x=.bool (!d||(f&&z))/\wc=v2;case first=>cases d<;>cases z<;>cases f<;>(go_wp2;go_meet;exact⟨rfl,rfl⟩)
 case rest=>
 obtain⟨rfl,hw⟩:=hcut;have hw:=hw.symm;subst hw;obtain⟨B,K⟩:∃B,(!d||(f&&z))=B:=⟨_,rfl⟩;rw[K];cases B
 .have t:d=true:=by cases d<;>simp at K⊢
  subst t;have N:O (bt (E q) m.p)=true/\m.e=0:=by have t:=L.o;simp[digit]at t;exact⟨t.2,t.1⟩
  have S:=Z N;clear N;cases z
  .have H:Hid (bu (E q) m f=eF O (E q) 3 m):=by unfold Hid bu;rw[aa (by simp[L.o,D.o]),aa (by simp[D.o])]
   clear K;go_wp2;go_loopw[6,8,9]λ_ c k wr=>∃j:Nat,j<=3/\k=.int .i64 j/\c=.int .i64 (dv (E q) m.p j:Nat)/\run O (E q) j m.p=m.p+j/\Rd n q w {m with p:=m.p+j} wrλ_ _ k _=>3-(intOf k).toNat;case atStart=>exact⟨0,om,rfl,rfl,rfl,P.o⟩
   case round=>
    obtain⟨j,hj,rfl,rfl,y,v⟩:=hrel;have p:=Z v;have hle:m.p+j<=q.size:=by grind[ak,eZ,oo,E,O]
    have J:=Z y;clear v y;by_cases G:j<3
    .cases u:digit (E q) {m with p:=m.p+j}
     .have HB:=Z u;have HS:=Z (my (ok:=O) (s:=E q) (K:=3) hj (Y S.o.2) J.o (I (by grind[digit])));clear u;have C:Hid (oB (E q) {m with p:=m.p+j} m f=if f=true then-(dv (E q) m.p j:Int)else(dv (E q) m.p j:Int)):=by unfold Hid oB;rw[ae (by exact S.o.2)];simp
      have M:(dv (E q) m.p j:Int)<1000:=by have U:=Ed j J.o;have:10^j<=10^3:=Nat.pow_le_pow_right om om;omega
      generalize dv (E q) m.p j=dj at*;go_wp2_with fail;refine mo (j4 p.o.m) λW o=>?_;rw[HB.o];have g:=Z (p.o.trans o);clear o;cases f;all_goals go_wp2;go_ret;rw[H.o,HS.o];refine⟨?_,g.o⟩;rw[C.o];rfl
     have HB:=Z u;have l:O (bt (E q) (m.p+j))=true:=by simp[digit]at u;exact u.2
     have F:m.p+j<q.size:=by have:=cQ (eZ l);rw[ak]at this;exact this
     have i:bt (E q) (m.p+j)=q[m.p+j].toNat:=dY F;have hlo:48<=(q[m.p+j].toNat:Int):=by simp[O,i]at l;omega
     have hhi:(q[m.p+j].toNat:Int)<=57:=by simp[O,i]at l;omega
     have C:Hid ((10*(dv (E q) m.p j:Int)+((q[m.p+j].toNat:Int)-48))=((dv (E q) m.p (j+1):Nat):Int)):=by unfold Hid;simp only[dv,i];omega
     have HM:=Z (r_ J.o l);have M:(dv (E q) m.p j:Int)<100:=by have U:=Ed j J.o;have:10^j<=10^2:=Nat.pow_le_pow_right om om;omega
     clear u l i;generalize dv (E q) m.p j=dj at*;have HP:Hid (m.p+(j+1)=m.p+j+1):=rfl;rw[HP.o]at HM;generalize m.p+j=e at*;go_wp2_with fail;refine mo (j4 p.o.m) λW o=>?_;rw[HB.o];have g:=Z (p.o.trans o);have q0:=g.o.m.c0;have q1:=g.o.m.c1;have qz:=g.o.m.fz 1;simp only at q1;clear o;go_wp2;go_quiet(fail);go_wp2;go_roundw;case rel=>
      refine⟨j+1,om,by go_num,by rw[<-C.o],?_,?_⟩;.rw[HP.o];exact HM.o
      rw[HP.o];exact(g.o.drewN _).kI (e+1)
     case measure=>simp[intOf];omega
    have U:j=3:=om;subst U;have HS:=Z (my (ok:=O) (s:=E q) (K:=3) hj (Y S.o.2) J.o (Y rfl));have C:Hid (oB (E q) {m with p:=m.p+3} m f=if f=true then-(dv (E q) m.p 3:Int)else(dv (E q) m.p 3:Int)):=by unfold Hid oB;rw[ae (by exact S.o.2)];simp
    have M:(dv (E q) m.p 3:Int)<1000:=by have U:=Ed 3 J.o;omega
    generalize dv (E q) m.p 3=dj at*;have g:=p;cases f;all_goals go_wp2;go_ret;rw[H.o,HS.o];refine⟨?_,g.o⟩;rw[C.o];rfl
  have hn:f=false:=by cases f<;>simp at K⊢
  subst hn;have H:Hid (bu (E q) m false=aH m):=by unfold Hid bu;rw[aa (by simp[L.o]),ae D.o]
  clear K;go_wp2;go_loopw[6,8,9]λ_ c k wr=>∃j:Nat,j<=1/\k=.int .i64 j/\c=.int .i64 0/\Rd n q w {m with p:=m.p+j} wrλ_ _ k _=>3-(intOf k).toNat;case atStart=>exact⟨0,om,rfl,rfl,P.o⟩
  case round=>
   obtain⟨j,hj,rfl,rfl,v⟩:=hrel;have p:=Z v;clear v;by_cases G:j=0
   .subst G;have l:bt (E q) m.p=48:=by have:=D.o;simp[ar]at this;exact this.2
    have F:m.p<q.size:=by have:=cQ (s:=E q) (p:=m.p) om;rw[ak]at this;exact this
    have i:(q[m.p].toNat:Int)=48:=by have:=dY F;omega
    clear l;go_wp2_with fail;refine mo (j4 p.o.m) λW o=>?_;have e0:digit (E q) {m with p:=m.p+0}=true:=L.o;rw[e0];have g:=Z (p.o.trans o);have q0:=g.o.m.c0;have q1:=g.o.m.c1;have qz:=g.o.m.fz 1;simp only[Nat.add_zero]at q1;clear o e0;go_wp2;go_quiet(fail);go_wp2;go_roundw;case rel=>exact⟨1,om,by go_num,rfl,(g.o.drewN _).kI (m.p+1)⟩
    case measure=>simp[intOf]
   have T:j=1:=om;subst T;have C:Hid (oB (E q) (aH m) m false=0):=by have:=D.o;simp[ar]at this;unfold Hid oB aH;simp[dv,this.2]
   clear G;go_wp2_with fail;refine mo (j4 p.o.m) λW o=>?_;have g:=Z (p.o.trans o);clear o;cases u:digit (E q) {m with p:=m.p+1};iterate 2 clear u;go_wp2;go_ret;rw[H.o,C.o];exact⟨rfl,g.o⟩
 have H:Hid (bu (E q) m f=wrong m 2):=by unfold Hid bu;rw[ae];rw[L.o,D.o];grind
 clear K;go_wp2_with fail;refine mo (qK P.o.m 2 2 rfl) λW o=>?_;have g:=Z (P.o.trans o);clear o;go_wp2;go_ret;rw[H.o];refine⟨?_,g.o⟩;unfold oB;rw[aa QO];rfl
theorem Wl(a:n<256)(h:b.p<=d.length):(has d b n).p<=d.length:=by grind(splits:=30)[aH,bt,has,ar]
def fy(s:List UInt8)(t:St)(m:Bool):Int:=oB s (countP s t m) (d_ s t m) (m&&ar s t 45)
theorem qO(h:bB w n q b)(m:Bool)(a:q.size<=120)(d:b.p<=q.size):Calls prog 120 #[pT n,.bool m] w λr c=>r=.returned (.int .i64 (fy (E q) b m))/\Rd n q w (countP (E q) b m) c:=by
 have e:fy (E q) b m=oB (E q) (bu (E q) (d_ (E q) b m) (m&&ar (E q) b 45)) (d_ (E q) b m) (m&&ar (E q) b 45):=rfl;rw[e];refine LY h a ?_ ?_;.grind[ak,Wl,E,d_]
 cases m;.exact Y ⟨rfl,rfl,rfl⟩
 exact I ⟨rfl,rfl,si⟩
variable{j:Nat->Prop}{a:TypeId}{g:Value}{f:List Value}
theorem aS(h:w.ownsRow n a k g i f)(b:Fr j w v)(p:∀c,n<=c->¬j c):v.ownsRow n a k g i f:=by
 refine⟨h.1,?_⟩;rcases h.2 with o|⟨c,d,e,q,l,m,r⟩;.exact Y o
 exact I ⟨c,d,e,q,l,(b.block c (bo m) (p c l)).trans m,r⟩
variable{l:Option Nat}
theorem Fr.grown{w':World}(h:Fr j w v)(a:v.grownBy w' l)(d:∀k,l=some k->w.heap.size<=k\/j k):Fr j w w':=⟨a.os.trans h.os,a.tape.trans h.tape,a.output.trans h.output,az h.size a.size,λk c b=>by rw[a.block k (aI c h.size) λe=>by rcases d k e.symm with x|x;omega;exact b x];exact h.block k c b⟩
theorem Rd.grown(h:Rd n q w b v)(a:v.grownBy u l)(f:n<w.heap.size)(c:∀k,l=some k->w.heap.size<=k):Rd n q w b u:=⟨(a.block n h.m.lt λe=>by have:=c n e.symm;omega).trans h.m,h.f.grown a λk d=>Y (c k d)⟩
theorem X(h:w.ownsRow n a k g i f):∃b c,g=.slice b i c:=by
 rcases h.2 with⟨l,m⟩|⟨d,e,j,o,_⟩;.subst m;exact⟨_,_,l⟩
 exact⟨_,_,o⟩
theorem gM(h:v.ownsRow w.heap.size a k g i f)(c:Rd n q v b u)(j:n<w.heap.size):u.ownsRow w.heap.size a k g i f:=aS h c.f λd l e=>by unfold PB at e;omega
theorem zp(s:List UInt8)(t:St):t.p<=(bH s t).p:=by grind[fN,bH]
theorem Wm(s:List UInt8)(t:St)(b:Nat):t.p<=(has s t b).p:=by unfold has;split;simp[aH];exact aP _
theorem zq(s:List UInt8)(t:St)(b:Nat):t.p<=(aK s t b).p:=by grind[wv,aH,aK]
theorem GJ(s:List UInt8)(t:St)(m:Bool):t.p<=(bu s t m).p:=by grind[fN,wv,aH,bu,eF]
theorem GK(s:List UInt8)(t:St)(m:Bool):t.p<=(countP s t m).p:=by grind[GJ,Wm,countP,d_]
theorem Tryz.LZ:(prog.info? 292).map (λi=>(i.zero,i.size,i.bytes))=some (some (.agg #[.string ⟨#[]⟩,.int .i64 0,.bool false]),3,32):=by kernel_rfl
theorem QQ(s:List UInt8)(t:St):aO s t (nb ⟨#[93]⟩)=aK s t 93:=rfl
theorem QR:nb ⟨#[116,114,117,101]⟩=([116,114,117,101]:List UInt8).map UInt8.toNat:=rfl
theorem L6:nb ⟨#[102,97,108,115,101]⟩=([102,97,108,115,101]:List UInt8).map UInt8.toNat:=rfl
theorem QS:nb ⟨#[110,117,108,108]⟩=([110,117,108,108]:List UInt8).map UInt8.toNat:=rfl
theorem BC{t:St}{b:Nat}(h:ar d t n=true)(a:n≠b):ar d t b=false:=by grind[aF,aL]
def V(w:World)(g:Nat)(a:Array Value)(T:TypeId):Prop:=w.heap[g]?=some (.cells a T)
variable{c:Array Value}
theorem V.lt(h:V w n c a):n<w.heap.size:=bo h
theorem V.cell{w:World}(h:V w n c a)(i:Nat):w.cell? (aD n i)=c[i]?:=by unfold V at h;simp[World.cell?,h]
theorem V.fz(h:V w n c a)(i:Nat):w.frozen? (aD n i)=false:=by unfold V at h;simp[World.frozen?,h]
theorem V.new(w:World)(a:Array Value)(T:TypeId):V (w.alloc (.cells a T)) w.heap.size a T:=by unfold V;exact heap_alloc_new w _
theorem V.alloc{w:World}(h:V w n c a)(o:Obj):V (w.alloc o) n c a:=(Below.heap_alloc _ _ _ h.lt).trans h
theorem V.fr{K:Nat->Prop}{w w':World}(h:V w n c a)(f:Fr K w w')(b:¬K n):V w' n c a:=(f.block n h.lt b).trans h
theorem V.set(h:V w n c a)(i:Nat)(v:Value):V (w.setCell (aD n i) v) n (c.setIfInBounds i v) a:=by unfold V at*;simp[World.setCell,Array.getElem?_modify,h]
theorem V.other(h:V w n c a)(b:n≠k)(i:Nat)(v:Value):V (w.setCell (aD k i) v) n c a:=(Below.heap_setCell _ _ _ _ b).trans h
theorem Rd.dr(h:Rd n q w b v)(d:n<w.heap.size)(g i:Nat)(c:w.heap.size<=g)(a:Value):Rd n q w b (v.setCell (aD g i) a):=⟨(Below.heap_setCell _ _ _ _ (by simp only;omega)).trans h.m,h.f.setCell (aD g i) (I c) a⟩
theorem V.rd(h:V w k c a)(r:Rd n q w b v)(d:n<k):V v k c a:=h.fr r.f λe=>by unfold PB at e;omega
theorem aag:nb ⟨#[64]⟩=[64]:=rfl
theorem aah:nb ⟨#[61,61]⟩=[61,61]:=rfl
theorem aai:nb ⟨#[33,61]⟩=[33,61]:=rfl
theorem aaj:nb ⟨#[60]⟩=[60]:=rfl
