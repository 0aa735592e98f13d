import Derived.Test.YtcbadebjpogmlaaGreatDoorVvTxO
import Derived.Deep.CutBlock
import Derived.Test.YtcbadebjpogmlaaGreatDoorVvPrgG
set_option maxHeartbeats 8000000
set_option maxRecDepth 100000
namespace Go.Proofs.YtcbadebjpogmlaaGreatDoor
open Go.RowKit Tr Go.Proofs.Tryz
structure VS(w:World)(rb bv:Nat)(ip:Option Addr)(Ca B0:Nat)(di:jt)(XN Rw:Value)(xs:List Value)(s:ByteArray)(p e:Nat)(rt:Value)(d:jt)(w':World):Prop where
 r:V w' rb (qJ s p e rt) 161
 v:V w' bv (qR d (.slice none 0 0)) 195
 h:Ug ip Ca B0 di Rw xs w'
 f:Fr (λk=>k=rb\/k=bv\/HK ip XN k) w w'
 nr:¬HK ip Rw rb
 nv:¬HK ip Rw bv
variable{g:Option Addr}{n k i j m r z F:Nat}{d p P:jt}{a c o N:Value}{f:List Value}
theorem Ug.keep{w w':World}(h:Ug g n k d a f w)(l:∀b,HK g a b->b<w.heap.size->w'.heap[b]?=w.heap[b]?):Ug g n k d a f w':=by
 rcases h with x|⟨j,e,c,m,o⟩;.exact Y x
 exact I ⟨j,e,⟨(l j ⟨j,e,Y rfl⟩ c.k.lt).trans c.k,aV c.row λb i=>l b ⟨j,e,I i⟩ (c.row.lt b i).2,c.lt⟩,m,o⟩
variable{w v u:World}{q:ByteArray}
theorem VS.rr(h:VS w n k g i j d a c f q m r o p v):RR n q v m r o v:=⟨h.r,Fr.refl _ _⟩
theorem VS.step(h:VS w n k g i j d a c f q m r o p v)(b:RR n q v z F o u)(l:k≠n):VS w n k g i j d a c f q z F o p u:=⟨b.k,h.v.fr b.f l,h.h.keep λe t s=>b.f.block e s λx=>h.nr (by unfold PB at x;rw[<-x];exact t),h.f.trans (b.f.mono λ_ _ x=>Y x),h.nr,h.nv⟩
theorem VS.rv(h:VS w n k g i j d a c f q m r o p v)(b:RV n k q v z F o P (.slice none 0 0) u):VS w n k g i j d a c f q z F o P u:=⟨b.r,b.v,h.h.keep λe l s=>b.f.block e s (by
  rintro(x|x);.exact h.nr (x▸l)
  exact h.nv (x▸l)),h.f.trans (b.f.mono λ_ _ x=>x.elim Y λy=>I (Y y)),h.nr,h.nv⟩
theorem VS.MU(h:VS w n k g i j d a c f q m r o p v):RV n k q v m r o p (.slice none 0 0) v:=⟨h.r,h.v,Fr.refl _ _⟩
theorem VS.jQ{d':jt}(h:VS w n k g i j d a c f q m r o p v)(e:k≠n)(b:Nat)(x:Value)(l:(qR p (.slice none 0 0)).setIfInBounds b x=qR d' (.slice none 0 0)):VS w n k g i j d a c f q m r o d' (v.setCell (aD k b) x):=h.rv (h.MU.jQ e b x l)
theorem VS.drewN(h:VS w n k g i j d a c f q m r o p v)(e:k≠n)(b:Nat):VS w n k g i j d a c f q m r o p (v.drewN b):=h.step (h.rr.drewN b) e
theorem wO(h:VS w n k g i j d a a f q m 0 c p v)(B:k≠n)(G:j<=v.heap.size)(R:f.length<=4000000):Calls prog 124 #[pT n,.pointer g,pT k] v λr u=>r=.returned (.tuple #[])/\∃o t,VS w n k g i j d a o (f++[pT k]) q m 0 t p u/\(g≠none->t=c/\l_ a o v u)/\(g=none->t=pT k):=by
 have N:=h.r.lt;have P:=h.v.lt;rcases h.h with⟨rfl,rfl⟩|⟨s,rfl,H,D,F⟩
 .refine mo (zF h.MU B) λu b=>?_;refine⟨rfl,a,_,⟨b.r,b.v,Y ⟨rfl,rfl⟩,h.f.trans (b.f.mono λ_ _ x=>x.elim Y λy=>I (Y y)),?_,?_⟩,λx=>absurd rfl x,λ_=>rfl⟩;.rintro⟨s,e,_⟩;cases e
  rintro⟨s,e,_⟩;cases e
 refine(B' (rb:=n) (bv:=k) H G R).mono ?_;rintro r u⟨rfl,o,z,f2,J⟩;have A:∀b,(b=s\/a.ownBlock=some b)->HK (sA s) a b:=λb K=>⟨s,rfl,K⟩;have S:¬(n=s\/a.ownBlock=some n):=λx=>h.nr (A _ x);have T:¬(k=s\/a.ownBlock=some k):=λx=>h.nv (A _ x);have C:∀l,l<v.heap.size->l≠s->a.ownBlock≠some l->¬HK (sA s) o l:=by
  rintro l W L M⟨U,e,x|x⟩;.grind
  grind(splits:=30)[l_]
 refine⟨rfl,o,c,⟨h.r.fr f2 S,h.v.fr f2 T,I ⟨s,rfl,z,D,F⟩,h.f.trans (f2.mono λb _ x=>I (I (A b x))),?_,?_⟩,λ_=>⟨rfl,J⟩,λx=>by cases x⟩;.grind
 grind
variable{b:Nat->Nat}
theorem VS.wP(h:VS w n k g i j d a a f q r z c p v):ML w n k g i j d a f q m c b F ⟨[],z,r⟩ v:=⟨⟨c,h.r,λ_=>rfl,λx=>absurd rfl x,λ_=>rfl⟩,h.f,a,by simpa using h.h,λ_=>Y rfl,λt e=>by cases e⟩
theorem VS.leaf(h:VS w n k g i j d a c (f++[pT k]) q r 0 N p v)(A:g≠none->N=o/\l_ a c w v)(B:g=none->N=pT k)(D:z<=9)(L:m<=p.af)(G:p.af<r):ML w n k g i j d a f q m o b z ⟨[⟨p,[]⟩],0,r⟩ v:=by
 refine⟨⟨N,h.r,λx=>(A x).1,λ_ x=>B x,λx=>by cases x⟩,h.f,c,h.h,λx=>(A x).2,λt J=>?_⟩;have e:t=⟨p,[]⟩:=by simpa using J.symm
 subst e;refine⟨λs=>if s=p.af then k else b s,λs K=>aa om,ae rfl,?_⟩;obtain⟨y,H⟩:∃y,10-z=y+1:=⟨9-z,om⟩;rw[H];refine⟨G,Y (ae rfl),⟨.slice none 0 0,?_,(λu F=>by cases F),World.ownsRow_nil _ _ _ _⟩,λl C=>by cases C⟩;show V v (if p.af=p.af then k else b p.af) _ _;rw[ae rfl];exact h.v
theorem VS.held{p0:Nat}{rt:Value}{R:Rs}(h:VS w n k g i j d a c (f++[pT k]) q m 0 o p v)(W:g≠none->o=rt/\l_ a c w v)(hN:g=none->o=pT k)(za:r<=8)(hj:p0<=m)(L:p.af=m)(hp:m<R.p)(hsv:g≠none->∀A,a.ownBlock=some A->A<w.heap.size)(A:PtP v n k p q o (λs=>if s=m then k else b s) r m R u):ML w n k g i j d a f q p0 rt b r ⟨[⟨lB p R,R.ws⟩],R.e,R.p⟩ u:=by
 have D:Ug g i j d c (f++[pT k]) u:=h.h.keep λB G M=>A.f.block B M (by
  rintro(x|x);.exact h.nr (x▸G)
  exact h.nv (x▸G));have hsz:w.heap.size<=v.heap.size:=h.f.size;have K:g≠none->l_ a c w u:=λx=>by
  rcases(W x).2 with y|⟨z,y1,y2,y3⟩;.exact Y y
  exact I ⟨z,y1,y2,aI y3 A.f.size⟩
 have H:g≠none->∀B,c.ownBlock=some B->B<v.heap.size:=λx B G=>by grind(splits:=30)[Ug,l_,lB]
 refine⟨⟨o,A.r,λx=>(W x).1,λ_ x=>hN x,λx=>by cases x⟩,h.f.trans (A.f.mono λ_ _ x=>x.elim Y λy=>I (Y y)),c,D,K,λt ht=>?_⟩;have e:t=⟨lB p R,R.ws⟩:=by simpa using ht.symm
 subst e;obtain⟨S,J,T,hb,M,ho,hT⟩:=A.h;have C:(lB p R).af=m:=L;obtain⟨B,G⟩:∃B,10-r=B+1:=⟨9-r,om⟩;have N:9-r=B:=om;rw[N]at hT;have F:J m=k:=(T m om).trans (ae rfl);have U:∀x,v.heap.size<=x/\x<u.heap.size->x=k\/(w.heap.size<=x/\x<u.heap.size/\(g≠none->c.ownBlock≠some x)):=λx P=>I ⟨om,P.2,λhi e=>by have:=H hi x e;omega⟩;refine⟨J,λs hf=>(T s om).trans (aa om),by show J (lB p R).af=k;rw[C];exact F,?_⟩;rw[G];refine⟨by show(lB p R).af<R.p;rw[C];exact hp,by show J (lB p R).af=k\/_;rw[C];exact Y F,⟨S,?_,λx P=>U x (M x P),ho⟩,λl hc=>RT.mono U lr _ _ (hT l hc)⟩;grind
theorem Hn(a:Nat):da a 256=false:=by unfold da;simp
theorem aaY(h:VS w n k g i j d a c f q m 0 o p v)(t:k≠n):Calls prog 129 #[pT n,.pointer g,pT k] v λr s=>r=.returned (.tuple #[])/\VS w n k g i j d a c f q m 0 o {p with cl:=if da i (bt (E q) m)=true then(m:Int)else p.cl} s/\v.heap.size<=s.heap.size:=by
 by_cases x:m<q.size
 .have u:(g=none/\i=0)\/∃l,g=sA l/\v.cell? (aD l 0)=some (.int .i64 (i:Nat))/\(i=4\/i=5):=by
   rcases h.h with z|⟨l,rfl,A,B,C⟩;.exact Y z
   have u:v.cell? (aD l 0)=some (.int .i64 (d.kind:Nat)):=A.k.cell 0;grind
  refine mo (Hi h.MU t x u) λs b=>?_;exact⟨rfl,h.rv b,b.f.size⟩
 have e:bt (E q) m=256:=iF x;have y:({p with cl:=if da i (bt (E q) m)=true then(m:Int)else p.cl}:jt)=p:=by rw[e,Hn];rfl
 rw[y];refine mo (tK h.MU om g) λs b=>?_;exact⟨rfl,h.rv b,b.f.size⟩
theorem aaZ(h:RV n k q w i 0 a d (.slice none 0 0) w)(b:k≠n)(f:q.size<=4000000)(e:i<=q.size):Calls prog 128 #[pT n,pT k] w λr c=>r=.returned (.tuple #[])/\((qF (E q) i=true/\RV n k q w (lJ (E q) i) 0 a ⟨1,lO (E q) i,d.s,d.name,d.path,d.af,lJ (E q) i,d.cl⟩ (.slice none 0 0) c)\/(qF (E q) i=false/\RV n k q w (dF (E q) i) 2 a d (.slice none 0 0) c)):=MJ h b f e
def uV(k:Nat)(c a b:List UInt8)(j P e:Nat):Rs:=if e=0 then⟨[⟨⟨k,0,c,a,b,j,P,(P:Int)-1⟩,[]⟩],0,P⟩else⟨[],e,P⟩
theorem Ho{nm pt:List UInt8}{Ca:Nat}(a:n<=q.size)(b:bt (E q) n=k):(k=34->iC (E q) nm pt Ca n=uV 2 (aM (E q) n).t nm pt n (aM (E q) n).p (aM (E q) n).e/\((aM (E q) n).e=0->n<(aM (E q) n).p)/\(aM (E q) n).p<=q.size)/\(k=116\/k=102\/k=110->iC (E q) nm pt Ca n=uV 3 ((bM k).map UInt8.ofNat) nm pt n (dC (E q) (bM k) n) (if dC (E q) (bM k) n=n+(bM k).length then 0 else 2)/\((if dC (E q) (bM k) n=n+(bM k).length then 0 else 2)=0->n<dC (E q) (bM k) n)/\dC (E q) (bM k) n<=q.size):=by
 have c:n<=(E q).length:=by rw[ak];exact a
 refine⟨λh=>?_,λh=>?_⟩;.grind[ak,j_,uV,iC]
 have d:(∀x∈bM k,x<256)/\0<(bM k).length:=by rcases h with rfl|rfl|rfl<;>decide
 grind[ak,ED,E,dC,uV,iC,bM]
variable{J K R:List UInt8}
theorem RJ(hs:q.size<=2000000)(A:Nat->Nat)(hp:r<=q.size)(za:z<=9)(hxl:f.length<=q.size)(hv:VS w k i g j m d a a f q r 0 c ⟨0,0,[],J,K,0,0,-1⟩ w)(D:i≠k)(hB:m<=w.heap.size)(hV:∀B,B<n->Cb q B)(hn:2*(q.size-r)+1<=n+1)(F':1<=z)(WY:K.length<=z*10000000):Calls prog 97 #[pT k,.pointer g,pT i,.int .i64 (z:Nat)] w λC w'=>C=.returned (.tuple #[])/\ML w k i g j m d a f q r c A z (rd (E q) (n+1) false z J K j r []) w':=by
 obtain⟨u,hj⟩:∃u,u=sk (E q) r:=⟨_,rfl⟩;have hjl:u<=q.size:=by rw[hj,<-ak q];exact gB (by rw[ak];exact hp)
 have hjg:r<=u:=by rw[hj];exact e_ _ _
 have HJ:=Z hj;have S0:=Z hv;have Ts:q.size<=4000000:=om;obtain⟨l,hX⟩:∃l,l=rd (E q) (n+1) false z J K j r []:=⟨_,rfl⟩;rw[<-hX];rw[rd_val,<-hj]at hX;have HX:=Z hX;have hrow:Hid (g≠none->∀v,a.ownBlock=some v->v<w.heap.size):=λhi v hk=>by
  rcases hv.h with⟨e,_⟩|⟨bi,_,hI,_,_⟩;.exact absurd e hi
  exact(hI.row.lt v hk).2
 have HV:=Z hV;clear hj hv hX hV;go_enter func97,ntmps97;go_wp2_with fail;refine(ef S0.o.rr Ts).mono ?_;rintro C w1⟨rfl,F,hjx,h1'⟩;have Ie:F=u:=by rw[<-hjx.eq,HJ.o]
 subst Ie;have S1:=Z (S0.o.step h1' D);clear h1' hjx S0;go_wp2_with fail;by_cases hlt:F<q.size
 .refine mo (xV S1.o.rr true (by simp[hlt])) λw2 h2=>?_;have S2:=Z (S1.o.step h2 D);clear h2 S1;have c0:=S2.o.rr.c0;have c1:=S2.o.rr.c1;have y5:w2.cell? (aD i 5)=some (.int .i64 0):=S2.o.v.cell 5;have z5:=S2.o.v.fz 5;have aaT:k≠i:=λe=>D e.symm;have hpi:(F:Int)<(q.size:Int):=om;have Ye:=dY hlt;go_wp2;go_quiet(fail);have L:Hid (VS w k i g j m d a a f q F 0 c ⟨0,0,[],J,K,F,0,-1⟩ ((w2.setCell (aD i 5) (.int .i64 (F:Nat))).drewN nq)):=(S2.o.jQ (d':=⟨0,0,[],J,K,F,0,-1⟩) D 5 (.int .i64 (F:Nat)) rfl).drewN D nq;clear S2 c0 c1 y5 z5;generalize(w2.setCell (aD i 5) (.int .i64 (F:Nat))).drewN nq=w3 at*;have W_:=Z Ye;have Rp:=Z ((q[F]'hlt).toNat_lt);generalize(q[F]'hlt).toNat=o at*;go_upto_region 6 with fail;go_cut[10]from 36λx wc=>x=.bool (decide (o=91\/o=123))/\wc=w3;case first=>
   by_cases h1:o=91;.subst h1;go_wp2;go_meet;exact⟨si,rfl⟩
   by_cases h2:o=123;.subst h2;go_wp2;go_meet;exact⟨si,rfl⟩
   have e91:((o:Int)==91)=false:=l8 h1;have ama:((o:Int)==123)=false:=l8 h2;go_wp2;go_meet;grind
  case rest=>
  obtain⟨rfl,hw3⟩:=hcut;have hw3:=hw3.symm;subst hw3;obtain⟨ins,U⟩:∃p,decide (o=91\/o=123)=p:=⟨_,rfl⟩;rw[U];have Xz:f.length<=4000000:=om;have y0:w3.cell? (aD i 0)=some (.int .i64 0):=L.o.v.cell 0;have z0:=L.o.v.fz 0;have hle:w.heap.size<=w3.heap.size:=L.o.f.size;have pD:o≠256:=by have:=Rp.o;omega
  cases ins
  .have hc:¬(o=91\/o=123):=by simpa using U
   have HC:=Z hc;clear U hc;have N:=Z (Ho (nm:=J) (pt:=K) (Ca:=j) hjl W_.o);have S:Hid (l=iC (E q) J K j F):=by rw[HX.o,W_.o,aa pD,aa HC.o];exact Z rfl
   by_cases hq:o=34\/o=116\/o=102\/o=110
   .go_upto_block 0 with fail;go_cut[]from 67λwd=>∃(v:Nat)(tx:List UInt8)(P e:Nat),VS w k i g j m d a a f q P e c ⟨v,0,tx,J,K,F,0,-1⟩ wd/\l=uV v tx J K F P e/\(e=0->F<P)/\P<=q.size;case first=>
     clear HX HC W_;rcases hq with h|h|h|h;.subst h;have M:=Z (L.o.jQ (d':=⟨2,0,[],J,K,F,0,-1⟩) D 0 (.int .i64 2) rfl);have HL:=Z (N.o.1 rfl);clear N L;go_wp2_with fail;refine mo (MI M.o.rr Ts) λw5 H=>?_;have G:=Z (M.o.step H D);clear H M;generalize aM (E q) F=T at*;have y2:w5.cell? (aD i 2)=some (.string ⟨#[]⟩):=G.o.v.cell 2;have z2:=G.o.v.fz 2;go_wp2;go_meet;exact⟨2,_,_,_,G.o.jQ (d':=⟨2,0,T.t,J,K,F,0,-1⟩) D 2 (.string (sb T.t)) rfl,S.o.trans HL.o.1,HL.o.2.1,HL.o.2.2⟩
     .subst h;have M:=Z (L.o.jQ (d':=⟨3,0,[],J,K,F,0,-1⟩) D 0 (.int .i64 3) rfl);have HL:=Z (N.o.2 si);clear N L;go_wp2_with fail;refine mo (BZ M.o.rr Ts ⟨#[116,114,117,101]⟩ de) λw5 H=>?_;have G:=Z (M.o.step H D);clear H M;have y2:w5.cell? (aD i 2)=some (.string ⟨#[]⟩):=G.o.v.cell 2;have z2:=G.o.v.fz 2;go_wp2;go_meet;exact⟨3,_,_,_,G.o.jQ (d':=⟨3,0,su.map UInt8.ofNat,J,K,F,0,-1⟩) D 2 (.string ⟨#[116,114,117,101]⟩) rfl,S.o.trans HL.o.1,HL.o.2.1,HL.o.2.2⟩
     .subst h;have M:=Z (L.o.jQ (d':=⟨3,0,[],J,K,F,0,-1⟩) D 0 (.int .i64 3) rfl);have HL:=Z (N.o.2 si);clear N L;go_wp2_with fail;refine mo (BZ M.o.rr Ts ⟨#[102,97,108,115,101]⟩ de) λw5 H=>?_;have G:=Z (M.o.step H D);clear H M;have y2:w5.cell? (aD i 2)=some (.string ⟨#[]⟩):=G.o.v.cell 2;have z2:=G.o.v.fz 2;go_wp2;go_meet;exact⟨3,_,_,_,G.o.jQ (d':=⟨3,0,sC.map UInt8.ofNat,J,K,F,0,-1⟩) D 2 (.string ⟨#[102,97,108,115,101]⟩) rfl,S.o.trans HL.o.1,HL.o.2.1,HL.o.2.2⟩
     subst h;have M:=Z (L.o.jQ (d':=⟨3,0,[],J,K,F,0,-1⟩) D 0 (.int .i64 3) rfl);have HL:=Z (N.o.2 si);clear N L;go_wp2_with fail;refine mo (BZ M.o.rr Ts ⟨#[110,117,108,108]⟩ de) λw5 H=>?_;have G:=Z (M.o.step H D);clear H M;have y2:w5.cell? (aD i 2)=some (.string ⟨#[]⟩):=G.o.v.cell 2;have z2:=G.o.v.fz 2;go_wp2;go_meet;exact⟨3,_,_,_,G.o.jQ (d':=⟨3,0,sD.map UInt8.ofNat,J,K,F,0,-1⟩) D 2 (.string ⟨#[110,117,108,108]⟩) rfl,S.o.trans HL.o.1,HL.o.2.1,HL.o.2.2⟩
    case rest=>
    obtain⟨v,tx,P,e,H,hXe,hPj,hPl⟩:=hcut;have G:=Z H;have XG:=Z hXe;clear H hXe S N HX HC W_ L y0 z0 hq;have c2:wc.cell? (aD k 2)=some (.int .i64 (e:Nat)):=G.o.r.cell 2;by_cases he:e=0
    .subst he;have c1:wc.cell? (aD k 1)=some (.int .i64 (P:Nat)):=G.o.r.cell 1;have y6:wc.cell? (aD i 6)=some (.int .i64 0):=G.o.v.cell 6;have y7:wc.cell? (aD i 7)=some (.int .i64 (-1)):=G.o.v.cell 7;have z6:=G.o.v.fz 6;have z7:=G.o.v.fz 7;have S7:=Z ((G.o.jQ (d':=⟨v,0,tx,J,K,F,P,-1⟩) D 6 (.int .i64 (P:Nat)) rfl).jQ (d':=⟨v,0,tx,J,K,F,P,(P:Int)-1⟩) D 7 (.int .i64 ((P:Int)-1)) rfl);have ZS:m<=wc.heap.size:=az hB G.o.f.size;have aeS:w.heap.size<=wc.heap.size:=G.o.f.size;have hPb:(P:Int)<=2000000:=om;have HPJ:=Z (hPj rfl);clear hPj;go_wp2_with fail;refine(wO S7.o D (by simpa[World.setCell]using ZS) Xz).mono ?_;rintro C w8⟨rfl,sv8,rt8,h8',hM8,hN8⟩;have S8:=Z h8';have HM8:=Z hM8;have HN8:=Z hN8;clear h8' hM8 hN8 S7 G;go_wp2;go_end0;rw[XG.o];refine⟨rfl,VS.leaf S8.o (λhi=>⟨(HM8.o hi).1,?_⟩) HN8.o za hjg HPJ.o⟩;rcases(HM8.o hi).2 with y|⟨t,y1,y2,y3⟩;.exact Y y
     exact I ⟨t,y1,by simp[World.setCell]at y2;omega,y3⟩
    have WE:((e:Int)==0)=false:=qp he;have HE:=Z he;clear he;go_wp2;go_end0;rw[XG.o,uV,aa HE.o];exact⟨rfl,G.o.wP⟩
   have e34:((o:Int)==34)=false:=l8 (show o≠34 by omega);have amd:((o:Int)==116)=false:=l8 (show o≠116 by omega);have ame:((o:Int)==102)=false:=l8 (show o≠102 by omega);have amf:((o:Int)==110)=false:=l8 (show o≠110 by omega);have hTo:=Cd (s:=E q) (i:=F) (by rw[ak];exact hjl);have Y2:=Z λw p(h:RV k i q w F 0 c p (.slice none 0 0) w)=>aaZ h D Ts hjl;have Yi:Hid (l=if qF (E q) F=true then⟨[⟨⟨1,lO (E q) F,[],J,K,F,lJ (E q) F,if da j (bt (E q) (lJ (E q) F))=true then(lJ (E q) F:Int)else-1⟩,[]⟩],0,lJ (E q) F⟩else⟨[],2,dF (E q) F⟩):=by grind[Z,iC]
   clear S N HX HC W_ hq;generalize lJ (E q) F=nt at*;generalize lO (E q) F=nv at*;go_wp2_with fail;refine(Y2.o _ _ L.o.MU).mono ?_;rintro C w5⟨rfl,⟨ho,H⟩|⟨ho,H⟩⟩
   .have G:=Z (L.o.rv H);have c2:w5.cell? (aD k 2)=some (.int .i64 0):=H.r.cell 2;have ZS:m<=w5.heap.size:=az hB G.o.f.size;have aeS:w.heap.size<=w5.heap.size:=G.o.f.size;have HPJ:=Z (hTo ho).1;have HX4:=Z (Yi.o.trans (ae ho));clear H L Yi ho hTo Y2;go_wp2_with fail;refine(wO G.o D ZS Xz).mono ?_;rintro C w8⟨rfl,sv8,rt8,h8',hM8,hN8⟩;have S8:=Z h8';have HM8:=Z hM8;have HN8:=Z hN8;clear h8' hM8 hN8 G;go_wp2_with fail;refine(aaY S8.o D).mono ?_;rintro C w9⟨rfl,h9,hgr⟩;have S9:=Z h9;clear h9;go_wp2;(try simp only[Exit.inBlock,Exit.then]);refine bodyPost_ret (results_none rfl _ _ _) rfl ?_;rw[HX4.o];refine⟨rfl,VS.leaf S9.o (λhi=>⟨(HM8.o hi).1,?_⟩) HN8.o za hjg HPJ.o⟩;rcases(HM8.o hi).2 with y|⟨t,y1,y2,y3⟩;.exact Y y
    exact I ⟨t,y1,om,om⟩
   have G:=Z (L.o.rv H);have c2:w5.cell? (aD k 2)=some (.int .i64 2):=H.r.cell 2;have HX4:=Z (Yi.o.trans (aa (by rw[ho];decide)));clear H L Yi ho hTo Y2;go_wp2;(try simp only[Exit.inBlock,Exit.then]);refine bodyPost_ret (results_none rfl _ _ _) rfl ?_;rw[HX4.o];exact⟨rfl,G.o.wP⟩
  have hc:o=91\/o=123:=by simpa using U
  have HC:=Z hc;clear U hc;by_cases h8:8<z;.have d8:(8:Int)<(z:Int):=om;go_wp2_with fail;refine mo (iL L.o.rr 3 _ rfl) λw4 h4=>?_;rw[ae rfl]at h4;have M:=Z (L.o.step h4 D);clear h4 L;go_wp2;(try simp only[Exit.inBlock,Exit.then]);refine bodyPost_ret (results_none rfl _ _ _) rfl ?_;rw[HX.o,W_.o,aa pD,ae HC.o,ae h8];exact⟨rfl,M.o.wP⟩
  have d8:¬(8:Int)<(z:Int):=om;have eX:=HX.o;rw[W_.o,aa pD,ae HC.o,aa h8]at eX;have HX2:=Z eX;clear eX HX;go_upto_if 54 with fail;go_cut[11]from 55λx wd=>∃(b:Nat)(cl:Int),(b=4/\cl=93/\o=91\/b=5/\cl=125/\o=123)/\x=.int .u8 cl/\VS w k i g j m d a a f q F 0 c ⟨b,0,[],J,K,F,0,-1⟩ wd/\wd.heap.size=w3.heap.size;case first=>
   have M:=L.o.jQ (d':=⟨5,0,[],J,K,F,0,-1⟩) D 0 (.int .i64 5) rfl;have S4H:=Z M;clear M;rcases HC.o with h|h;.subst h;go_wp2;go_meet;exact⟨4,93,Y ⟨rfl,rfl,by trivial⟩,rfl,S4H.o.jQ (d':=⟨4,0,[],J,K,F,0,-1⟩) D 0 (.int .i64 4) rfl,by simp[World.setCell]⟩
   subst h;go_wp2;go_meet;exact⟨5,125,I ⟨rfl,rfl,by trivial⟩,rfl,S4H.o,by simp[World.setCell]⟩
  case rest=>
  obtain⟨b,cl,hK,rfl,h4,hsz⟩:=hcut;have M:=Z h4;obtain⟨R,hR⟩:∃R,R=oF (E q) n z K b (F+1):=⟨_,rfl⟩;have hRp:F<R.p:=by
   rw[hR];have h3:=e_ (E q) (F+1);have h4:=gB (s:=E q) (i:=F+1) (by rw[ak];omega);unfold oF;split;.simp;omega
   have:=(jM (s:=E q) n true z [] K b (sk (E q) (F+1)) [] h4).ge;omega
  have HP:Hid (∀(W:World)(rt':Value),V W k (qJ q F 0 rt') 161->V W i (qR ⟨b,0,[],J,K,F,0,-1⟩ (.slice none 0 0)) 195->Calls prog 125 #[pT k,pT i,.int .u8 cl,.int .i64 (z:Nat)] W λC w'=>C=.returned (.tuple #[])/\PtP W k i ⟨b,0,[],J,K,F,0,-1⟩ q rt' (λs=>if s=F then i else A s) z F R w'):=λW rt' hr zY=>by
   rw[hR];rcases hK with⟨rfl,rfl,_⟩|⟨rfl,rfl,_⟩;.exact EJ HV.o hs (λs=>if s=F then i else A s) om hlt om F' WY hr zY (Y rfl) rfl D
   exact EJ HV.o hs (λs=>if s=F then i else A s) om hlt om F' WY hr zY (I rfl) rfl D
  have S:Hid (l=held b J K F R):=by grind
  have aa5:b=4\/b=5:=om;have HK:=Z aa5;clear h4 L hK hR HX2 HC HV aa5;have VR:m<=wc.heap.size:=om;go_wp2_with fail;refine(wO M.o D VR Xz).mono ?_;rintro C w5⟨rfl,sv5,rt5,H,hM5,hN5⟩;have G:=Z H;have HM5:=Z hM5;have HN5:=Z hN5;clear H hM5 hN5;go_wp2_with fail;refine mh (HP.o _ _ G.o.r G.o.v) λw6 P6=>?_;go_wp2;(try simp only[Exit.inBlock,Exit.then]);refine bodyPost_ret (results_none rfl _ _ _) rfl ?_;refine⟨rfl,?_⟩;rw[S.o];exact VS.held (p0:=r) (rt:=c) G.o (λhi=>⟨(HM5.o hi).1,by
   rcases(HM5.o hi).2 with y|⟨t,y1,y2,y3⟩;.exact Y y
   exact I ⟨t,y1,om,y3⟩⟩) HN5.o om hjg rfl hRp hrow.o P6.o
 have Ye:bt (E q) F=256:=iF hlt;refine mo (xV S1.o.rr false (by simp[hlt])) λw2 h2=>?_;have S2:=Z (S1.o.step h2 D);clear h2 S1;go_wp2_with fail;refine mo (iL S2.o.rr 2 _ rfl) λw3 h3=>?_;rw[ae rfl]at h3;have L:=Z (S2.o.step h3 D);clear h3 S2;go_wp2;(try simp only[Exit.inBlock,Exit.then]);refine bodyPost_ret (results_none rfl _ _ _) rfl ?_;rw[HX.o,ae Ye];exact⟨rfl,L.o.wP⟩
theorem RL(z:q.size<=2000000):∀n,Cb q n:=by intro n;induction n using Nat.strongRecOn with|_ n C=>intro w H j D h i l a K p J A L F G v x b o f g y t u c d e r;obtain⟨m,rfl⟩:∃m,n=m+1:=⟨n-1,om⟩;have B:VS w H j D h i l a a K q p 0 J ⟨0,0,[],F,G,0,0,-1⟩ w:=⟨y,t,u,Fr.refl _ _,d,e⟩;have s:∀k,k<m->Cb q k:=λk M=>C k om;exact RJ z A x b g B c r s v o f
variable{D:List Tv}
theorem RN(a:(rd J (n+1) false k K R i j D).e=0):∃t,(rd J (n+1) false k K R i j D).ws=[t]/\(t.d.cl<0->t.ws=[]):=by
 rw[rd_val]at a⊢;split at a;.cases a
 rename_i b;rw[aa b];split at a
 .rename_i g;rw[ae g];split at a;.cases a
  rename_i e;rw[aa e];refine⟨_,rfl,λh=>?_⟩;exfalso;have c:(oF J n k R (if bt J (sk J j)=91 then 4 else 5) (sk J j+1)).e=0:=a;have m:0<(oF J n k R (if bt J (sk J j)=91 then 4 else 5) (sk J j+1)).p:=by
   generalize(if bt J (sk J j)=91 then 4 else 5)=l at*;unfold oF at c⊢;split;.simp
   rename_i f;rw[aa f]at c;rcases Nat.lt_or_ge (sk J (sk J j+1)) (J.length+1)with d|d;.have:=(jM (s:=J) n true k [] R l (sk J (sk J j+1)) [] om).gt c;omega
   grind[jC,gB]
  grind
 grind[jC,rd_val,EF,iC]
def shut(a:Bool)(b e:Nat)(t:Tv):Tv:=if e=0/\a=true/\t.d.cl<0 then⟨{t.d with cl:=(b:Int)},t.ws⟩else t
structure Hp(w:World)(s:ByteArray)(rb bv p e:Nat)(rt:Value)(ws:List Tv)(A:Nat->Nat)(w':World):Prop where
 r:V w' rb (qJ s p e rt) 161
 f:Q w w'
 ge:w.heap.size<=rb
 n:ws=[]->rt=.pointer none
 t:∀t,ws=[t]->rt=cj A t/\A t.d.af=bv/\RT w' A (λk=>k≠rb/\w.heap.size<=k/\k<w'.heap.size) (s.size+1) 9 t
theorem Hp.rr(h:Hp w q n k i j a D b v):RR n q v i j a v:=⟨h.r,Fr.refl _ _⟩
theorem Hp.step(h:Hp w q n k i j a D b v)(d:RR n q v m r a u):Hp w q n k m r a D b u:=by refine⟨d.k,h.f.new d.f λc s j=>by unfold PB at j;have:=h.ge;omega,h.ge,h.n,λt p=>?_⟩;obtain⟨g,l,o⟩:=h.t t p;refine⟨g,l,RT.mono (λe f=>⟨f.1,f.2.1,aI f.2.2 d.f.size⟩) lr _ _ (RT.keep (w':=u) (λe f=>d.f.block e f.2.2 λx=>f.1 x) _ _ o)⟩
structure MV(w:World)(s:ByteArray)(ends:Bool)(rb:Nat)(w':World):Prop where
 f:Q w w'
 r:∃rt,V w' rb (qJ s (aw (E s)).p (aw (E s)).e rt) 161/\((aw (E s)).ws=[]->rt=.pointer none)/\∀t,(aw (E s)).ws=[t]->∃A,rt=cj A t/\RT w' A (λk=>w.heap.size<=k/\k<w'.heap.size) (s.size+1) 9 (shut ends s.size (aw (E s)).e t)
theorem Hp.same{ends:Bool}(h:Hp w q n k (aw (E q)).p (aw (E q)).e a (aw (E q)).ws b v)(e:∀t,(aw (E q)).ws=[t]->shut ends q.size (aw (E q)).e t=t):MV w q ends n v:=⟨h.f,a,h.r,h.n,λt d=>⟨b,(h.t t d).1,by rw[e t d];exact RT.mono (λc f=>f.2) lr _ _ (h.t t d).2.2⟩⟩
variable{l L:Tv}
theorem Hp.Xa(h:Hp w q n k (aw (E q)).p (aw (E q)).e a (aw (E q)).ws b v)(G:(aw (E q)).e=0)(p:(aw (E q)).ws=[l])(F:l.d.cl<0)(J:l.ws=[])(o:k≠n)(H:w.heap.size<=k):MV w q true n (v.setCell (aD k 7) (.int .i64 (q.size:Nat))):=by
 obtain⟨C,r,D,M,⟨sv,s,N,m⟩,_⟩:=h.t l p;rw[r]at s;have f2:Fr (λd=>d=k) v (v.setCell (aD k 7) (.int .i64 (q.size:Nat))):=(Fr.refl (λd=>d=k) v).setCell (aD k 7) (Y rfl) _;refine⟨h.f.new f2 λi P e=>by omega,a,h.r.fr f2 λe=>o e.symm,h.n,λt u=>?_⟩;have B:t=l:=by rw[p]at u;simpa using u.symm
 subst B;have A:shut true q.size (aw (E q)).e t=⟨{t.d with cl:=(q.size:Int)},t.ws⟩:=by unfold shut;rw[ae ⟨G,rfl,F⟩]
 rw[A];refine⟨b,C,D,?_,⟨sv,?_,λd f=>?_,?_⟩,λc j=>by rw[J]at j;cases j⟩;.simp_all
 .show V _ (b t.d.af) _ _;rw[r];exact s.set 7 _
 .simp_all
 refine aV m λd f=>f2.block d (m.lt d f).2 λe=>?_;subst e;rcases m.2 with⟨x,_⟩|⟨g,y,z,K,_,R,_⟩;.rw[x]at f;cases f
 rw[K]at f;have L:g=d:=cI f;grind[V]
theorem Ce{w:World}(M:q.size<=2000000):Calls prog 97 #[pT w.heap.size,.pointer none,(pT (w.heap.size+1)),.int .i64 1] ((w.alloc (.cells #[.string q,.int .i64 0,.int .i64 0,.pointer none] 161)).alloc (.cells #[.int .i64 0,.int .i64 0,.string ⟨#[]⟩,.string ⟨#[]⟩,.string ⟨#[36]⟩,.int .i64 0,.int .i64 0,.int .i64 (-1),.slice none 0 0] 195)) λr p=>r=.returned (.tuple #[])/\∃o A,Hp w q w.heap.size (w.heap.size+1) (rd (E q) (2*(E q).length+3) false 1 [] [36] 0 0 []).p (rd (E q) (2*(E q).length+3) false 1 [] [36] 0 0 []).e o (rd (E q) (2*(E q).length+3) false 1 [] [36] 0 0 []).ws A p:=by
 obtain⟨d,b⟩:∃d,d=w.alloc (.cells #[.string q,.int .i64 0,.int .i64 0,.pointer none] 161):=⟨_,rfl⟩;have n:d.heap.size=w.heap.size+1:=by rw[b];simp
 have y:V d w.heap.size (qJ q 0 0 (.pointer none)) 161:=by rw[b];exact V.new _ _ _
 have v:Q w d:=by rw[b];exact(Fr.refl _ w).alloc _
 rw[<-b];have h:=RL M (2*(E q).length+3) (d.alloc (.cells (qR ⟨0,0,[],[],[36],0,0,-1⟩ (.slice none 0 0)) 195)) w.heap.size (w.heap.size+1) none 0 0 ⟨0,0,[],[],[],0,0,-1⟩ (.slice none 0 0) [] 0 (.pointer none) (λ_=>0) 1 [] [36] (by rw[ak];omega) om om om si si (y.alloc _) (by rw[<-n];exact V.new _ _ _) (Y ⟨rfl,rfl⟩) om (λ⟨_,e,_⟩=>by cases e) (λ⟨_,e,_⟩=>by cases e) zl;refine mo h λp a=>?_;refine⟨rfl,?_⟩;obtain⟨o,C,_,B,z⟩:=a.r;obtain⟨F,_,_,J⟩:=a.h;have g:Fr (λk=>k=w.heap.size\/k=w.heap.size+1) (d.alloc (.cells (qR ⟨0,0,[],[],[36],0,0,-1⟩ (.slice none 0 0)) 195)) p:=a.f.mono (by
  rintro k _(x|x|⟨_,e,_⟩);.exact Y x
  .exact I x
  cases e);have j:Q w p:=(v.alloc _).new g (λi S e=>by omega);have N:(d.alloc (.cells (qR ⟨0,0,[],[],[36],0,0,-1⟩ (.slice none 0 0)) 195)).heap.size=w.heap.size+2:=by simp[n]
 have D:w.heap.size+2<=p.heap.size:=by have:=g.size;omega
 have L:=(jM (s:=E q) (2*(E q).length+3) false 1 [] [36] 0 0 [] om).le;have K:=ak q;rcases Cc (s:=E q) (2*(E q).length+2) 1 [] [36] 0 0 []with P|⟨t,s,_⟩;.have m:(rd (E q) (2*(E q).length+3) false 1 [] [36] 0 0 []).ws=[]:=P;have G:o=.pointer none:=z m;exact⟨o,λ_=>0,C,j,aP _,λ_=>G,λt s=>by rw[m]at s;cases s⟩
 have c:(rd (E q) (2*(E q).length+3) false 1 [] [36] 0 0 []).ws=[t]:=s;obtain⟨A,_,f,u⟩:=J t c;refine⟨o,A,C,j,aP _,(λx=>by rw[c]at x;cases x),λR l=>?_⟩;have H:R=t:=by rw[c]at l;simpa using l.symm
 subst H;refine⟨by rw[B (by rw[c];simp) rfl];unfold cj;rw[f],f,RT.mono (λk T=>?_) om _ _ u⟩;grind
theorem Cf{w:World}{s:ByteArray}(hs:s.size<=2000000)(d:Bool):Calls prog 68 #[.string s,.bool d] w λr w'=>r=.returned (pT w.heap.size)/\MV w s d w.heap.size w':=by
 obtain⟨R,x⟩:∃R,R=rd (E s) (2*(E s).length+3) false 1 [] [36] 0 0 []:=⟨_,rfl⟩;have l:=Z (Ce (w:=w) hs);rw[<-x]at l;have D:s.size<=4000000:=om;have S:R.p<=s.size:=by rw[x,<-ak s];exact(jM _ false 1 [] [36] 0 0 [] om).le
 by_cases p:R.e=0
 .obtain⟨j,J⟩:∃j,j=sk (E s) R.p:=⟨_,rfl⟩;have hjl:j<=s.size:=by rw[J,<-ak s];exact gB (by rw[ak];exact S)
  have W:=Z J;have f:∃t,R.ws=[t]/\(t.d.cl<0->t.ws=[]):=by rw[x];exact RN (by rw[<-x];exact p)
  by_cases hb:bt (E s) j=256
  .have m:aw (E s)=⟨R.ws,0,j⟩:=by grind[aw]
   have hge:¬j<s.size:=λh=>by have:=dY h;have:=(s[j]'h).toNat_lt;omega
   have u:=Z (show(decide (0=0)&&decide (j<s.size))=false by simp;omega);obtain⟨t,ht,C⟩:=f;have HT:=Z ht;have HC:=Z C;have q:=Z p;have k:=Z m;clear x J p hb m ht C;go_enter func68,ntmps68;go_wp2_with fail;refine(l.o).mono ?_;rintro r w1⟨rfl,G,A,i⟩;rw[q.o]at i;have b:=Z i;clear i;go_wp2_with fail;refine(ef b.o.rr D).mono ?_;rintro r w2⟨rfl,U,g,n⟩;have y:U=j:=by rw[<-g.eq,W.o]
   subst y;have c:=Z (b.o.step n);clear n g b;go_wp2_with fail;refine mo (xV c.o.rr _ u.o) λz o=>?_;have a:=Z (c.o.step o);clear o c;have c2:z.cell? (aD w.heap.size 2)=some (.int .i64 0):=a.o.r.cell 2;obtain⟨q1,q2,q3,q4,⟨sv,K,q6,q7⟩,q8⟩:=a.o.t t HT.o;rw[q2]at K;have y7:z.cell? (aD (w.heap.size+1) 7)=some (.int .i64 t.d.cl):=K.cell 7;have z7:=K.fz 7;have v:Hid (Hp w s w.heap.size (w.heap.size+1) (aw (E s)).p (aw (E s)).e G (aw (E s)).ws A z):=by rw[k.o];exact a.o
   have B:Hid ((aw (E s)).e=0):=by rw[k.o];exact Z rfl
   have W0:Hid ((aw (E s)).ws=[t]):=by rw[k.o];exact HT.o
   clear q1 q3 q4 K q6 q7 q8 a;cases d;.go_wp2;go_ret;exact⟨rfl,v.o.same λL _=>by unfold shut;rw[aa λh=>by cases h.2.1]⟩
   by_cases H:t.d.cl<0
   .have hd:decide (t.d.cl<0)=true:=by simpa using H
    have N:=Z (v.o.Xa B.o W0.o H (HC.o H) om om);go_wp2;go_ret;exact⟨rfl,N.o⟩
   have hd:decide (t.d.cl<0)=false:=by simpa using H
   have N:=Z (v.o.same (ends:=true) λL F=>by
    have e:L=t:=by rw[W0.o]at F;simpa using F.symm
    grind[shut]);go_wp2;go_ret;exact⟨rfl,N.o⟩
  have m:aw (E s)=⟨R.ws,2,j⟩:=by grind[aw]
  have T:j<s.size:=by grind[iF]
  have u:=Z (show(decide (0=0)&&decide (j<s.size))=true by simp[T]);have q:=Z p;have k:=Z m;clear x J p hb m f;go_enter func68,ntmps68;go_wp2_with fail;refine(l.o).mono ?_;rintro r w1⟨rfl,G,A,i⟩;rw[q.o]at i;have b:=Z i;clear i;go_wp2_with fail;refine(ef b.o.rr D).mono ?_;rintro r w2⟨rfl,U,g,n⟩;have y:U=j:=by rw[<-g.eq,W.o]
  subst y;have c:=Z (b.o.step n);clear n g b;go_wp2_with fail;refine mo (xV c.o.rr _ u.o) λz o=>?_;have a:=Z (c.o.step o);clear o c;go_wp2_with fail;refine mo (iL a.o.rr 2 _ rfl) λw4 P=>?_;rw[ae rfl]at P;have M:=Z (a.o.step P);clear P a;have c2:w4.cell? (aD w.heap.size 2)=some (.int .i64 2):=M.o.r.cell 2;have v:Hid (Hp w s w.heap.size (w.heap.size+1) (aw (E s)).p (aw (E s)).e G (aw (E s)).ws A w4):=by rw[k.o];exact M.o
  have B:Hid ((aw (E s)).e=2):=by rw[k.o];exact Z rfl
  clear M;go_wp2;go_ret;exact⟨rfl,v.o.same λL _=>by unfold shut;rw[aa λh=>by rw[B.o]at h;cases h.1]⟩
 have m:aw (E s)=R:=by grind[aw]
 have q:=Z p;have k:=Z m;have WE:((R.e:Int)==0)=false:=qp p;clear x p m;go_enter func68,ntmps68;go_wp2_with fail;refine(l.o).mono ?_;rintro r w1⟨rfl,G,A,i⟩;have b:=Z i;clear i;go_wp2_with fail;refine mo (pK b.o.rr q.o) λw2 n=>?_;have c:=Z (b.o.step n);clear n b;go_wp2_with fail;refine mo (xV c.o.rr false (by simp[q.o])) λz o=>?_;have a:=Z (c.o.step o);clear o c;have c2:z.cell? (aD w.heap.size 2)=some (.int .i64 (R.e:Nat)):=a.o.r.cell 2;have v:Hid (Hp w s w.heap.size (w.heap.size+1) (aw (E s)).p (aw (E s)).e G (aw (E s)).ws A z):=by rw[k.o];exact a.o
 have B:Hid ((aw (E s)).e≠0):=by rw[k.o];exact q.o
 clear a;go_wp2;go_ret;exact⟨rfl,v.o.same λL _=>by unfold shut;rw[aa λh=>B.o h.1]⟩
structure VC(w:World)(A:Nat->Nat)(t:Tv)(sv:Value):Prop where
 b:V w (A t.d.af) (qR t.d sv) 195
 o:w.ownsRow 0 159 1 sv t.ws.length (t.ws.map (cj A))
variable{t S:Nat->Prop}
theorem RT.vc{d n:Nat}(h:RT w b t d (n+1) l):∃sv,VC w b l sv:=by obtain⟨_,_,⟨sv,a,_,c⟩,_⟩:=h;exact⟨sv,a,c⟩
theorem RT.kids{a n:Nat}(h:RT w b t a (n+1) l)(c:L∈l.ws):RT w b t a n L:=h.2.2.2 L c
theorem VC.at_(h:VC w b l a){k:Nat}(i:k<l.ws.length):∃g c,a=.slice (sA g) l.ws.length c/\w.cell? (aD g k)=some (.pointer (some ⟨b (l.ws[k]).d.af,0,none⟩)):=by obtain⟨g,c,e,_,f⟩:=h.o.form om;refine⟨g,c,e,?_⟩;have d:=h.o;rw[e]at d;have:=d.cellAt k om;rw[this];simp[cj,i]
structure lI(w:World)(A:Nat->Nat)(l:List Tv)(sv:Value)(w':World):Prop where
 f:Q w w'
 o:w'.ownsRow w.heap.size 159 1 sv l.length (l.map (cj A))
theorem uW(n:Nat)(a:List Tv)(k:Nat)(h:k<a.length):(a.take (k+1)).flatMap (ai n)=(a.take k).flatMap (ai n)++ai n a[k]:=by rw[eC h,iy];simp
theorem zO(n:Nat)(a:List Tv)(k:Nat):((a.take k).flatMap (ai n)).length<=(a.flatMap (ai n)).length:=by
 have e:a.flatMap (ai n)=(a.take k++a.drop k).flatMap (ai n):=by rw[iU]
 grind
theorem pL(n:Nat):∀(a:List Tv),(∀c∈a,1<=(ai n c).length)->a.length<=(a.flatMap (ai n)).length|[],_=>aT _|c::a,h=>by have e:=h c si;have f:=pL n a λd b=>h d (by simp[b]);grind
theorem RT.one:∀{a:Nat}{c:Tv},RT w b t n a c->1<=(ai a c).length|0,_,h=>absurd h id|_+1,_,_=>by simp[ai]
theorem sV(w:World)(B:Nat)(x:Value)(a:B<=w.heap.size):(w.alloc (.cells #[x] 159)).ownsRow B 159 1 (.slice (sA w.heap.size) 1 1) 1 [x]:=⟨rfl,I ⟨w.heap.size,1,_,rfl,a,heap_alloc_new w _,aP _,by unfold maxLen;decide,rfl,rfl⟩⟩
theorem Uh(hN:k<=4000000):∀(d:Nat)(e:Tv)(w:World),RT w b t n d e->(∀a,t a->a<w.heap.size)->(ai d e).length<=k->Calls prog 122 #[(pT (b e.d.af))] w λr w'=>∃sv,r=.returned sv/\lI w b (ai d e) sv w':=by
 obtain⟨i0,P,W,hz1,eE⟩:=info_parts pJ;have HI:=Z P;have iK:=Z W;have iz:=Z hz1;have ja:=Z eE;clear P W hz1 eE;intro d;induction d with|zero=>intro e w h;exact absurd h id|succ d ih=>
  intro e w h hD z;have HIH:=Z ih;have HR:=Z h;have HD:=Z hD;have HL:=Z z;clear ih h hD z;go_enter func122,ntmps122;have S:Hid (lI w b (e::(e.ws.take 0).flatMap (ai d)) (.slice (sA w.heap.size) 1 1) (w.alloc (.cells #[(pT (b e.d.af))] 159))):=⟨(Fr.refl _ w).alloc _,sV w w.heap.size (pT (b e.d.af)) lr⟩;go_wp2;go_loopw[3,4]λo i wr=>∃a:Nat,a<=e.ws.length/\i=.int .i64 a/\lI w b (e::(e.ws.take a).flatMap (ai d)) o wrλ_ i _=>e.ws.length-(intOf i).toNat;case atStart=>exact⟨0,aT _,rfl,S.o⟩
  case round=>
   clear S;obtain⟨a,hk,rfl,M⟩:=hrel;have S:=Z M;have y:RT wr b t n (d+1) e:=RT.keep (λq T=>M.f.block q (HD.o q T) id) _ _ HR.o;obtain⟨sv,N⟩:=y.vc;have R2:=Z y;obtain⟨l,z⟩:∃l,l=e::(e.ws.take a).flatMap (ai d):=⟨_,rfl⟩;rw[<-z]at S;obtain⟨o0,ocp,U⟩:=X M.o;obtain⟨H,m⟩:∃H,H=l.length:=⟨_,rfl⟩;rw[<-z,<-m]at U;subst U;have D:=S.o.o;rw[<-m]at D;have HO:=Z D;clear D;obtain⟨v0,MW,rfl⟩:=X N.o;have c8:wr.cell? (aD (b e.d.af) 8)=some (.slice v0 e.ws.length MW):=N.b.cell 8;have hLL:=HL.o;have hlen:e.ws.length<=4000000:=by have:=pL d e.ws λc hc=>(HR.o.kids hc).one;grind[ai]
   have aeY:H<=4000000:=by grind[zO,ai]
   by_cases C:a<e.ws.length
   .have hki:(a:Int)<(e.ws.length:Int):=om;obtain⟨g,cap,hv,hcell⟩:=N.at_ C;simp only[Value.slice.injEq,true_and]at hv;obtain⟨rfl,rfl⟩:=hv;have s:=R2.o.kids (bP C);have B:H+(ai d e.ws[a]).length<=k:=by have h1:=zO d e.ws (a+1);grind[uW,ai]
    have L:∀q,t q->q<wr.heap.size:=λq T=>aI (HD.o q T) S.o.f.size;have CA:=Z (HIH.o e.ws[a] wr s L om);have K:=Z (uW d e.ws a C);have hone:=s.one;generalize e.ws[a]=c at*;obtain⟨G,R⟩:∃G,G=ai d c:=⟨_,rfl⟩;rw[<-R]at CA B K hone;have HHL:=Z z;have HHO:=Z m;clear M y N z m R s R2 L;go_wp2_with fail;refine(CA.o).mono ?_;rintro r w2⟨sv2,rfl,F⟩;obtain⟨g2,A,Fi,NI,aml⟩:=F.o.form om;subst Fi;obtain⟨m2,v⟩:∃m2,m2=G.length:=⟨_,rfl⟩;rw[<-v]at B hone;have H2:=Z F;have f:w2.ownsRow w.heap.size 159 1 (.slice o0 H ocp) H (l.map (cj b)):=aS HO.o F.f λ_ _ x=>x;have O2:Hid (w2.ownsRow wr.heap.size 159 1 (.slice (sA g2) m2 A) m2 (G.map (cj b))):=by rw[v];exact F.o
    have hB2:w.heap.size<=w2.heap.size:=az S.o.f.size F.f.size;have J:=Z v;rw[<-v];clear F v;go_wp2_with(at_builtin;refine wpList_append_own _ rfl _ _ 191 rfl w.heap.size 159 i0 _ 1 8 underlying191 HI.o iK.o iz.o ja.o rfl de _ _ _ rfl f (aD g2 0) m2 A (G.map (cj b)) rfl ?c0 ?c1 ?c2 ?c3 ?c4 hB2 ?_);case c0=>rw[eY,J.o];omega
    case c1=>exact O2.o.cells (g:=g2) rfl
    case c2=>intro u hu;obtain⟨c',_,rfl⟩:=List.mem_map.1 hu;rfl
    case c3=>unfold maxLen;omega
    case c4=>omega
    intro v' w3 j p _;have S3:Hid (lI w b (e::(e.ws.take (a+1)).flatMap (ai d)) v' w3):=by
     have e1:e::(e.ws.take (a+1)).flatMap (ai d)=l++G:=by rw[K.o,HHL.o];rfl
     rw[e1];refine⟨(S.o.f.trans H2.o.f).grown p λq T=>Y (by have:=(f.lt q T).1;omega),?_⟩;rw[fC,cG,<-HHO.o,<-J.o];exact j
    obtain⟨o3,c3,rfl⟩:=X j;clear j p f;go_wp2;go_roundw;case rel=>exact⟨a+1,om,by go_num,S3.o⟩
    case measure=>simp[intOf];omega
   have hkl:a=e.ws.length:=om;have hki:¬(a:Int)<(e.ws.length:Int):=om;have eA:ai (d+1) e=l:=by rw[z,hkl,bX];rfl
   have EA:=Z eA;have Il:=Z m;clear M y N eA z m;go_wp2;go_ret;exact⟨_,rfl,by rw[EA.o];exact S.o⟩
def RO(s:gI):List Value:=[.string (sb s.name),.int .i64 s.n,.bool s.word]
def eJ(l:List gI):List Value:=l.flatMap RO
theorem l'(l:List gI):∀(k i:Nat)(h:k<l.length),i<3->(eJ l)[k*3+i]?=(RO l[k])[i]?:=by induction l with|nil=>intro k i h;simp at h|cons a r c=>intro k i h b;have e:eJ (a::r)=(RO a)++eJ r:=rfl;rw[e];have d:(RO a).length=3:=rfl;cases k with|zero=>rw[List.getElem?_append_left om];simp|succ k=>rw[List.getElem?_append_right om];rw[show(k+1)*3+i-(RO a).length=k*3+i from by omega];exact c k i (by simpa using h) b
def js(A:Nat->Nat)(o:Option Tv):Value:=match o with|none=>.pointer none|some t=>cj A t
theorem Hq(v:Tv)(a:gI):bj v a 0=none:=by
 unfold bj idx;split;.split<;>simp
 split;.split<;>simp
 rfl
theorem Hr{v:Tv}{st:gI}(i:n<v.ws.length)(h:(st.word=true->v.d.kind=5->(v.ws[n]).d.name=st.name->bj v st n≠none)/\(st.word=false->v.d.kind=4->(n:Int)≠(if st.n<0 then st.n+v.ws.length else st.n))):bj v st (n+1)=bj v st n:=by
 unfold bj at*;split
 .rename_i a;rw[ae a]at h;split;.rename_i d;rw[ae d]at h;rw[eC i,List.find?_append];cases g:(v.ws.take n).find? (λc=>c.d.name==st.name)with|some x=>rfl|none=>have:¬(v.ws[n]).d.name=st.name:=λe=>(h.1 a d e) g;simp[this]
  rfl
 rename_i a;split
 .rename_i f;have j:=h.2 (by simpa using a) f;clear h;generalize(if st.n<0 then st.n+(v.ws.length:Int)else st.n)=m at*;unfold idx;split;.rfl
  rename_i k;rw[List.getElem?_take,List.getElem?_take];by_cases b:m.toNat<n;.rw[ae om,ae b]
  rw[aa om,aa b]
 rfl
theorem MX{v:Tv}{st:gI}(c:n<v.ws.length)(h:(st.word=true/\v.d.kind=5/\(v.ws[n]).d.name=st.name/\bj v st n=none)\/(st.word=false/\v.d.kind=4/\(n:Int)=(if st.n<0 then st.n+v.ws.length else st.n))):bj v st (n+1)=some v.ws[n]:=by
 unfold bj at*;rcases h with⟨b,f,a,d⟩|⟨b,e,a⟩;.rw[ae b,ae f]at d⊢;rw[eC c,List.find?_append,d];simp[a]
 rw[aa (by rw[b];decide),ae e];unfold idx;rw[<-a,aa om];simp[c]
theorem Hs{st:gI}{b:Bool}{a:Int}(d:n<l.ws.length)(i:b=decide ((l.ws[n]).d.name=st.name))(g:a=(if st.n<0 then st.n+l.ws.length else st.n)):(st.word=true/\l.d.kind=5/\b=true/\bj l st n=none/\bj l st (n+1)=some l.ws[n])\/(st.word=true/\l.d.kind=5/\b=true/\(∃x,bj l st n=some x)/\bj l st (n+1)=bj l st n)\/(st.word=true/\l.d.kind=5/\b=false/\True/\bj l st (n+1)=bj l st n)\/(st.word=true/\((l.d.kind:Int)==5)=false/\True/\True/\bj l st (n+1)=bj l st n)\/(st.word=false/\l.d.kind=4/\(n:Int)=a/\True/\bj l st (n+1)=some l.ws[n])\/(st.word=false/\l.d.kind=4/\((n:Int)==a)=false/\True/\bj l st (n+1)=bj l st n)\/st.word=false/\((l.d.kind:Int)==4)=false/\True/\True/\bj l st (n+1)=bj l st n:=by have e:=Hr (v:=l) (st:=st) d;have f:=MX (v:=l) (st:=st) d;rw[<-g]at e f;generalize l.ws[n]=c,bj l st n=h,bj l st (n+1)=j at*;cases h<;>grind(splits:=30)
theorem zP{a:gI}(h:bj l a n=some L):L∈l.ws:=by
 unfold bj at h;split at h
 .split at h;.exact List.mem_of_mem_take (List.mem_of_find?_eq_some h)
  cases h
 split at h
 .generalize(if a.n<0 then a.n+(l.ws.length:Int)else a.n)=m at*;unfold idx at h;by_cases b:m<0;.rw[ae b]at h;cases h
  rw[aa b]at h;exact List.mem_of_mem_take (List.mem_of_getElem? h)
 cases h
theorem Ht{e:TypeId}(h:w.ownsRow n e k a i f):i<=9223372036854775807:=by
 rcases h.2 with⟨_,x⟩|⟨_,b,_,_,_,_,d,c,_⟩;.omega
 unfold maxLen at c;omega
variable{B:List gI}
theorem RQ{w:World}(h:RT w b t n k l)(hl:w.ownsRow i 292 3 a B.length (eJ B))(tD:B.length<=200)(K:∀p∈B,-1000<p.n/\p.n<1000):Calls prog 216 #[(pT (b l.d.af)),a] w λr w'=>r=.returned (js b (aY l B))/\∃o,w'=w.drewN o:=by
 obtain⟨l0,lcp,rfl⟩:=X hl;have HR:=Z h;have HL:=Z hl;have NQ:=Z K;clear h hl K;go_enter func216,ntmps216;go_wp2;go_loopw[0,5]λv f wr=>∃(j:Nat)(u:Tv)(m q:Nat),j<=B.length/\f=.int .i64 j/\v=(pT (b u.d.af))/\RT w b t n m u/\aY u (B.drop j)=aY l B/\wr=w.drewN qλ_ f _=>B.length-(intOf f).toNat;case atStart=>exact⟨0,l,k,0,aT _,rfl,rfl,HR.o,rfl,rfl⟩
 case round=>
  obtain⟨j,u,m,q,hj,rfl,rfl,hu,z,rfl⟩:=hrel;have HU:=Z hu;have S:=Z z;clear hu z;by_cases A:j<B.length
  .have hji:(j:Int)<(B.length:Int):=om;obtain⟨g,cap,hv,_,_⟩:=HL.o.form om;simp only[Value.slice.injEq,true_and]at hv;obtain⟨rfl,rfl⟩:=hv;have k0:=(HL.o.cellAt (j*3+0) om).trans (l' B j 0 A om);have k1:=(HL.o.cellAt (j*3+1) om).trans (l' B j 1 A om);have k2:=(HL.o.cellAt (j*3+2) om).trans (l' B j 2 A om);have U:B.drop j=B[j]::B.drop (j+1):=List.drop_eq_getElem_cons A;have hst:=NQ.o B[j] (bP A);have HDR:=Z U;generalize B[j]=p at*;simp only[RO,List.getElem?_cons_zero,List.getElem?_cons_succ,Nat.add_zero]at k0 k1 k2;obtain⟨m',rfl⟩:∃m',m=m'+1:=by cases m with|zero=>exact absurd HU.o id|succ m=>exact⟨m,rfl⟩
   obtain⟨svu,R⟩:=HU.o.vc;obtain⟨u0,ucp,rfl⟩:=X R.o;have HVC:=Z R;have y0:w.cell? (aD (b u.d.af) 0)=some (.int .i64 (u.d.kind:Nat)):=R.b.cell 0;have y8:w.cell? (aD (b u.d.af) 8)=some (.slice u0 u.ws.length ucp):=R.b.cell 8;have hul:u.ws.length<=9223372036854775807:=Ht R.o;obtain⟨amo,amp⟩:=hst;obtain⟨nn,N⟩:∃nn,nn=(if p.n<0 then p.n+(u.ws.length:Int)else p.n):=⟨_,rfl⟩;have Ui:=Z N;clear R U;have G:(p.n<0/\p.n+(u.ws.length:Int)=nn)\/(¬p.n<0/\p.n=nn):=by rw[N];split<;>simp_all
   clear N;rcases G with⟨W,J⟩|⟨W,J⟩;all_goals
    go_wp2;go_loopw[6,8]λx kk wr=>∃(o q':Nat),o<=u.ws.length/\kk=.int .i64 o/\x=js b (bj u p o)/\wr=w.drewN q'λ_ kk _=>u.ws.length-(intOf kk).toNat;case atStart=>exact⟨0,q,aT _,rfl,by rw[Hq];rfl,rfl⟩
    case round=>
     obtain⟨o,q',hk,rfl,rfl,rfl⟩:=hrel;clear J;by_cases M:o<u.ws.length
     .have hki:(o:Int)<(u.ws.length:Int):=om;obtain⟨g',cap',WM,hcell⟩:=HVC.o.at_ M;simp only[Value.slice.injEq,true_and]at WM;obtain⟨rfl,rfl⟩:=WM;have y:=HU.o.kids (bP M);obtain⟨m2,rfl⟩:∃m2,m'=m2+1:=by cases m' with|zero=>exact absurd y id|succ m=>exact⟨m,rfl⟩
      obtain⟨Ya,T⟩:=y.vc;have z3:w.cell? ⟨b (u.ws[o]).d.af,3,none⟩=some (.string (sb (u.ws[o]).d.name)):=T.b.cell 3;have F:=Hs (st:=p) (b:=(sb (u.ws[o]).d.name).toList==(sb p.name).toList) M (by rw[Lib.toList_data,Lib.toList_data,Bool.eq_iff_iff];simp) Ui.o;clear y T;generalize u.ws[o]=c at*;generalize sb c.d.name=NA,sb p.name=NB,bj u p o=po at*;rcases F with⟨P,L,G,rfl,D⟩|⟨P,L,G,⟨x,rfl⟩,D⟩|⟨P,L,G,_,D⟩|⟨P,L,G,_,D⟩|⟨P,L,G,_,D⟩|⟨P,L,G,_,D⟩|⟨P,L,G,_,D⟩;all_goals
       replace D:=Z D;rw[P]at k2;try rw[L]at y0
       try subst G
       try cases po
       try simp only[js,cj]
      all_goals
       go_wp2;go_quiet(fail);rw[fQ];go_wp2;try(go_quiet(fail);rw[fQ];go_wp2)
       go_roundw;case rel=>exact⟨o+1,_,om,by go_num,(by rw[D.o];try rfl),rfl⟩
       case measure=>simp[intOf];omega
     have hki:¬(o:Int)<(u.ws.length:Int):=om;have hkk:o=u.ws.length:=om;have H:aY l B=(bj u p o).bind λx=>aY x (B.drop (j+1)):=by rw[<-S.o,HDR.o,hkk];rfl
     have s:=Z H;have C:∀x,bj u p o=some x->x∈u.ws:=λx hx=>zP hx;obtain⟨po,I8⟩:∃po,po=bj u p o:=⟨_,rfl⟩;rw[<-I8]at s C⊢;clear H I8;cases po with|none=>rw[show js b none=.pointer none from rfl];go_wp2;go_ret;exact⟨by rw[s.o];rfl,_,rfl⟩|some x=>
      rw[show js b (some x)=(pT (b x.d.af))from rfl];have HX:=Z (HU.o.kids (C x rfl));clear C;go_wp2;go_roundw;case rel=>exact⟨j+1,x,m',_,om,by go_num,rfl,HX.o,by rw[s.o];rfl,rfl⟩
      case measure=>simp[intOf];omega
  have hjl:j=B.length:=om;have hji:¬(j:Int)<(B.length:Int):=om;have e:aY l B=some u:=by rw[<-S.o,hjl,List.drop_length];rfl
  have d:=Z e;clear e;go_wp2;go_ret;exact⟨by rw[d.o];rfl,q,rfl⟩
theorem MY{R:Ending->World->Prop}{b:Act}(j:b.defers=[])(i:b.tmps[2]?.getD undef=pT n)(d:V w n #[a,c,o] 42)(h:R (.returned (.agg #[a,c,o])) w):bodyPost prog f96 R .ret b w:=by have e:=d.cell 0;have f:=d.cell 1;have g:=d.cell 2;simp at e f g;refine bodyPost_ret (v:=.agg #[a,c,o]) ?_ j h;simp[results,results96,go_sem,i,e,f,g]
theorem MZ(h:VC w b l a):Calls prog 96 #[(pT (b l.d.af))] w λr d=>r=.returned (.agg #[.string (sb l.d.path),.int .i64 (l.d.af:Nat),.int .i64 (l.d.to:Nat)])/\Q w d:=by have c4:w.cell? (aD (b l.d.af) 4)=some (.string (sb l.d.path)):=h.b.cell 4;have c5:w.cell? (aD (b l.d.af) 5)=some (.int .i64 (l.d.af:Nat)):=h.b.cell 5;have e:w.cell? (aD (b l.d.af) 6)=some (.int .i64 (l.d.to:Nat)):=h.b.cell 6;have c:b l.d.af<w.heap.size:=h.b.lt;clear h;go_enter func96,ntmps96;go_wp2;go_region;all_goals go_wp2;refine MY rfl rfl (V.new w #[.string (sb l.d.path),.int .i64 (l.d.af:Nat),.int .i64 (l.d.to:Nat)] 42) ?_;exact⟨rfl,((Fr.refl _ w).alloc _).drew⟩
def HSt(w:World)(D:Nat->Prop)(a:Value)(l:List gI):Prop:=(∃B,w.ownsRow B 292 3 a l.length (eJ l))/\l.length<=200/\(∀b∈l,-1000<b.n/\b.n<1000)/\∀k,a.ownBlock=some k->D k
def ko(w:World)(A:Nat->Nat)(b:Nat)(t:Tv)(m:Bool):Prop:=∀q,Calls prog 168 #[pT b,(pT (A t.d.af))] (w.drewN q) λr a=>r=.returned (.bool m)/\∃k,a=w.drewN k
variable{A H:Bool}
theorem QZ(d:V w n #[.int .i64 13,pT k,a,c,o] 249)(h:ko w b k l A):ko w b n l (!A):=by intro q;have c0:w.cell? (aD n 0)=some (.int .i64 13):=d.cell 0;have c1:w.cell? (aD n 1)=some (pT k):=d.cell 1;unfold ko at h;have H:=Z h;clear d h;go_enter func168,ntmps168;go_wp2_with fail;refine(H.o _).mono ?_;rintro r f⟨rfl,e,rfl⟩;go_wp2;go_ret;exact⟨rfl,e,rfl⟩
theorem Wv(e:V w n #[.int .i64 11,pT k,pT i,a,c] 249)(h:ko w b k l A)(f:ko w b i l H):ko w b n l (A||H):=by
 intro q;have c0:w.cell? (aD n 0)=some (.int .i64 11):=e.cell 0;have c1:w.cell? (aD n 1)=some (pT k):=e.cell 1;have c2:w.cell? (aD n 2)=some (pT i):=e.cell 2;unfold ko at h f;have d:=Z h;have j:=Z f;clear e h f;cases A;.go_enter func168,ntmps168;go_wp2_with fail;refine(d.o _).mono ?_;rintro r o⟨rfl,g,rfl⟩;go_wp2_with fail;refine(j.o _).mono ?_;rintro r p⟨rfl,m,rfl⟩;go_wp2;go_ret;exact⟨rfl,m,rfl⟩
 go_enter func168,ntmps168;go_wp2_with fail;refine(d.o _).mono ?_;rintro r o⟨rfl,g,rfl⟩;go_wp2;go_ret;exact⟨rfl,g,rfl⟩
theorem Q5(e:V w n #[.int .i64 12,pT k,pT i,a,c] 249)(h:ko w b k l A)(f:ko w b i l H):ko w b n l (A&&H):=by
 intro q;have c0:w.cell? (aD n 0)=some (.int .i64 12):=e.cell 0;have c1:w.cell? (aD n 1)=some (pT k):=e.cell 1;have c2:w.cell? (aD n 2)=some (pT i):=e.cell 2;unfold ko at h f;have d:=Z h;have j:=Z f;clear e h f;cases A;.go_enter func168,ntmps168;go_wp2_with fail;refine(d.o _).mono ?_;rintro r o⟨rfl,g,rfl⟩;go_wp2;go_ret;exact⟨rfl,g,rfl⟩
 go_enter func168,ntmps168;go_wp2_with fail;refine(d.o _).mono ?_;rintro r o⟨rfl,g,rfl⟩;go_wp2_with fail;refine(j.o _).mono ?_;rintro r p⟨rfl,m,rfl⟩;go_wp2;go_ret;exact⟨rfl,m,rfl⟩
theorem zQ(h:RT w b t n k l)(i:HSt w S a B)(q:Nat):Calls prog 216 #[(pT (b l.d.af)),a] (w.drewN q) λr j=>r=.returned (js b (aY l B))/\∃d,j=w.drewN d:=by obtain⟨⟨c,e⟩,f,g,_⟩:=i;refine(RQ (w:=w.drewN q) (RT.keep (w:=w) (w':=w.drewN q) (λ_ _=>rfl) _ _ h) (aV (w:=w) (w':=w.drewN q) e λ_ _=>rfl) f g).mono ?_;grind[fQ]
theorem GR{D':Nat->Prop}(g:V w i #[.int .i64 14,a,c,o,N] 249)(f:HSt w D' o B)(p:RT w b t n k l):ko w b i l (aY l B).isSome:=by intro q;have c0:w.cell? (aD i 0)=some (.int .i64 14):=g.cell 0;have c3:w.cell? (aD i 3)=some o:=g.cell 3;have h:=zQ p f;obtain⟨⟨d,m⟩,_⟩:=f;obtain⟨v,s,rfl⟩:=X m;generalize aY l B=e at*;have H:=Z h;clear g h m p;cases e with|none=>go_enter func168,ntmps168;go_wp2_with fail;refine(H.o _).mono ?_;rintro r u⟨rfl,j,rfl⟩;rw[show js b none=.pointer none from rfl];go_wp2;go_ret;exact⟨rfl,j,rfl⟩|some x=>go_enter func168,ntmps168;go_wp2_with fail;refine(H.o _).mono ?_;rintro r u⟨rfl,j,rfl⟩;rw[show js b (some x)=(pT (b x.d.af))from rfl];go_wp2;go_ret;exact⟨rfl,j,rfl⟩
theorem EL:∀(l:List gI)(a:Nat)(c x:Tv),RT w b t n a c->aY c l=some x->∃m,RT w b t n (m+1) x
 |[],a,c,x,h,e=>by
  have:c=x:=by simpa[aY]using e
  subst this;cases a with
  |zero=>exact absurd h id|succ a=>exact⟨a,h⟩
 |f::l,a,c,x,h,e=>by simp only[aY]at e;cases d:bj c f c.ws.length with|none=>rw[d]at e;cases e|some u=>rw[d]at e;cases a with|zero=>exact absurd h id|succ a=>exact EL l a u x (h.kids (zP d)) e
structure KtV(w:World)(wb:Nat)(c:Kt):Prop where k:w.cell? (aD wb 0)=some (.int .i64 (c.k:Nat))n:w.cell? (aD wb 1)=some (.int .i64 c.n)t:w.cell? (aD wb 2)=some (.string (sb c.t))ok:1<=c.k/\c.k<=3
theorem Uj(a b:List UInt8):(sb a).toList=(sb b).toList↔a=b:=by simp[sb]
def QV(a:Nat)(c:Kt)(o:Option Tv):Bool:=if a=15 then ei c o else if a=16 then !(ei c o)else if a=17 then fS c o else ei c o||fS c o
