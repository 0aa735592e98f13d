import Derived.Test.YtcbadebjpogmlaaGreatDoorVvTyH
import Derived.Test.YtcbadebjpogmlaaGreatDoorVvTyG5
import Derived.Test.YtcbadebjpogmlaaGreatDoorVvKa
set_option maxHeartbeats 4000000
set_option maxRecDepth 100000
namespace Go.Proofs.YtcbadebjpogmlaaGreatDoor
open Go.RowKit Tr Go.Proofs.Tryz
def qe(w:World)(g:Nat)(b:Tv->Bool):Prop:=∀(A:Nat->Nat)(D:Nat->Prop)(a n:Nat)(t:Tv),RT w A D a n t->ko w A g t (b t)
variable{w v:World}{n k i j r:Nat}{p:TypeId}{o:List Value}
theorem ie{v:Value}(h:w.ownsRow n p k v i o){g:Nat}(d:v.ownBlock≠some g)(a:Nat)(x:Value):(w.setCell (aD g a) x).ownsRow n p k v i o:=aV h λb e=>Below.heap_setCell _ _ _ _ λp=>d (by have c:b=g:=p;rw[<-c];exact e)
def DT(a b:Nat)(c:Value)(k:Nat):Prop:=k=a\/k=b\/c.ownBlock=some k
variable{g:Value}
theorem L_(h:w.ownsRow n p k g i o)(j:p≠5):Ft (λa=>g.ownBlock=some a) n w:=by
 refine⟨λa b=>(h.lt a b).1,λa b=>?_⟩;rcases h.2 with⟨x,_⟩|⟨e,c,d,f,_,l,_⟩;.rw[x]at b;cases b
 rw[f]at b;have p:e=a:=cI b;grind
theorem aan{a:Kt}(h:V w n (ktc a) 195)(b:1<=a.k/\a.k<=3):KtV w n a:=⟨h.cell 0,h.cell 1,h.cell 2,b⟩
theorem QU{base so:Nat}{l:List gI}{kt:Kt}(e:V w n #[.int .i64 (so:Nat),.pointer none,.pointer none,g,pT k] 249)(f:w.ownsRow base 292 3 g l.length (eJ l))(m:l.length<=120/\∀x∈l,-1000<x.n/\x.n<1000)(c:V w k (ktc kt) 195)(q:1<=kt.k/\kt.k<=3)(d:15<=so/\so<=18)(i:base<=n)(j:base<=k):Ft (DT n k g) base w/\fg (DT n k g) w λw=>qe w n λt=>QV so kt (aY t l):=by refine⟨(Ft.one e de i).or ((Ft.one c de j).or (L_ f de)),λu s A D v b t o=>?_⟩;have h:=e.sm s (Y rfl);have p:=c.sm s (I (Y rfl));have r:u.ownsRow base 292 3 g l.length (eJ l):=aV f λa c=>s a (I (I c));exact Ma (D':=λa=>g.ownBlock=some a) d h ⟨⟨base,r⟩,om,m.2,λ_ x=>x⟩ (aan p q) o
theorem Mb{base:Nat}{l:List gI}(b:V w n #[.int .i64 14,.pointer none,.pointer none,g,.pointer none] 249)(d:w.ownsRow base 292 3 g l.length (eJ l))(h:l.length<=120/\∀x∈l,-1000<x.n/\x.n<1000)(c:base<=n):Ft (DT n n g) base w/\fg (DT n n g) w λw=>qe w n λt=>(aY t l).isSome:=by refine⟨(Ft.one b de c).or ((Ft.one b de c).or (L_ d de)),λm s A D o a t i=>?_⟩;have e:=b.sm s (Y rfl);have j:m.ownsRow base 292 3 g l.length (eJ l):=aV d λk f=>s k (I (I f));exact GR (D':=λk=>g.ownBlock=some k) e ⟨⟨base,j⟩,om,h.2,λ_ x=>x⟩ i
variable{a m:List UInt8}{b c t:St}
theorem Wq(d:bF a)(x:Nat)(f:x=61\/x=33)(h:Live a n k 11 m i b)(c:ar a b x=true):aO a b [x,61]=tP b 2/\Live a n k 17 m i (tP b 2):=by have L:=au d (ok_eq x f (Y h) c);obtain⟨_,_,e⟩:=iE L.e0;grind
theorem Wr(c:ar a b 60=true):aO a b [60]=tP b 1:=by show aK a b 60=tP b 1;unfold aK;rw[ae c];rfl
def PoK(s:List UInt8)(l:List gI)(u u6:St)(b:Nat):Prop:=∃m,u6=tP u m/\∀a k,bA s u6.p=⟨a,u6.p+k⟩->xe s l u.p=⟨λt=>QV b a (aY t l),u.p+(m+k)⟩
variable{l:List gI}
theorem Mc(g:bF a)(x:Nat)(o:x=61\/x=33)(h:Ok a n k 11 m i b)(f:ar a b x=true):PoK a l b (aO a b [x,61]) (if x=61 then 15 else 16):=by
 obtain⟨e,_⟩:=Wq g x o (au g h) f;refine⟨2,e,λq d j=>?_⟩;rw[e]at j;have p:bA a (b.p+2)=⟨q,b.p+2+d⟩:=j;have c:=(aF f).2;unfold xe;rcases o with rfl|rfl;.rw[ae c,p,Nat.add_assoc];rfl
 rw[aa om,ae c,p,Nat.add_assoc];rfl
theorem QW{l:List gI}(g:ar a b 60=true):PoK a l b (has a (aO a b [60]) 61) (if ar a (aO a b [60]) 61 then 18 else 17):=by
 obtain⟨i,c⟩:=aF g;rw[Wr g];unfold has;split;.rename_i h;refine⟨2,rfl,λe k d=>?_⟩;have f:bA a (b.p+2)=⟨e,b.p+2+k⟩:=d;unfold xe;rw[aa om,aa om,ae c,ae (aF h).2,f,Nat.add_assoc];rfl
 rename_i h;refine⟨1,rfl,λe k d=>?_⟩;have f:bA a (b.p+1)=⟨e,b.p+1+k⟩:=d;rw[Bool.not_eq_true,aL (show(tP b 1).e=0 from i)]at h;unfold xe;rw[aa om,aa om,ae c,aa (by simpa using h),f,Nat.add_assoc];rfl
def Ws(b:Nat)(s:ByteArray)(q c:Nat)(o:List UInt8)(n:Nat)(t:St)(w:World)(r:Ending)(d:World):Prop:=∃g a,r=.returned (pT g)/\Rd b s w a d/\Ok (E s) q c 18 o n a/\(bF (E s)->∃D e m,a=tP t m/\0<m/\Ft D w.heap.size d/\fg D d (λw=>qe w g e)/\n8 (E s) t.p=⟨e,t.p+m⟩)
variable{f:Tv->Bool}
theorem aap(c:b.p+1+n<=a.length)(e:∀N,n<N->bE a N (b.p+1) []=⟨l,b.p+1+n⟩)(d:xe a l (b.p+1+n)=⟨f,b.p+1+n+k⟩):n8 a b.p=⟨f,b.p+(1+n+k)⟩:=by grind[n8]
variable{q:ByteArray}
theorem Wt(h:bB w n q b)(J:q.size<=120)(U:Ok (E q) k i 10 a j b)(n1:ar (E q) b 33=false)(n2:ar (E q) b 40=false):Calls prog 244 #[pT n] w (Ws n q k i a j b w):=by
 have f:=h.lt;have HR:=Z (Rd.same h);have HA:=Z (Ty U n1 n2);have EA:Hid (bF (E q)->aO (E q) b [64]=tP b 1):=Z λs=>(iE (au s HA.o).e0).2.2;clear h U n1 n2;go_enter func244,ntmps244;go_wp2_with fail;refine mo (eH HR.o.m ⟨#[64]⟩ de J) λv1 g1=>?_;rw[aag]at g1;have P:=Z (HR.o.trans g1);clear g1;generalize aO (E q) b [64]=u at*;go_wp2_with fail;refine(QX P.o.m J HA.o).mono ?_;rintro r v⟨c,d,S,u2,l,rfl,g2,H,D,o,T⟩;have p:n<v.heap.size:=aI f (P.o.trans g2).f.size;have R2:=Z ((oD o P.o.f.size).alloc (.cells #[.int .i64 14,.pointer none,.pointer none,.slice c d S,.pointer none] 249));have z:(Value.slice c d S).ownBlock≠some v.heap.size:=λe=>by have:=(o.lt _ e).2;omega
 have FP:Hid (bF (E q)->∃K,u2=tP b (1+K)/\(l.length<=120/\∀x∈l,-1000<x.n/\x.n<1000)/\∀φ m,xe (E q) l u2.p=⟨φ,u2.p+m⟩->n8 (E q) b.p=⟨φ,b.p+(1+K+m)⟩):=λs=>by
  obtain⟨K,e2,x1,W⟩:=T s;rw[EA.o s]at e2 W;have e3:u2.p=b.p+1+K:=by rw[e2]
  refine⟨K,by rw[e2,kR],x1,λφ m L=>?_⟩;rw[e3]at L;exact aap (by rw[<-e3];exact H.le) W L
 have G2:=Z (P.o.trans g2);have F:=Z H;have N2:=Z D;clear g2 H D o T EA HA;have o:w.heap.size<=v.heap.size:=G2.o.f.size;have B2:=Z (V.new v #[.int .i64 14,.pointer none,.pointer none,.slice c d S,.pointer none] 249);go_wp2_with fail;refine mo (eI (G2.o.m.alloc _) 61 61 rfl om) λv3 g=>?_;have G3:=Z ((G2.o.alloc _).trans g);have B3:=Z (B2.o.rd g p);have R3:=Z (gM R2.o g f);clear g;go_wp2_with fail;refine mo (eI G3.o.m 33 33 rfl om) λv4 g=>?_;have G4:=Z (G3.o.trans g);have B4:=Z (B3.o.rd g p);have R4:=Z (gM R3.o g f);clear g;go_wp2_with fail;refine mo (eI G4.o.m 60 60 rfl om) λv5 g=>?_;have B:=Z (G4.o.trans g);have N:=Z (B4.o.rd g p);have R:=Z (gM R4.o g f);clear g R2 R3 R4 B2 B3 B4 P G2 G3 G4;obtain⟨x1,h1⟩:∃x,ar (E q) u2 61=x:=⟨_,rfl⟩;obtain⟨W,h2⟩:∃x,ar (E q) u2 33=x:=⟨_,rfl⟩;obtain⟨x3,h3⟩:∃x,ar (E q) u2 60=x:=⟨_,rfl⟩;rw[h1,h2,h3];have H1:=Z h1;have H2:=Z h2;have H3:=Z h3;clear h1 h2 h3;by_cases hx:x1=false/\W=false/\x3=false
 .obtain⟨rfl,rfl,rfl⟩:=hx;have y:Hid (Ws n q k i a j b w (.returned (pT v.heap.size)) v5):=by have b1:=H1.o;have b2:=H2.o;have b3:=H3.o;refine⟨_,_,rfl,B.o,Dx F.o N2.o b1 b2 b3,λs=>?_⟩;obtain⟨K,e,hl,L⟩:=FP.o s;obtain⟨f1,f2⟩:=Mb (base:=w.heap.size) (l:=l) N.o R.o hl o;rw[aL (au s F.o).e0]at b1 b2 b3;simp only[beq_eq_false_iff_ne]at b1 b2 b3;refine⟨_,_,_,e,om,f1,f2,L _ 0 ?_⟩;grind[xe]
  go_wp2;go_ret;exact y.o
 go_upto_block 0 with fail;go_cut[7]from 20λ_ wc=>∃(M:Nat)(u6:St),Rd n q w u6 wc/\V wc v.heap.size #[.int .i64 (M:Nat),.pointer none,.pointer none,.slice c d S,.pointer none] 249/\wc.ownsRow w.heap.size 292 3 (.slice c d S) l.length (eJ l)/\Ok (E q) k i 17 a j u6/\(15<=M/\M<=18)/\(bF (E q)->PoK (E q) l u2 u6 M);case first=>
  cases x1
  .cases W
   .cases x3;.grind
    clear hx;go_wp2_with fail;refine mo (eH B.o.m ⟨#[60]⟩ de J) λv6 g=>?_;rw[aaj]at g;have C:=Z (B.o.trans g);have t:=Z (N.o.rd g p);have G:=Z (gM R.o g f);clear g;have PL:=Z (QW (l:=l) H3.o);have O6:=Z (Dw F.o H3.o);generalize aO (E q) u2 [60]=u5 at*;have f0:=t.o.fz 0;have c0:=t.o.cell 0;simp at c0;have G7:=Z (C.o.dr f v.heap.size 0 o (.int .i64 17));have B7:=Z (t.o.set 0 (.int .i64 17));have R7:=Z (ie G.o z 0 (.int .i64 17));go_wp2_with fail;clear f0 c0;refine mo (kM G7.o.m 61 61 rfl om J) λv9 g=>?_;have G9:=Z (G7.o.trans g);have B9:=Z (B7.o.rd g p);have R9:=Z (gM R7.o g f);clear g;generalize has (E q) u5 61=u6 at*;cases h9:ar (E q) u5 61;.rw[h9]at PL;clear h9;go_wp2;go_meet;exact⟨17,u6,G9.o,B9.o,R9.o,O6.o,om,λ_=>PL.o⟩
    rw[h9]at PL;clear h9;have f0:=B9.o.fz 0;have c0:=B9.o.cell 0;simp at c0;go_wp2;go_meet;exact⟨18,u6,G9.o.dr f v.heap.size 0 o (.int .i64 18),B9.o.set 0 (.int .i64 18),ie R9.o z 0 (.int .i64 18),O6.o,om,λ_=>PL.o⟩
   clear hx;go_wp2_with fail;refine mo (eH B.o.m ⟨#[33,61]⟩ de J) λv6 g=>?_;rw[aai]at g;have C:=Z (B.o.trans g);have t:=Z (N.o.rd g p);have G:=Z (gM R.o g f);clear g;have f0:=t.o.fz 0;have c0:=t.o.cell 0;simp at c0;go_wp2;go_meet;exact⟨16,_,C.o.dr f v.heap.size 0 o (.int .i64 16),t.o.set 0 (.int .i64 16),ie G.o z 0 (.int .i64 16),ok_eq 33 (I rfl) F.o H2.o,om,λs=>Mc s 33 (I rfl) F.o H2.o⟩
  clear hx;go_wp2_with fail;refine mo (eH B.o.m ⟨#[61,61]⟩ de J) λv6 g=>?_;rw[aah]at g;have C:=Z (B.o.trans g);have t:=Z (N.o.rd g p);have G:=Z (gM R.o g f);clear g;have f0:=t.o.fz 0;have c0:=t.o.cell 0;simp at c0;go_wp2;go_meet;exact⟨15,_,C.o.dr f v.heap.size 0 o (.int .i64 15),t.o.set 0 (.int .i64 15),ie G.o z 0 (.int .i64 15),ok_eq 61 (Y rfl) F.o H1.o,om,λs=>Mc s 61 (Y rfl) F.o H1.o⟩
 case rest=>
  obtain⟨M,u6,g6,b6,r6,o6,hso,p6⟩:=hcut;have C:=Z g6;have t:=Z b6;have G:=Z r6;have O6:=Z o6;have P6:=Z p6;clear g6 b6 r6 o6 p6 B N R;go_wp2_with fail;refine(BE C.o.m J O6.o).mono ?_;rintro r v8⟨g8,u8,rfl,A,o8,k8⟩;have G8:=Z (C.o.trans A);have B8:=Z (t.o.rd A p);have R8:=Z (gM G.o A f);have hlt:=t.o.lt;have y:Hid (Ws n q k i a j b w (.returned (pT v.heap.size)) (v8.setCell (aD v.heap.size 4) (pT g8))):=by refine⟨_,_,rfl,G8.o.dr f _ _ o _,o8,λs=>?_⟩;obtain⟨kt,m8,rfl,_,p8,hg8,kb,ok8⟩:=k8 s;obtain⟨K,e,hl,L⟩:=FP.o s;obtain⟨m6,rfl,p9⟩:=P6.o s;obtain⟨f1,f2⟩:=QU (base:=w.heap.size) (so:=M) (kt:=kt) (l:=l) (B8.o.set 4 (pT g8)) (ie R8.o z 4 _) hl (kb.other om 4 _) ok8 hso o om;exact⟨_,_,_,by rw[e,kR,kR],om,f1,f2,L _ _ (p9 _ _ p8)⟩
  have f4:=B8.o.fz 4;have c4:=B8.o.cell 4;simp at c4;clear A o8 k8;go_wp2;go_ret;exact y.o
def BF(k:Nat)(s:List UInt8)(t c:St)(g z:Nat)(w:World):Prop:=∃D b m,c=tP t m/\0<m/\Ft D z w/\fg D w (λw=>qe w g b)/\∀N a,4*m+1+k<=N->pC s N k t.p a=⟨b,t.p+m⟩
def BI(k:Nat)(b:Nat)(s:ByteArray)(q c:Nat)(o:List UInt8)(n:Nat)(t:St)(w:World)(r:Ending)(d:World):Prop:=∃g a,r=.returned (pT g)/\Rd b s w a d/\Ok (E s) q c 18 o n a/\(a.e=0->(1<=k->bt (E s) a.p≠38)/\(2<=k->bt (E s) a.p≠124))/\(bF (E s)->BF k (E s) t a g w.heap.size d)
def DB(m:Nat):Prop:=∀(w:World)(b:Nat)(s:ByteArray)(t:St)(q c n:Nat)(o:List UInt8),bB w b s t->s.size<=120->Ok (E s) q c 10 o n t->o.length=n->n<=6->s.size-t.p<=m->Calls prog 215 #[pT b] w (BI 0 b s q c o n t w)
def DA(m:Nat):Prop:=∀(w:World)(b:Nat)(s:ByteArray)(t:St)(q c n:Nat)(o:List UInt8),bB w b s t->s.size<=120->Ok (E s) q c 10 o n t->o.length=n->n<=6->bI o=o->s.size-t.p<=m->Calls prog 167 #[pT b] w (BI 1 b s q c o n t w)
def DO(m:Nat):Prop:=∀(w:World)(b:Nat)(s:ByteArray)(t:St)(q c n:Nat)(o:List UInt8),bB w b s t->s.size<=120->Ok (E s) q c 10 o n t->o.length=n->n<=6->bI o=o->s.size-t.p<=m->Calls prog 119 #[pT b] w (BI 2 b s q c o n t w)
variable{d:Nat->Prop}
theorem QY(c:V w k #[.int .i64 13,pT i,.pointer none,.slice none 0 0,.pointer none] 249)(g:n<=k)(e:Ft d n w)(m:fg d w λw=>qe w i f):Ft (λa=>d a\/a=k) n w/\fg (λa=>d a\/a=k) w λw=>qe w k λt=>!(f t):=⟨e.or (Ft.one c de g),λo s A D h b t l=>QZ (c.sm s (I rfl)) (m o (λa j=>s a (Y j)) A D h b t l)⟩
theorem TQ(c:Ft d k w)(r:Rd n q w b v)(f:n<k):Sm d w v:=Sm.fr c r.f λa g e=>by unfold PB at e;omega
theorem jN(a:Ft d n w)(o:Obj):Sm d w (w.alloc o):=Sm.fr (K:=λ_=>False) a ((Fr.refl _ w).alloc o) λ_ _ x=>x
theorem Wu(b:Ft d n w)(g:k<n)(i:Nat)(v:Value):Sm d w (w.setCell (aD k i) v):=λa c=>Below.heap_setCell _ _ _ _ λe=>by have f:a=k:=e;have:=b.ge a c;omega
theorem BF.sm{w':World}(h:BF n a b c k i w)(f:∀D,Ft D i w->Sm D w w'):BF n a b c k i w':=by obtain⟨D,o,m,e,g,d,j,l⟩:=h;exact⟨D,o,m,e,g,d.keep (f D d),j.keep (f D d),l⟩
def Md(k:Nat)(s:List UInt8)(t u:St)(g z:Nat)(w:World):Prop:=∃D b m j,u=tP t m/\0<m/\j<=m/\Ft D z w/\fg D w (λw=>qe w g b)/\∀N a,4*m+1+k<=N->pC s N k t.p a=pC s (N-1-j) (k+2) u.p b
theorem Md.rd(h:Md n a b c k i w)(r:Rd j q w t v)(s:j<i):Md n a b c k i v:=by obtain⟨D,u,m,d,e,g,l,f,o,p⟩:=h;have S:=TQ f r s;exact⟨D,u,m,d,e,g,l,f.keep S,o.keep S,p⟩
theorem BF.start(h:BF n a b c k i w)(l:∀N d,pC a (N+1) (n+1) b.p d=pC a N (n+1+2) (pC a N n b.p d).p (pC a N n b.p d).v):Md (n+1) a b c k i w:=by obtain⟨D,d,m,rfl,e,f,g,j⟩:=h;refine⟨D,d,m,0,rfl,e,aT _,f,g,λN o p=>?_⟩;rw[show N=(N-1)+1 by omega,l,j _ _ om];rfl
theorem Md.done(h:Md n a b c k i w)(q:∀N d,pC a (N+1) (n+2) c.p d=⟨d,c.p⟩):BF n a b c k i w:=by obtain⟨D,d,m,j,rfl,f,r,g,l,o⟩:=h;refine⟨D,d,m,rfl,f,g,l,λN e p=>?_⟩;rw[o N e p,show N-1-j=(N-2-j)+1 by omega,q]
theorem Md.next{u3 u4:St}{y:Int}{p:Bool->Bool->Bool}(h:Md (n+1) a b c k j w)(M:BF n a u3 u4 i r w)(L:u3=tP c 2)(o:j<=r)(U:j<=w.heap.size)(T:∀N g,pC a (N+1) (n+1+2) c.p g=pC a N (n+1+2) (pC a N n (c.p+2) g).p λb=>p (g b) ((pC a N n (c.p+2) g).v b))(S:∀{w:World}{A:Nat->Nat}{d u v:Nat}{C F:Bool}{b:Tv}{sl wp:Value},V w d #[.int .i64 y,pT u,pT v,sl,wp] 249->ko w A u b C->ko w A v b F->ko w A d b (p C F)):Md (n+1) a b u4 w.heap.size j (w.alloc (.cells #[.int .i64 y,pT k,pT i,.slice none 0 0,.pointer none] 249)):=by obtain⟨D,g,m,e,rfl,h1,h2,x,P,R⟩:=h;obtain⟨K,s,W,rfl,p4,f4,o4,c4⟩:=M;subst L;have t:=V.new w #[.int .i64 y,pT k,pT i,.slice none 0 0,.pointer none] 249;have f4:=f4.low o;have G:=jN x (.cells #[.int .i64 y,pT k,pT i,.slice none 0 0,.pointer none] 249);have H:=jN f4 (.cells #[.int .i64 y,pT k,pT i,.slice none 0 0,.pointer none] 249);have o1:=P.keep G;have o2:=o4.keep H;refine⟨λn=>(D n\/K n)\/n=w.heap.size,λb=>p (g b) (s b),m+(2+W),e+1,by rw[kR,kR],om,om,((x.keep G).or (f4.keep H)).or (Ft.one t de U),λJ a A D z f b B=>S (t.sm a (I rfl)) (o1 J (λn l=>a n (Y (Y l))) A D z f b B) (o2 J (λn l=>a n (Y (I l))) A D z f b B),λN q hN=>?_⟩;rw[R N q om,show N-1-e=(N-1-(e+1))+1 by omega,T,c4 _ _ om]
theorem TR(hB:DB n):DA n:=by
 intro w b s t q c d o h M v x p z hm;have i:=h.lt;have T:=Z hB;have HR:=Z (Rd.same h);have W:=Z v;have B:=Z z;have l:=Z x;clear h v z x hB;go_enter func167,ntmps167;go_wp2_with fail;refine(T.o w b s t (base (E s) t) c d o HR.o.m M W.o.mine l.o p hm).mono ?_;rintro r v1⟨g1,u1,rfl,r1,o1,n1,d1⟩;have R1:=Z r1;have C:=Z (W.o.sr o1);have N1:=Z n1;have P:=Z d1;clear r1 o1 n1 d1;go_wp2;go_loopw[3,4,5]λcv _ _ wr=>∃g u,cv=pT g/\Rd b s w u wr/\Ok (E s) q c 18 o d u/\(u.e=0->t.p<=u.p)/\(u.e=0->2<=1->bt (E s) u.p≠38)/\(bF (E s)->Md 1 (E s) t u g w.heap.size wr)λ_ _ _ wr=>lH b s.size wr;case atStart=>exact⟨g1,u1,rfl,R1.o,C.o.1,λj=>(C.o.2 j).2,λ_ y=>by omega,λe=>(P.o e).start λ_ _=>pC1 _ _ _ _⟩
 case round=>
  clear R1 C N1 P;obtain⟨g,u,rfl,hr,ho,hp,hn,hd⟩:=hrel;have R:=Z hr;have a:=Z ho;have HP:=Z hp;have HN:=Z hn;have HD:=Z hd;clear hr ho hp hn hd;go_wp2_with fail;refine mo (eI R.o.m 38 38 rfl om) λv2 J=>?_;have F:=Z (R.o.trans J);have S:=Z λe=>(HD.o e).rd J i;clear J;cases f:ar (E s) u 38
  .have k:Hid (BI 1 b s q c o d t w (.returned (pT g)) v2):=by
    refine⟨g,u,rfl,F.o,a.o,λj=>?_,λe=>?_⟩;.grind[aL,E,bt]
    rw[aL (au e a.o).e0]at f;exact(S.o e).done λ_ _=>by rw[pC3,aa (by simpa using f)]
   clear f;go_wp2;go_ret;exact k.o
  have U:=Z (aF f);have hup:t.p<=u.p:=HP.o (aF f).1;have m:=Z (Ku B.o a.o f);have E3:Hid (bF (E s)->aO (E s) u [38,38]=tP u 2):=Z λe=>(iE (au e m.o.1).e0).2.2;clear f;go_wp2_with fail;refine mo (eH F.o.m ⟨#[38,38]⟩ de M) λv3 A=>?_;rw[Wn]at A;have G:=Z (F.o.trans A);have D3:=Z λe=>(S.o e).rd A i;have ZY:=wy (E s) [38,38] u;clear A;generalize aO (E s) u [38,38]=u3 at*;go_wp2_with fail;refine(T.o v3 b s u3 (base (E s) u3) c d o G.o.m M m.o.1.mine l.o p om).mono ?_;rintro r v4⟨g4,u4,rfl,N,o4,n4,d4⟩;have H:=Z (G.o.trans N);have D:=Z (m.o.1.sr o4);have N4:=Z n4;have D4:=Z λe=>((D3.o e).rd N i).next (y:=12) (d4 e) (E3.o e) G.o.f.size H.o.f.size λ_ _=>by rw[pC3,ae U.o.2] Q5;clear N o4 n4 d4;go_wp2;go_roundw;case rel=>exact⟨_,u4,rfl,H.o.alloc _,D.o.1,λj=>by have K:=(D.o.2 j);have h2:=m.o.2 K.1;omega,λ_ y=>by omega,D4.o⟩
  case measure=>
   rw[R.o.m.lH,(H.o.m.alloc _).lH,ae U.o.1];have L:=a.o.le;rw[ak]at L;split;.rename_i j;have K:=(D.o.2 j);have h2:=m.o.2 K.1;omega
   omega
theorem aaq(hB:DA n):DO n:=by
 intro w b s t q c d o h L x y v z hm;have k:=h.lt;have S:=Z hB;have HR:=Z (Rd.same h);have U:=Z x;have j:=Z z;have m:=Z y;clear h x z y hB;go_enter func119,ntmps119;go_wp2_with fail;refine(S.o w b s t (base (E s) t) c d o HR.o.m L U.o.mine m.o v j.o hm).mono ?_;rintro r v1⟨g1,u1,rfl,r1,o1,n1,d1⟩;have R1:=Z r1;have B:=Z (U.o.sr o1);have W:=Z n1;have N:=Z d1;clear r1 o1 n1 d1;go_wp2;go_loopw[3,4,5]λcv _ _ wr=>∃g u,cv=pT g/\Rd b s w u wr/\Ok (E s) q c 18 o d u/\(u.e=0->t.p<=u.p)/\(u.e=0->2<=2->bt (E s) u.p≠38)/\(bF (E s)->Md 2 (E s) t u g w.heap.size wr)λ_ _ _ wr=>lH b s.size wr;case atStart=>exact⟨g1,u1,rfl,R1.o,B.o.1,λf=>(B.o.2 f).2,λf _=>(W.o f).1 om,λe=>(N.o e).start λ_ _=>pC2 _ _ _ _⟩
 case round=>
  clear R1 B W N;obtain⟨g,u,rfl,hr,ho,hp,hn,hd⟩:=hrel;have R:=Z hr;have a:=Z ho;have HP:=Z hp;have HN:=Z hn;have HD:=Z hd;clear hr ho hp hn hd;go_wp2_with fail;refine mo (eI R.o.m 124 124 rfl om) λv2 H=>?_;have D:=Z (R.o.trans H);have P:=Z λe=>(HD.o e).rd H k;clear H;cases i:ar (E s) u 124
  .have l:Hid (BI 2 b s q c o d t w (.returned (pT g)) v2):=by
    refine⟨g,u,rfl,D.o,a.o,λf=>?_,λe=>?_⟩
    .have hx:bt (E s) u.p≠124:=by rw[aL f]at i;simpa using i
     exact⟨λ_=>HN.o f om,λ_=>hx⟩
    rw[aL (au e a.o).e0]at i;exact(P.o e).done λ_ _=>by rw[pC4,aa (by simpa using i)]
   clear i;go_wp2;go_ret;exact l.o
  have T:=Z (aF i);have hup:t.p<=u.p:=HP.o (aF i).1;have p:=Z (Tx j.o a.o i);have E3:Hid (bF (E s)->aO (E s) u [124,124]=tP u 2):=Z λe=>(iE (au e p.o.1).e0).2.2;clear i;go_wp2_with fail;refine mo (eH D.o.m ⟨#[124,124]⟩ de L) λv3 A=>?_;rw[aam]at A;have F:=Z (D.o.trans A);have D3:=Z λe=>(P.o e).rd A k;have ZY:=wy (E s) [124,124] u;clear A;generalize aO (E s) u [124,124]=u3 at*;go_wp2_with fail;refine(S.o v3 b s u3 (base (E s) u3) c d o F.o.m L p.o.1.mine m.o v j.o om).mono ?_;rintro r v4⟨g4,u4,rfl,M,o4,n4,d4⟩;have G:=Z (F.o.trans M);have C:=Z (p.o.1.sr o4);have N4:=Z n4;have D4:=Z λe=>((D3.o e).rd M k).next (y:=11) (d4 e) (E3.o e) F.o.f.size G.o.f.size λ_ _=>by rw[pC4,ae T.o.2] Wv;clear M o4 n4 d4;go_wp2;go_roundw;case rel=>exact⟨_,u4,rfl,G.o.alloc _,C.o.1,λf=>by have J:=(C.o.2 f);have h2:=p.o.2 J.1;omega,λf _=>(N4.o f).1 om,D4.o⟩
  case measure=>
   rw[R.o.m.lH,(G.o.m.alloc _).lH,ae T.o.1];have K:=a.o.le;rw[ak]at K;split;.rename_i f;have J:=(C.o.2 f);have h2:=p.o.2 J.1;omega
   omega
theorem Q6(c:bt a n=33)(d:∀N b,4*k+1+0<=N->pC a N 0 (n+1) b=⟨f,n+1+k⟩)(N:Nat)(b:Tv->Bool)(e:4*(1+k)+1+0<=N):pC a N 0 n b=⟨λt=>!(f t),n+(1+k)⟩:=by rw[show N=(N-1)+1 by omega,pC0,ae c,d _ _ om];simp only;rw[Nat.add_assoc]
theorem Q7(c:bt a n=40)(d:∀N b,4*k+1+2<=N->pC a N 2 (n+1) b=⟨f,n+1+k⟩)(N:Nat)(b:Tv->Bool)(e:4*(1+k+1)+1+0<=N):pC a N 0 n b=⟨f,n+(1+k+1)⟩:=by rw[show N=(N-1)+1 by omega,pC0,aa om,ae c,d _ _ om];grind
theorem BF.not(h:BF 0 a {aH b with n:=b.n+1} c n i w)(j:bt a b.p=33)(o:k<=i)(l:k<=w.heap.size):BF 0 a b {c with n:=b.n} w.heap.size k (w.alloc (.cells #[.int .i64 13,pT n,.pointer none,.slice none 0 0,.pointer none] 249)):=by obtain⟨D,s,m,rfl,r,d,f,g⟩:=h;have d:=d.low o;have e:=jN d (.cells #[.int .i64 13,pT n,.pointer none,.slice none 0 0,.pointer none] 249);obtain⟨p,q⟩:=QY (V.new w _ _) l (d.keep e) (f.keep e);exact⟨_,_,1+m,by show St.mk (b.p+1+m) b.e b.n=St.mk (b.p+(1+m)) b.e b.n;rw[Nat.add_assoc],om,p,q,Q6 j g⟩
theorem BF.par(h:BF 2 a {aH b with n:=b.n+1} c n k w)(g:bt a b.p=40)(i:aO a c [41]=tP c 1):BF 0 a b {aO a c [41]with n:=b.n} n k w:=by rw[i];obtain⟨D,l,m,rfl,j,d,e,f⟩:=h;exact⟨_,_,1+m+1,by show St.mk (b.p+1+m+1) b.e b.n=St.mk (b.p+(1+m+1)) b.e b.n;rw[Nat.add_assoc,Nat.add_assoc b.p,Nat.add_assoc],om,d,e,Q7 g f⟩
theorem Eg(M:Nat)(hI:M=0\/∃k,M=k+1/\DB k/\DO k):DB M:=by
 intro w b s t q c n o h hs l W hn6 hm;have hbw:=h.lt;have U:=l.nn;have HR:=Z (Rd.same h);have J:=Z l;have i:=Z W;have HI:=Z hI;have d:=Z U;clear h l W hI U;go_enter func215,ntmps215;go_wp2_with fail;refine mo (eI HR.o.m 33 33 rfl om) λv1 g1=>?_;have R1:=Z (HR.o.trans g1);clear g1;go_wp2_with fail;refine mo (eI R1.o.m 40 40 rfl om) λv2 g2=>?_;have f:=Z (R1.o.trans g2);clear g2 R1 HR;obtain⟨p,h1⟩:∃x,ar (E s) t 33=x:=⟨_,rfl⟩;obtain⟨v,h2⟩:∃x,ar (E s) t 40=x:=⟨_,rfl⟩;rw[h1,h2];have A:=Z h1;have B:=Z h2;clear h1 h2;go_upto_region 3 with fail;go_cut[16]from 11λx wc=>x=.bool (!p&&!v)/\wc=v2;case first=>cases p<;>cases v<;>(go_wp2;go_meet;exact⟨rfl,rfl⟩)
 case rest=>
 obtain⟨rfl,hw⟩:=hcut;have hw:=hw.symm;subst hw;have eE:w.heap.size<=v2.heap.size:=f.o.f.size;cases hx:!p&&!v
 .have K:Hid (∃x,(x=33\/x=40)/\ar (E s) t x=true):=by
   cases p
   .cases v;.cases hx
    exact⟨40,I rfl,B.o⟩
   exact⟨33,Y rfl,A.o⟩
  clear hx;have c3:=f.o.m.c3;by_cases hn:n=6
  .have ht6:((t.n:Int)==6)=true:=by rw[d.o,hn];rfl
   have HD:Hid (Ok (E s) q c 18 o n (wrong t 3)):=by obtain⟨x,y1,z⟩:=K.o;exact Dy x y1 J.o z (by rw[i.o,hn])
   have G:Hid (bF (E s)->False):=λa=>by obtain⟨x,y1,z⟩:=K.o;have:=(au a HD.o).e0;rw[fT (aF z).1]at this;cases this
   clear K hn;go_wp2_with fail;refine mo (qK f.o.m 3 3 rfl) λv3 R=>?_;have j:=Z (f.o.trans R);clear R c3;go_wp2;go_ret;exact⟨_,_,rfl,j.o.alloc _,HD.o,λ_=>⟨λy=>by omega,λy=>by omega⟩,λa=>(G.o a).elim⟩
  have hlt:t.p+1<=s.size:=by obtain⟨x,y1,z⟩:=K.o;exact BJ z om
  obtain⟨k,hk,S,T⟩:∃k,M=k+1/\DB k/\DO k:=by
   rcases HI.o with e|e;.omega
   exact e
  have HSB:=Z S;have HSO:=Z T;have hnt:t.n=n:=d.o;have ht6:((t.n:Int)==6)=false:=dH;have hn7:(t.n:Int)<=5:=om;have H:Hid (o.length≠6):=by have:=i.o;unfold Hid;omega
  have c1:=f.o.m.c1;have f1:=f.o.m.fz 1;have f3:=f.o.m.fz 3;have j:=Z (((f.o.kI (t.p+1)).na (t.n+1)).alloc (.cells #[.int .i64 0,.pointer none,.pointer none,.slice none 0 0,.pointer none] 249));have SN:=j.o.f.size;clear S T hnt;go_upto_if 44 with fail;go_cut[5,6]from 45λx5 _ wc=>∃g u,x5=pT g/\Rd b s w u wc/\u.n=t.n+1/\Ok (E s) q c 18 o t.n {u with n:=t.n}/\(bF (E s)->BF 0 (E s) t {u with n:=t.n} g w.heap.size wc);case first=>
   clear c3 c1 f1 f3;cases p
   .cases v
    .obtain⟨x,rfl|rfl,y⟩:=K.o;.rw[A.o]at y;cases y
     rw[B.o]at y;cases y
    have G:=Z ((pf 40 (I rfl) J.o B.o H.o).na (t.n+1));go_wp2_with fail;refine(HSO.o _ b s {aH t with n:=t.n+1} q c (t.n+1) (o++[40]) j.o.m hs (Y G.o) (by rw[cG,i.o,d.o];rfl) om (ln o) (by simp only[aH];omega)).mono ?_;rintro r v4⟨g4,u4,rfl,r4,o4,n4,d4⟩;have L:=Z (j.o.trans r4);have C:=Z (yp o4 λhe=>⟨(n4 he).1 om,(n4 he).2 om⟩);have D4:=Z d4;clear r4 o4 n4 d4;go_wp2_with fail;refine mo (eH L.o.m ⟨#[41]⟩ de hs) λv5 g5=>?_;rw[L7]at g5;have P:=Z (L.o.trans g5);have D5:=Z λa=>((D4.o a).sm λD ft=>TQ ft g5 om).par (aF B.o).2 ((iE (au a C.o).e0).2.2);clear g5;go_wp2;go_meet;exact⟨g4,_,rfl,P.o,C.o.nn,C.o.na t.n,λa=>by obtain⟨D,φ,m,y1,z,y3,y4⟩:=D5.o a;exact⟨D,φ,m,y1,z,y3.low SN,y4⟩⟩
   have G:=Z ((pf 33 (Y rfl) J.o A.o H.o).na (t.n+1));go_wp2_with fail;refine(HSB.o _ b s {aH t with n:=t.n+1} q c (t.n+1) (o++[33]) j.o.m hs (Y G.o) (by rw[cG,i.o,d.o];rfl) om (by simp only[aH];omega)).mono ?_;rintro r v4⟨g4,u4,rfl,r4,o4,n4,d4⟩;have L:=Z (j.o.trans r4);have C:=Z (uj o4);have D4:=Z d4;clear r4 o4 n4 d4;go_wp2;go_meet;exact⟨_,u4,rfl,L.o.alloc _,C.o.nn,C.o.na t.n,λa=>(D4.o a).not (aF A.o).2 SN L.o.f.size⟩
  case rest=>obtain⟨g,u,rfl,r5,n5,o5,d5⟩:=hcut;have P:=Z r5;have D5:=Z d5;have O5:=Z o5;clear c3 c1 f1 f3 r5 d5 o5;have c3:=P.o.m.c3;have f3:=P.o.m.fz 3;rw[n5]at c3;have c3':wc.cell? (aD b 3)=some (.int .i64 ((t.n:Int)+1)):=c3;clear c3;go_wp2;go_ret;exact⟨g,{u with n:=t.n},rfl,by simpa using P.o.na t.n,by rw[<-d.o];exact O5.o,λ_=>⟨λy=>by omega,λy=>by omega⟩,λa=>(D5.o a).sm λD ft=>by simpa using Wu ft hbw 3 (.int .i64 (t.n:Nat))⟩
 obtain⟨rfl,rfl⟩:p=false/\v=false:=by cases p<;>cases v<;>simp at hx⊢
 clear hx;go_wp2_with fail;refine(Wt f.o.m hs J.o A.o B.o).mono ?_;rintro r v3⟨R,u3,rfl,r3,o3,d3⟩;have F:Hid (BI 0 b s q c o n t w (.returned (pT R)) v3):=by refine⟨R,u3,rfl,f.o.trans r3,o3,λ_=>⟨λy=>by omega,λy=>by omega⟩,λa=>?_⟩;obtain⟨D3,φ3,m3,rfl,p3,ft3,ok3,pt3⟩:=d3 a;refine⟨D3,φ3,m3,rfl,p3,ft3.low eE,ok3,λN φ0 hN=>?_⟩;have b1:=A.o;have b2:=B.o;rw[aL (au a J.o).e0]at b1 b2;simp only[beq_eq_false_iff_ne]at b1 b2;rw[show N=(N-1)+1 by omega,pC0,aa b1,aa b2,pt3]
 clear r3 o3 d3;go_wp2;go_ret;exact F.o
theorem TS:∀m,DB m/\DO m|0=>by grind[TR,Eg,aaq]|m+1=>by have⟨a,b⟩:=TS m;grind[TR,Eg,aaq]
theorem Ww(h:bB w n q b)(c:q.size<=120)(a:Ok (E q) k i 10 [] 0 b):Calls prog 119 #[pT n] w (BI 2 n q k i [] 0 b w):=(TS (q.size-b.p)).2 w n q b k i 0 [] h c a rfl om rfl lr
