import Derived.Test.YtcbadebjpogmlaaGreatDoorVvMkL
set_option maxHeartbeats 2000000
set_option maxRecDepth 100000
namespace Go.Proofs.YtcbadebjpogmlaaGreatDoor
open Go.RowKit Tr Go.Proofs.Tryz
theorem yn:(prog.info? 237).map (λi=>(i.zero,i.size,i.bytes))=some (some .nilFunc,1,8):=by kernel_rfl
def bd(q:ByteArray)(m a:Nat):Nat:=4*(q.size-a)+(if m<=2 then m+1 else 1)
theorem ZF(a:Tv->Bool):(λt=>[a].all λa=>a t)=a:=by funext t;simp
theorem ZG(a:Tv->Bool):(λt=>[a].any λa=>a t)=a:=by funext t;simp
theorem ZH(l:List (Tv->Bool))(a:Tv->Bool):(λt=>(l++[a]).all λa=>a t)=λt=>l.all (λa=>a t)&&a t:=by funext t;simp
theorem ZI(l:List (Tv->Bool))(a:Tv->Bool):(λt=>(l++[a]).any λa=>a t)=λt=>l.any (λa=>a t)||a t:=by funext t;simp
variable{q s:ByteArray}{n k i j m f t z:Nat}
theorem lj(h:bd q n k<=i):∃a,i=a+1:=⟨i-1,by unfold bd at h;split at h<;>omega⟩
theorem Tu(h:bd q n j<=f+1)(a:j<=m)(b:n=1/\k=0/\i=3\/n=2/\k=1/\i=4):bd q i m<=f/\bd q k j<=f:=by rcases b with⟨rfl,rfl,rfl⟩|⟨rfl,rfl,rfl⟩<;>simp[bd]at*<;>omega
theorem Tw(h:bd q k i<=m+1)(a:i+2<=j)(c:j<=q.size)(b:n=0/\k=3\/n=1/\k=4):bd q k j<=m/\bd q n (i+2)<=m:=by rcases b with⟨rfl,rfl⟩|⟨rfl,rfl⟩<;>simp[bd]at*<;>omega
def ZJ(g:Nat)(q:ByteArray)(p v:Value)(n:Nat)(j:World)(s c:Nat)(o:List UInt8)(d:Nat)(l:List Nat)(m a:Nat)(r:Ending)(h:World):Prop:=∃e f D k,Live (E q) s c 18 o d e/\(∀b∈l,bt (E q) e.p≠b)/\(∀N i,bd q m a<=N->pC (E q) N m a i=⟨k,e.p⟩)/\r=.returned f/\Ft D j.heap.size h/\fg D h (λw=>dt w f k)/\Qt g q p v n j e.p h
def NV(g:Nat)(q:ByteArray)(p v:Value)(n:Nat)(f:FuncId)(m:Nat)(l:List Nat)(b:Bool)(k:Nat):Prop:=∀(w:World)(a c d:Nat)(o:List UInt8)(t:St),Er g w->Live (E q) a c 10 o d t->(b=true->bI o=o)->q.size<t.p+k->Qt g q p v n w t.p w->Calls prog f #[pT g] w (ZJ g q p v n w a c o d l m t.p)
def ZK(q:ByteArray)(B h e k a:Nat)(o:List (Tv->Bool)->Tv->Bool)(j:Nat)(m:Value)(n:World):Prop:=∃g b D,Row 237 B (λi w f=>∀l,b[i]?=some l->dt w f l) D m g n/\b.length=j/\g.length=j/\∀N c,bd q h e<=N->∃d,bd q k a<=d/\pC (E q) N h e c=pC (E q) d k a (o b)
variable{a b g l o A B:Value}{w v u:World}
theorem ZK.next{F:List (Tv->Bool)->Tv->Bool}{A:List Value}{l:List (Tv->Bool)}{D G:Nat->Prop}{p:Tv->Bool}(R:Row 237 n (λc h g=>∀p,l[c]?=some p->dt h g p) D a A w)(T:l.length=t)(J:A.length=t)(K:∀N r,bd q k i<=N->∃y,bd q j m<=y/\pC (E q) N k i r=pC (E q) y j m (F l))(H:Fr (λd=>d=z) w v)(hgB:z<n)(M:n<=w.heap.size)(ft:Ft G w.heap.size v)(ok:fg G v λh=>dt h g p)(L:∀N,bd q j m<=N->∃y,bd q j f<=y/\pC (E q) N j m (F l)=pC (E q) y j f (F (l++[p])))(hg:v.grownBy u a.ownBlock)(B:u.ownsRow n 237 1 b (t+1) (A++[g]))(hb:b.ownBlock=a.ownBlock\/b.ownBlock=some v.heap.size):ZK q n k i j f F (t+1) b u:=by
 have C:=R.fr H (λd S e=>by omega);refine⟨A++[g],l++[p],λd=>D d\/G d,?_,by simp[T],by simp[J],λN r hN=>?_⟩;.have R2:Row 237 n (λc h g=>∀o,(l++[p])[c]?=some o->dt h g o) D a A v:=⟨C.o,C.ft,C.ne,λc hi P s o x=>C.ok c hi P s o (by rw[List.getElem?_append_left om]at x;exact x)⟩;refine R2.push (A:=w.heap.size) (λd S=>(R.o.lt d S).2) M ft (λP s o x=>?_) (by rw[J];exact B) hg hb;rw[J,<-T]at x;simp at x;subst x;exact ok P s
 obtain⟨U,H,h2⟩:=K N r hN;obtain⟨W,h3,h4⟩:=L U H;exact⟨W,h3,h2.trans h4⟩
structure XV(g:Nat)(q:ByteArray)(p v:Value)(n:Nat)(w0:World)(q0 c:Nat)(o:List UInt8)(d:Nat)(l:List Nat)(b0 m0 m1:Nat)(ψ:List (Tv->Bool)->Tv->Bool)(t:St)(j:Nat)(sv:Value)(wr:World):Prop where
 qt:Qt g q p v n w0 t.p wr
 lv:Live (E q) q0 c 18 o d t
 nb:∀b∈l,bt (E q) t.p≠b
 row:ZK q w0.heap.size m0 b0 m1 t.p ψ j sv wr
 gb:g<w0.heap.size
 le:2*j<=t.p+2
 ge:b0<=t.p
theorem mS(hq:q.size<=1000)(hf:bF (E q))(hs:NV n q a b k 265 0 [] true i):NV n q a b k 256 1 [38] true i:=by
 intro w q0 c d o t he g ZL hk h;obtain⟨i0,hi,hz0,hz1,eE⟩:=info_parts yn;have HI:=Z hi;have iK:=Z hz0;have iz:=Z hz1;have ja:=Z eE;have HE:=Z he;have HF:=Z hf;have HS:=Z hs;have HT:=Z (ZL rfl);have H:=Z h;have L:=Z g;have K:=Z hk;have M:n<w.heap.size:=h.b.lt;have ZM:t.p<=q.size:=h.le;clear h g he hf hi hz0 hz1 eE hs ZL hk;go_enter func256,ntmps256;go_wp2_with fail;refine(HS.o w t.p c d o t HE.o L.o.o' (λ_=>HT.o) K.o H.o).mono ?_;rintro r w1⟨t1,f1,D1,φ1,hl,hn,F,rfl,m,g,p⟩;obtain⟨N1,T,rfl,_,_⟩:=g.self;have VU:=p.le;have B:=hl.ge;have S:Hid (XV n q a b k w q0 c o d [] t.p 1 3 (λl t=>l.all λy=>y t) t1 1 (.slice (sA w1.heap.size) 1 1) (w1.alloc (.cells #[.func (.func N1) #[] T] 237))):=by
  refine⟨p.alloc _,L.o.pd hl,hn,⟨[.func (.func N1) #[] T],[φ1],D1,Row.one p.f.size m λw' s y he=>?_,rfl,rfl,λN φ0 hN=>?_⟩,M,om,B⟩;.simp at he;subst he;exact g w' s
  obtain⟨N,rfl⟩:=lj hN;have A:=Tu hN B (Y ⟨rfl,rfl,rfl⟩);refine⟨N,A.1,?_⟩;rw[pC,F N φ0 A.2];show _=pC (E q) N 3 t1.p λt=>[φ1].all λy=>y t;rw[ZF]
 clear p hl hn H m g F VU B;go_wp2_with fail;go_loopw[3]λsv wr=>∃(t1:St)(j:Nat),XV n q a b k w q0 c o d [] t.p 1 3 (λl t=>l.all λy=>y t) t1 j sv wrλ_ wr=>q.size-mA n wr;case atStart=>exact⟨t1,1,S.o⟩
 case round=>
  clear S;obtain⟨t2,j,W⟩:=hrel;have S:=Z W;have hjt:=W.le;have hge:=W.ge;have htq:t2.p<=q.size:=W.qt.le;have HM:=Z W.qt.mA;obtain⟨fs,φs,D,G,tD,hfl,hps⟩:=W.row;obtain⟨ao,cp,Dv⟩:=X G.o;rw[hfl]at Dv;subst Dv;have R:=Z G;have tq:=Z tD;have J:=Z hfl;have AT:=Z hps;have e0:=W.lv.e0;clear W G tD hfl hps;by_cases p:ar (E q) t2 38=true
  .obtain⟨o1,o2⟩:=Ku HT.o (Y S.o.lv) p;have L1:=au HF.o o1;have o3:=o2 L1.e0;obtain⟨T0,e1⟩:=iJ (sign:=⟨#[38,38]⟩) L1.e0;rw[show[38,38]=nb ⟨#[38,38]⟩from rfl,e1]at L1;have L2:=Z L1;have BOP:=Z (dG p);clear p e0 o1 o2 o3 e1 L1;go_wp2_with fail;refine mh (dL S.o.qt.here hq _ T0 (t2.p+2) rfl) λw2 P=>?_;have E2:=Z (HE.o.keep (S.o.qt.join P.o).f);have KK:=Z (show q.size<(t2.p+2)+i by have:=K.o;omega);go_wp2_with fail;refine(HS.o w2 (t2.p+2) c d o {t2 with p:=t2.p+2} E2.o L2.o.o' (λ_=>HT.o) KK.o P.o.here).mono ?_;rintro r w3⟨t3,f3,D3,φ3,hl,hn,F,rfl,m,g,h3⟩;obtain⟨N3,U,rfl,_,_⟩:=g.self;have hkt:t2.p+2<=t3.p:=hl.ge;have SW:=h3.le;have L3:=Z (L2.o.pd hl);have N3':=Z hn;have H3:=Z (P.o.join h3);have z:=Z (m.low P.o.f.size);have FZ:=Z g;have PC3:=Z F;clear P h3 hl hn m g F;have x:w3.ownsRow w.heap.size 237 1 (.slice ao j cp) j fs:=aS (J.o▸R.o.o) H3.o.f (λi hk e=>by omega);have Ih:w.heap.size<=wr.heap.size:=S.o.qt.f.size;have VR:w.heap.size<=w3.heap.size:=az Ih H3.o.f.size;go_wp2_with(at_builtin;refine wpList_append_own_at _ rfl _ _ 300 rfl w.heap.size 237 i0 .nilFunc 1 8 underlying300 HI.o iK.o iz.o ja.o rfl de _ _ _ rfl (x.alloc _) (aD w3.heap.size 0) 1 1 [.func (.func N3) #[] U] rfl rfl ?c1 ?c2 ?c3 ?c4 ?c5 ?_);case c1=>intro j u hj;match j,hj with|0,hj=>simp at hj;subst hj;simp[Addr.add]
   case c2=>intro u hu;simp at hu;subst hu;rfl
   case c3=>unfold maxLen;omega
   case c4=>omega
   case c5=>simp;omega
   intro v' w4 C v _ qm;have hst:∀N,bd q 3 t2.p<=N->∃N',bd q 3 t3.p<=N'/\pC (E q) N 3 t2.p (λt=>φs.all λy=>y t)=pC (E q) N' 3 t3.p λt=>(φs++[φ3]).all λy=>y t:=by intro N hN;obtain⟨N,rfl⟩:=lj hN;have A:=Tw hN hkt SW (Y ⟨rfl,rfl⟩);refine⟨N,A.1,?_⟩;rw[pC,ae BOP.o,PC3.o N _ A.2,ZH]
   have S2:Hid (XV n q a b k w q0 c o d [] t.p 1 3 (λl t=>l.all λy=>y t) t3 (j+1) v' w4):=⟨(S.o.qt.join (H3.o.alloc _)).grown v (λi hk=>(x.lt i hk).1) M lr,L3.o,N3'.o,ZK.next R.o tq.o J.o AT.o (H3.o.alloc _).f M Ih (z.o.keep (Sm.alloc z.o _)) (FZ.o.keep (Sm.alloc z.o _)) hst v C (by simpa using qm),M,om,om⟩;clear C v x hst;go_wp2;go_roundw;case rel=>exact⟨_,_,S2.o⟩
   case measure=>have m1:mA n wr=t2.p:=HM.o;have m2:mA n w4=t3.p:=S2.o.qt.mA;rw[m1,m2];omega
  have p:ar (E q) t2 38=false:=by simpa using p
  have T0:=gi (sign:=⟨#[38,38]⟩) e0 rfl p;have hb:bt (E q) t2.p≠38:=by simpa[ar,e0]using p
  have HB:=Z hb;clear p hb e0;go_wp2_with fail;refine mo (cW S.o.qt.here hq _ T0) λw2 h2=>?_;have P:=Z h2;have R2:=Z (R.o.fr h2.f λi hk e=>by omega);have F7:w.heap.size<=w2.heap.size:=(S.o.qt.join h2).f.size;clear h2;go_wp2_with fail;refine(Kp R2.o (by rw[tq.o,J.o]) (by rw[J.o];omega) F7).mono ?_;rintro r w3⟨⟨f3,D3,rfl,m,g⟩,Aw⟩;obtain⟨N3,U,rfl,_,_⟩:=g.self;have H3:=Z (S.o.qt.join (P.o.below Aw));have z:=Z m;have FZ:=Z g;clear P Aw m g;go_wp2;go_ret;refine⟨t2,_,_,_,S.o.lv,λf hb=>?_,λN φ0 hN=>?_,rfl,z.o,FZ.o,H3.o⟩;.simp only[List.mem_cons,List.mem_nil_iff,or_false]at hb;rw[hb];exact HB.o
  obtain⟨N',p,h2⟩:=AT.o N φ0 hN;rw[h2];obtain⟨N',rfl⟩:=lj p;rw[pC,aa HB.o]
theorem pX(hq:q.size<=1000)(hf:bF (E q))(hs:NV n q a b k 256 1 [38] true i):NV n q a b k 243 2 [38,124] true i:=by
 intro w q0 c d o t he g ZL hk h;obtain⟨i0,hi,hz0,hz1,eE⟩:=info_parts yn;have HI:=Z hi;have iK:=Z hz0;have iz:=Z hz1;have ja:=Z eE;have HE:=Z he;have HF:=Z hf;have HS:=Z hs;have HT:=Z (ZL rfl);have H:=Z h;have L:=Z g;have K:=Z hk;have M:n<w.heap.size:=h.b.lt;have ZM:t.p<=q.size:=h.le;clear h g he hf hi hz0 hz1 eE hs ZL hk;go_enter func243,ntmps243;go_wp2_with fail;refine(HS.o w t.p c d o t HE.o L.o.o' (λ_=>HT.o) K.o H.o).mono ?_;rintro r w1⟨t1,f1,D1,φ1,hl,hn,F,rfl,m,g,p⟩;obtain⟨N1,T,rfl,_,_⟩:=g.self;have VU:=p.le;have B:=hl.ge;have S:Hid (XV n q a b k w q0 c o d [38] t.p 2 4 (λl t=>l.any λy=>y t) t1 1 (.slice (sA w1.heap.size) 1 1) (w1.alloc (.cells #[.func (.func N1) #[] T] 237))):=by
  refine⟨p.alloc _,L.o.pd hl,hn,⟨[.func (.func N1) #[] T],[φ1],D1,Row.one p.f.size m λw' s y he=>?_,rfl,rfl,λN φ0 hN=>?_⟩,M,om,B⟩;.simp at he;subst he;exact g w' s
  obtain⟨N,rfl⟩:=lj hN;have A:=Tu hN B (I ⟨rfl,rfl,rfl⟩);refine⟨N,A.1,?_⟩;rw[pC,F N φ0 A.2];show _=pC (E q) N 4 t1.p λt=>[φ1].any λy=>y t;rw[ZG]
 clear p hl hn H m g F VU B;go_wp2_with fail;go_loopw[3]λsv wr=>∃(t1:St)(j:Nat),XV n q a b k w q0 c o d [38] t.p 2 4 (λl t=>l.any λy=>y t) t1 j sv wrλ_ wr=>q.size-mA n wr;case atStart=>exact⟨t1,1,S.o⟩
 case round=>
  clear S;obtain⟨t2,j,W⟩:=hrel;have S:=Z W;have hjt:=W.le;have hge:=W.ge;have htq:t2.p<=q.size:=W.qt.le;have HM:=Z W.qt.mA;obtain⟨fs,φs,D,G,tD,hfl,hps⟩:=W.row;obtain⟨ao,cp,Dv⟩:=X G.o;rw[hfl]at Dv;subst Dv;have R:=Z G;have tq:=Z tD;have J:=Z hfl;have AT:=Z hps;have e0:=W.lv.e0;clear W G tD hfl hps;by_cases p:ar (E q) t2 124=true
  .obtain⟨o1,o2⟩:=Tx HT.o (Y S.o.lv) p;have L1:=au HF.o o1;have o3:=o2 L1.e0;obtain⟨T0,e1⟩:=iJ (sign:=⟨#[124,124]⟩) L1.e0;rw[show[124,124]=nb ⟨#[124,124]⟩from rfl,e1]at L1;have L2:=Z L1;have BOP:=Z (dG p);clear p e0 o1 o2 o3 e1 L1;go_wp2_with fail;refine mh (dL S.o.qt.here hq _ T0 (t2.p+2) rfl) λw2 P=>?_;have E2:=Z (HE.o.keep (S.o.qt.join P.o).f);have KK:=Z (show q.size<(t2.p+2)+i by have:=K.o;omega);go_wp2_with fail;refine(HS.o w2 (t2.p+2) c d o {t2 with p:=t2.p+2} E2.o L2.o.o' (λ_=>HT.o) KK.o P.o.here).mono ?_;rintro r w3⟨t3,f3,D3,φ3,hl,hn,F,rfl,m,g,h3⟩;obtain⟨N3,U,rfl,_,_⟩:=g.self;have hkt:t2.p+2<=t3.p:=hl.ge;have SW:=h3.le;have L3:=Z (L2.o.pd hl);have N3':=Z hn;have H3:=Z (P.o.join h3);have z:=Z (m.low P.o.f.size);have FZ:=Z g;have PC3:=Z F;clear P h3 hl hn m g F;have x:w3.ownsRow w.heap.size 237 1 (.slice ao j cp) j fs:=aS (J.o▸R.o.o) H3.o.f (λi hk e=>by omega);have Ih:w.heap.size<=wr.heap.size:=S.o.qt.f.size;have VR:w.heap.size<=w3.heap.size:=az Ih H3.o.f.size;go_wp2_with(at_builtin;refine wpList_append_own_at _ rfl _ _ 300 rfl w.heap.size 237 i0 .nilFunc 1 8 underlying300 HI.o iK.o iz.o ja.o rfl de _ _ _ rfl (x.alloc _) (aD w3.heap.size 0) 1 1 [.func (.func N3) #[] U] rfl rfl ?c1 ?c2 ?c3 ?c4 ?c5 ?_);case c1=>intro j u hj;match j,hj with|0,hj=>simp at hj;subst hj;simp[Addr.add]
   case c2=>intro u hu;simp at hu;subst hu;rfl
   case c3=>unfold maxLen;omega
   case c4=>omega
   case c5=>simp;omega
   intro v' w4 C v _ qm;have hst:∀N,bd q 4 t2.p<=N->∃N',bd q 4 t3.p<=N'/\pC (E q) N 4 t2.p (λt=>φs.any λy=>y t)=pC (E q) N' 4 t3.p λt=>(φs++[φ3]).any λy=>y t:=by intro N hN;obtain⟨N,rfl⟩:=lj hN;have A:=Tw hN hkt SW (I ⟨rfl,rfl⟩);refine⟨N,A.1,?_⟩;rw[pC,ae BOP.o,PC3.o N _ A.2,ZI]
   have S2:Hid (XV n q a b k w q0 c o d [38] t.p 2 4 (λl t=>l.any λy=>y t) t3 (j+1) v' w4):=⟨(S.o.qt.join (H3.o.alloc _)).grown v (λi hk=>(x.lt i hk).1) M lr,L3.o,N3'.o,ZK.next R.o tq.o J.o AT.o (H3.o.alloc _).f M Ih (z.o.keep (Sm.alloc z.o _)) (FZ.o.keep (Sm.alloc z.o _)) hst v C (by simpa using qm),M,om,om⟩;clear C v x hst;go_wp2;go_roundw;case rel=>exact⟨_,_,S2.o⟩
   case measure=>have m1:mA n wr=t2.p:=HM.o;have m2:mA n w4=t3.p:=S2.o.qt.mA;rw[m1,m2];omega
  have p:ar (E q) t2 124=false:=by simpa using p
  have T0:=gi (sign:=⟨#[124,124]⟩) e0 rfl p;have hb:bt (E q) t2.p≠124:=by simpa[ar,e0]using p
  have HB:=Z hb;clear p hb e0;go_wp2_with fail;refine mo (cW S.o.qt.here hq _ T0) λw2 h2=>?_;have P:=Z h2;have R2:=Z (R.o.fr h2.f λi hk e=>by omega);have F7:w.heap.size<=w2.heap.size:=(S.o.qt.join h2).f.size;clear h2;go_wp2_with fail;refine(ym R2.o (by rw[tq.o,J.o]) (by rw[J.o];omega) F7).mono ?_;rintro r w3⟨⟨f3,D3,rfl,m,g⟩,Aw⟩;obtain⟨N3,U,rfl,_,_⟩:=g.self;have H3:=Z (S.o.qt.join (P.o.below Aw));have z:=Z m;have FZ:=Z g;clear P Aw m g;go_wp2;go_ret;refine⟨t2,_,_,_,S.o.lv,λf hb=>?_,λN φ0 hN=>?_,rfl,z.o,FZ.o,H3.o⟩
  .simp only[List.mem_cons,List.mem_nil_iff,or_false]at hb;have hn:=S.o.nb;simp only[List.mem_cons,List.mem_nil_iff,or_false]at hn;rcases hb with rfl|rfl;.exact hn _ rfl
   exact HB.o
  obtain⟨N',p,h2⟩:=AT.o N φ0 hN;rw[h2];obtain⟨N',rfl⟩:=lj p;rw[pC,aa HB.o]
theorem cQ(h:bt (E q) n=k)(a:k<256):n<q.size:=by grind[iF]
theorem NV.weak{f:FuncId}{l:List Nat}(h:NV n q a b k f i l false j):NV n q a b k f i l true j:=λw r c d o t g e _ m p=>h w r c d o t g e (λx=>by cases x) m p
variable{c:List UInt8}{d:St}
theorem yo(f:bF (E q))(x:UInt8)(e:x=33\/x=40)(h:Live (E q) n k 10 c i d)(a:ar (E q) d x.toNat=true):Live (E q) n k 10 (c++[x]) i (aH d):=by
 by_cases b:c.length=6;.have:=au f (Dy x.toNat (by rcases e with rfl|rfl;exact Y rfl;exact I rfl) (Y h) a b);have:=this.e0;simp[wrong,h.e0]at this
 exact pf x e (Y h) a b
theorem Qf(hq:q.size<=1000)(R:NV n q a b k 265 0 [] false i)(J:Er n w)(h:Qt n q a b k w d.p w)(T0:tk q d.p ⟨#[33]⟩=true)(o:Hid (bt (E q) d.p=33))(g:Live (E q) j m 10 (c++[33]) f (aH d))(M:q.size<d.p+1+i):Calls prog 265 #[pT n] w (ZJ n q a b k w j m c f [] 0 d.p):=by
 have HG:=Z h.b.lt;have U:=Z h.le;have H:=Z h;have T:=Z J;have W:=Z R;have L:=Z g;have K:=Z M;clear h J R g M;go_enter func265,ntmps265;go_wp2_with fail;refine mh (dL H.o hq _ T0 (d.p+1) rfl) λw1 H=>?_;go_wp2_with fail;refine(W.o w1 j m f (c++[33]) (aH d) (T.o.keep H.o.f) L.o (λx=>by cases x) K.o H.o.here).mono ?_;rintro r w2⟨t2,f2,D2,φ2,P,_,s,rfl,l,g,G⟩;obtain⟨N2,D,rfl,_,_⟩:=g.self;have C:=Z P;have v:=Z (H.o.join G);have t:=Z (l.low H.o.f.size);have y:=Z g;have A:=Z s;clear G P H l g s;go_wp2_with fail;refine(yk t.o y.o v.o.f.size).mono ?_;rintro r w3⟨⟨f3,D3,rfl,l,g⟩,p⟩;obtain⟨N3,F,rfl,_,_⟩:=g.self;have S:=Z (v.o.below p);have u:=Z l;have z:=Z g;clear v p l g;go_wp2;go_ret;refine⟨t2,_,_,_,?_,λe hb=>by(cases hb),λN B hN=>?_,rfl,u.o,z.o,S.o⟩
 .rcases uj (Y C.o)with x|x;.exact x
  exact absurd C.o.e0 x.ne
 obtain⟨N,rfl⟩:=lj hN;have hx:bd q 0 (d.p+1)<=N:=by have:=cQ o.o de;simp[bd]at*;omega
 have:=A.o N B hx;rw[pC,ae o.o,show d.p+1=(aH d).p from rfl,this]
theorem Qg(G:q.size<=1000)(T:bF (E q))(W:NV n q a b k 243 2 [38,124] true i)(S:Er n w)(h:Qt n q a b k w d.p w)(T0:tk q d.p ⟨#[33]⟩=false)(T1:tk q d.p ⟨#[40]⟩=true)(o:Hid (bt (E q) d.p=40))(l:Live (E q) j m 10 (c++[40]) f (aH d))(D:q.size<d.p+1+i):Calls prog 265 #[pT n] w (ZJ n q a b k w j m c f [] 0 d.p):=by
 have HG:=Z h.b.lt;have HLE:=Z h.le;have H:=Z h;have HE:=Z S;have HF:=Z T;have HS:=Z W;have L:=Z l;have K:=Z D;clear h S W l D T;go_enter func265,ntmps265;go_wp2_with fail;refine mh (cW H.o G _ T0) λw1 H=>?_;go_wp2_with fail;refine mh (dL H.o G _ T1 (d.p+1) rfl) λw1 H=>?_;go_wp2_with fail;refine(HS.o w1 j m f (c++[40]) (aH d) (HE.o.keep H.o.f) L.o (λ_=>ln c) K.o H.o.here).mono ?_;rintro r w2⟨t2,f2,D2,φ2,U,F,t,rfl,s,l,R⟩;obtain⟨N2,M,rfl,_,_⟩:=l.self;have u:=au HF.o (yp (Y U) λ_=>⟨F 38 si,F 124 si⟩);obtain⟨T2,P⟩:=iJ (sign:=⟨#[41]⟩) u.e0;rw[show[41]=nb ⟨#[41]⟩from rfl,P]at u;have L2:=Z u;have x:=Z (H.o.join R);have p:=Z (s.low H.o.f.size);have y:=Z l;have A:=Z t;have nV:n<w.heap.size:=HG.o;clear R U H F u P s l t;go_wp2_with fail;refine mo (dL x.o.here G _ T2 (t2.p+1) rfl) λw3 C=>?_;have B:Sm D2 w2 w3:=Sm.fr p.o C.f (λi D e=>by omega);have v:=Z (p.o.keep B);have z:=Z (y.o.keep B);have H3:=Z (x.o.join C);clear C x B;go_wp2;go_ret;refine⟨_,_,_,_,L2.o,λg hb=>by(cases hb),λN J hN=>?_,rfl,v.o,z.o,H3.o⟩;obtain⟨N,rfl⟩:=lj hN;have hx:bd q 2 (d.p+1)<=N:=by have:=cQ o.o de;simp[bd]at*;omega
 have:=A.o N J hx;rw[pC,aa (by rw[o.o];decide),ae o.o,show d.p+1=(aH d).p from rfl,this];rfl
theorem ZN(C:q.size<=1000)(hf:bF (E q))(he:Er n w)(h:Qt n q a b k w d.p w)(T0:tk q d.p ⟨#[33]⟩=false)(T1:tk q d.p ⟨#[40]⟩=false)(T2:tk q d.p ⟨#[64]⟩=true)(v:Hid (bt (E q) d.p≠33/\bt (E q) d.p≠40))(o:Live (E q) i j 11 c m {d with p:=d.p+1}):Calls prog 265 #[pT n] w (ZJ n q a b k w i j c m [] 0 d.p):=by
 have HG:=Z h.b.lt;have HLE:=Z h.le;have H:=Z h;have U:=Z he;have W:=Z hf;have L:=Z o;clear h he o hf;go_enter func265,ntmps265;go_wp2_with fail;refine mh (cW H.o C _ T0) λw1 H=>?_;go_wp2_with fail;refine mh (cW H.o C _ T1) λw1 H=>?_;go_wp2_with fail;refine mh (dL H.o C _ T2 (d.p+1) rfl) λw1 H=>?_;go_wp2_with fail;refine(Qd (t:={d with p:=d.p+1}) C W.o U.o L.o H.o).mono ?_;rintro r w2⟨t2,sv,fs,l,D,z,J,rfl,s,A,t,B,h2⟩;obtain⟨ao,cp,G⟩:=X s.o;have L2:=Z z;have B2:=Z J;have P:=Z h2;have R2:=Z s;have T:=Z B;clear h2 z J H s B;have M2:=Z (Kq R2.o A t P.o.f.size);have FL:=Z t;obtain⟨g,y⟩:∃g,g=fs.length:=⟨_,rfl⟩;rw[<-y]at G;subst G;clear y A t R2;go_wp2_with fail;refine(M2.o).mono ?_;rintro r w3⟨⟨f3,D3,rfl,p,o⟩,x⟩;obtain⟨N3,Ks,rfl,_,_⟩:=o.self;have u:=Z (P.o.below x);have K:=Z p;have R:=Z o;clear P x p o M2;go_wp2_with fail;refine(VT C W.o (U.o.keep u.o.f) L2.o B2.o u.o.here K.o R.o u.o.f.size HG.o).mono ?_;rintro r w4⟨t4,f4,D4,z,F,rfl,p,o,h4⟩;obtain⟨N4,mW,rfl,_,_⟩:=o.self;have L4:=Z z;have H4:=Z (u.o.join h4);have M:=Z p;have S:=Z o;have RP:=Z F;clear h4 z u p o F;go_wp2;go_ret;refine⟨t4,_,_,_,L4.o,λf J=>by(cases J),λN φ0 hN=>?_,rfl,M.o,S.o,H4.o⟩;obtain⟨N,rfl⟩:=lj hN;have e:n8 (E q) d.p=xe (E q) l t2.p:=by unfold n8;rw[ak,show bE (E q) (q.size+1) (d.p+1) []=⟨l,t2.p⟩from T.o]
 rw[pC,aa v.o.1,aa v.o.2,e,<-RP.o]
theorem VW(m:q.size<=1000)(i:bF (E q)):∀e,NV n q a b k 265 0 [] false e:=by
 intro e;induction e with|zero=>intro w A c d o t _ f _ y _;have:=f.le;rw[ak]at this;omega|succ e z=>
  intro w A c d o t s f _ y h;have j:=f.e0;by_cases l:ar (E q) t 33=true;.grind[yo,Z,Qf,dG,tZ]
  have l:ar (E q) t 33=false:=by simpa using l
  have r:=gi (sign:=⟨#[33]⟩) j rfl l;by_cases g:ar (E q) t 40=true;.exact Qg m i (pX m i (mS m i z.weak)) s h r ((tZ q j 40).trans g) (Z (dG g)) (yo i 40 (I rfl) f g) om
  have g:ar (E q) t 40=false:=by simpa using g
  have u:=gi (sign:=⟨#[40]⟩) j rfl g;have p:=au i (Ty (Y f) l g);obtain⟨v,x⟩:=iJ (sign:=⟨#[64]⟩) p.e0;rw[show[64]=nb ⟨#[64]⟩from rfl,x]at p;exact ZN m i s h r u v (Z ⟨aW j l,aW j g⟩) p
theorem VX(e:q.size<=1000)(c:bF (E q)){t:St}(f:Er n w)(d:Live (E q) i j 10 [] m t)(h:Qt n q a b k w t.p w):Calls prog 243 #[pT n] w (ZJ n q a b k w i j [] m [38,124] 2 t.p):=pX e c (mS e c (VW e c (q.size+1)).weak) w i j m [] t f d (λ_=>uk) om h
structure SV where
 k:Int
 nm:ByteArray
 fr:Int
 to:Int
 met:Value
 hm:met=.nilFunc\/∃f x y,met=.func f x y
def SV.cells(s:SV):List Value:=[.int .i64 s.k,.string s.nm,.int .i64 s.fr,.int .i64 s.to,s.met]
def SV.agg(s:SV):Value:=.agg #[.int .i64 s.k,.string s.nm,.int .i64 s.fr,.int .i64 s.to,s.met]
theorem SV.one(s:SV):∀u∈s.cells,u.oneCell'=true:=by
 intro u a;simp[SV.cells]at a;rcases a with rfl|rfl|rfl|rfl|rfl;.rfl
 .rfl
 .rfl
 .rfl
 rcases s.hm with h|⟨f,x,y,h⟩<;>rw[h]<;>rfl
def lz(w:World)(s:SV)(x:dz):Prop:=(x.sort=1/\s.k=0)\/(x.sort=2/\s.k=1/\x.name=E s.nm)\/(x.sort=3/\s.k=2/\x.n=s.fr/\0<=s.fr)\/(x.sort=3/\s.k=3/\x.n=-s.fr/\0<s.fr/\s.fr<=1000)\/(x.sort=4/\s.k=4/\x.af=s.fr/\((x.to<0/\4000000<s.to)\/(0<=x.to/\x.to=s.to)))\/(x.sort=5/\s.k=5/\dt w s.met x.wh)
def VY(g:Nat)(q:ByteArray)(p v:Value)(n:Nat)(h:World)(a:Nat)(k:Int)(d:ByteArray)(c e:Int)(b:Value)(r:Ending)(f:World):Prop:=r=.returned (.agg #[.int .i64 k,.string d,.int .i64 c,.int .i64 e,b])/\Qt g q p v n h a f
theorem Qt.vQ(h:Qt n q a b k w i v)(c:Nat)(d:w.heap.size<=c)(e:n≠c)(f g j l m:Value):Qt n q a b k w i (((((v.setCell (aD c 0) f).setCell (aD c 1) g).setCell (aD c 2) j).setCell (aD c 3) l).setCell (aD c 4) m):=⟨((((h.b.other e 0 _).other e 1 _).other e 2 _).other e 3 _).other e 4 _,((((h.f.setCell (aD c 0) (I d) _).setCell (aD c 1) (I d) _).setCell (aD c 2) (I d) _).setCell (aD c 3) (I d) _).setCell (aD c 4) (I d) _,h.le⟩
variable{r:Ending->World->Prop}{p:Act}
theorem pg(m:p.defers=[])(k:p.tmps[2]?.getD undef=pT n)(c:V w n #[a,b,g,l,o] 239)(j:r (.returned (.agg #[a,b,g,l,o])) w):bodyPost prog f203 r .ret p w:=by have d:=c.cell 0;have e:=c.cell 1;have f:=c.cell 2;have h:=c.cell 3;have i:=c.cell 4;simp at d e f h i;refine bodyPost_ret (v:=.agg #[a,b,g,l,o]) ?_ m j;simp[results,results203,go_sem,k,d,e,f,h,i]
theorem ph(h:Qt n q a b k w i v):Hid (Qt n q a b k w i (v.alloc (.cells #[.int .i64 0,.string ⟨#[]⟩,.int .i64 0,.int .i64 0,.nilFunc] 239)))/\Hid (Qt n q a b k (v.alloc (.cells #[.int .i64 0,.string ⟨#[]⟩,.int .i64 0,.int .i64 0,.nilFunc] 239)) i (v.alloc (.cells #[.int .i64 0,.string ⟨#[]⟩,.int .i64 0,.int .i64 0,.nilFunc] 239)))/\Hid (V (v.alloc (.cells #[.int .i64 0,.string ⟨#[]⟩,.int .i64 0,.int .i64 0,.nilFunc] 239)) v.heap.size #[.int .i64 0,.string ⟨#[]⟩,.int .i64 0,.int .i64 0,.nilFunc] 239)/\n≠v.heap.size/\w.heap.size<=v.heap.size:=⟨h.alloc _,(h.alloc _).here,V.new v _ _,Nat.ne_of_lt h.b.lt,h.f.size⟩
theorem pj(J:Hid (Qt n q a b i w j v))(c:Hid (V v k #[g,l,o,A,B] 239))(H:Hid (Qt n q a b i v m u))(f:n≠k):Hid (V u k #[g,l,o,A,B] 239)/\(∀d,u.frozen? (aD k d)=false)/\u.cell? (aD k 0)=some g/\u.cell? (aD k 1)=some l/\u.cell? (aD k 2)=some o/\u.cell? (aD k 3)=some A/\u.cell? (aD k 4)=some B/\Hid (Qt n q a b i w m u):=have c:=c.o.fr H.o.f λe=>f e.symm
 ⟨c,c.fz,c.cell 0,c.cell 1,c.cell 2,c.cell 3,c.cell 4,J.o.join H.o⟩
theorem Qh(j:q.size<=1000)(h:Qt n q a b k w d.p v)(g:tk q d.p ⟨#[42]⟩=true):Calls prog 203 #[pT n] v (VY n q a b k w (d.p+1) 0 ⟨#[]⟩ 0 0 .nilFunc):=by obtain⟨J,H,f,c,e⟩:=ph h;clear h;go_enter func203,ntmps203;go_wp2_with fail;refine mh (dL H.o j _ g (d.p+1) rfl) λl H=>?_;obtain⟨B,i,m,o,p,r,s,F⟩:=pj J f H c;clear H J f;go_wp2;refine pg rfl rfl (((((B.o.set 0 _).set 1 _).set 2 _).set 3 _).set 4 _) ?_;exact⟨rfl,F.o.vQ _ e c _ _ _ _ _⟩
theorem Kv(f:q.size<=1000)(h:Qt n q a b k w d.p v)(o:tk q d.p ⟨#[42]⟩=false)(p:tk q d.p ⟨#[39]⟩=true):Calls prog 203 #[pT n] v λr t=>∃c,dU aR q (d.p+1) c/\VY n q a b k w (if tk q c ⟨#[39]⟩then c+1 else c) 1 (q.extract (d.p+1) c) 0 0 .nilFunc r t:=by obtain⟨J,H,i,e,g⟩:=ph h;clear h;go_enter func203,ntmps203;go_wp2_with fail;refine mh (cW H.o f _ o) λm H=>?_;go_wp2_with fail;refine mh (dL H.o f _ p (d.p+1) rfl) λm H=>?_;go_wp2_with fail;refine(xP H.o f).mono ?_;rintro r m⟨c,l,rfl,j⟩;have HK:=Z l;clear H l;have H:=Z j;clear j;obtain⟨B,s,u,x,y,z,A,F⟩:=pj J i H e;clear H J i;go_wp2;refine pg rfl rfl (((((B.o.set 0 _).set 1 _).set 2 _).set 3 _).set 4 _) ?_;exact⟨c,HK.o,⟨rfl,F.o.vQ _ g e _ _ _ _ _⟩⟩
theorem Kw(g:q.size<=1000)(h:Qt n q a b k w d.p v)(y:tk q d.p ⟨#[42]⟩=false)(z:tk q d.p ⟨#[39]⟩=false)(A:tk q d.p ⟨#[45]⟩=true)(s:Er n w)(e:∀c,dU O q (d.p+1) c->c<=d.p+1+18):Calls prog 203 #[pT n] v λr D=>∃c,dU O q (d.p+1) c/\VY n q a b k w c 3 ⟨#[]⟩ ((b_ (E q) (d.p+1) c:Nat):Int) 0 .nilFunc r D:=by obtain⟨J,H,o,f,j⟩:=ph h;clear h;have x:=Z (s.keep J.o.f);have i:=Z e;clear s e;go_enter func203,ntmps203;go_wp2_with fail;refine mh (cW H.o g _ y) λl H=>?_;go_wp2_with fail;refine mh (cW H.o g _ z) λl H=>?_;go_wp2_with fail;refine mh (dL H.o g _ A (d.p+1) rfl) λl H=>?_;go_wp2_with fail;refine(jY H.o g x.o i.o _).mono ?_;rintro r l⟨c,m,⟨t,u⟩,rfl,p⟩;rw[ld]at u;subst u;have HK:=Z t;clear H t;have H:=Z p;clear p;obtain⟨B,C,G,K,L,M,N,F⟩:=pj J o H f;clear H J o;go_wp2;refine pg rfl rfl (((((B.o.set 0 _).set 1 _).set 2 _).set 3 _).set 4 _) ?_;exact⟨c,HK.o,⟨rfl,F.o.vQ _ j f _ _ _ _ _⟩⟩
theorem Kx(z:q.size<=1000)(h:Qt n q a b k w d.p v)(T0:tk q d.p ⟨#[42]⟩=false)(T1:tk q d.p ⟨#[39]⟩=false)(T2:tk q d.p ⟨#[45]⟩=false)(T3:tk q d.p ⟨#[63]⟩=true)(hf:bF (E q))(he:Er n w)(g:Live (E q) i j 10 [] m (aH d)):Calls prog 203 #[pT n] v λr T=>∃G f D φ,Live (E q) i j 18 [] m G/\(bt (E q) G.p≠38/\bt (E q) G.p≠124)/\(∀N U,bd q 2 (d.p+1)<=N->pC (E q) N 2 (d.p+1) U=⟨φ,G.p⟩)/\Ft D v.heap.size T/\fg D T (λv=>dt v f φ)/\VY n q a b k w G.p 5 ⟨#[]⟩ 0 0 f r T:=by obtain⟨J,H,B0,t,S⟩:=ph h;clear h;have HE:=Z (he.keep J.o.f);have HF:=Z hf;have L:=Z g;clear he hf g;go_enter func203,ntmps203;go_wp2_with fail;refine mh (cW H.o z _ T0) λK H=>?_;go_wp2_with fail;refine mh (cW H.o z _ T1) λK H=>?_;go_wp2_with fail;refine mh (cW H.o z _ T2) λK H=>?_;go_wp2_with fail;refine mh (dL H.o z _ T3 (d.p+1) rfl) λK H=>?_;go_wp2_with fail;refine(VX (t:=aH d) z HF.o (HE.o.keep H.o.f) L.o H.o.here).mono ?_;rintro r w2⟨t2,f2,M,φ2,hl,hn,u,rfl,s,g,h2⟩;obtain⟨N2,p,rfl,_,_⟩:=g.self;have L2:=Z hl;have o:=Z hn;have R:=Z u;have l:=Z s;have P:=Z g;have C:v.heap.size<K.heap.size:=aI si H.o.f.size;have H':=Z (H.o.join h2);clear H hl hn u s g h2;have H:=Z H'.o;clear H';obtain⟨B,hfz,z0,z1,z2,z3,z4,F⟩:=pj J B0 H t;clear H J B0;go_wp2;refine pg rfl rfl (((((B.o.set 0 _).set 1 _).set 2 _).set 3 _).set 4 _) ?_;have A:∀{W:World}(x:Sm M w2 W)(c:Nat)(y:Value),Sm M w2 (W.setCell (aD v.heap.size c) y):=λx c y e hk=>(Below.heap_setCell _ _ _ _ (by show e≠v.heap.size;have:=l.o.ge e hk;omega)).trans (x e hk);have s5:=A (A (A (A (A (λ_ _=>rfl) 0 (.int .i64 5)) 1 (.string ⟨#[]⟩)) 2 (.int .i64 0)) 3 (.int .i64 0)) 4 (.func (.func N2) #[] p);exact⟨t2,_,M,φ2,L2.o,⟨o.o 38 si,o.o 124 si⟩,R.o,(l.o.keep s5).low (mR C),P.o.keep s5,rfl,F.o.vQ _ S t _ _ _ _ _⟩
theorem VZ(e:q.size<=1000)(h:Qt n q a b k w d.p v)(C:tk q d.p ⟨#[42]⟩=false)(D:tk q d.p ⟨#[39]⟩=false)(G:tk q d.p ⟨#[45]⟩=false)(K:tk q d.p ⟨#[63]⟩=false)(u:Er n w)(t:∀c,dU O q d.p c->c=i)(f:∀c,dU O q d.p c->c<=d.p+18)(L:tk q i ⟨#[58]⟩=false):Calls prog 203 #[pT n] v (VY n q a b k w i 2 ⟨#[]⟩ ((b_ (E q) d.p i:Nat):Int) 0 .nilFunc):=by obtain⟨J,H,p,g,o⟩:=ph h;clear h;have A:=Z (u.keep J.o.f);have l:=Z f;clear u f;have z:=Z t;clear t;go_enter func203,ntmps203;go_wp2_with fail;refine mh (cW H.o e _ C) λj H=>?_;go_wp2_with fail;refine mh (cW H.o e _ D) λj H=>?_;go_wp2_with fail;refine mh (cW H.o e _ G) λj H=>?_;go_wp2_with fail;refine mh (cW H.o e _ K) λj H=>?_;go_wp2_with fail;refine(jY H.o e A.o l.o _).mono ?_;rintro r j⟨c,m,⟨x,y⟩,rfl,s⟩;rw[ld]at y;subst y;have HK:=Z x;clear H x;have H:=Z s;clear s;obtain rfl:=z.o c HK.o;go_wp2_with fail;refine mh (cW H.o e _ L) λj H=>?_;obtain⟨B,M,N,P,R,S,T,F⟩:=pj J p H g;clear H J p;go_wp2;refine pg rfl rfl (((((B.o.set 0 _).set 1 _).set 2 _).set 3 _).set 4 _) ?_;exact⟨rfl,F.o.vQ _ o g _ _ _ _ _⟩
theorem Ky(e:q.size<=1000)(h:Qt n q a b k w d.p v)(M:tk q d.p ⟨#[42]⟩=false)(N:tk q d.p ⟨#[39]⟩=false)(P:tk q d.p ⟨#[45]⟩=false)(R:tk q d.p ⟨#[63]⟩=false)(G:Er n w)(D:∀c,dU O q d.p c->c=i)(j:∀c,dU O q d.p c->c<=d.p+18)(S:tk q i ⟨#[58]⟩=true)(l:∀c,dU O q (i+1) c->c<=i+1+18):Calls prog 203 #[pT n] v λr W=>∃c,dU O q (i+1) c/\VY n q a b k w c 4 ⟨#[]⟩ ((b_ (E q) d.p i:Nat):Int) (if c=i+1 then 9223372036854775807 else((b_ (E q) (i+1) c:Nat):Int)) .nilFunc r W:=by obtain⟨J,H,A,s,z⟩:=ph h;clear h;have C:=Z (G.keep J.o.f);have t:=Z j;clear G j;have L:=Z D;have u:=Z l;clear D l;go_enter func203,ntmps203;go_wp2_with fail;refine mh (cW H.o e _ M) λf H=>?_;go_wp2_with fail;refine mh (cW H.o e _ N) λf H=>?_;go_wp2_with fail;refine mh (cW H.o e _ P) λf H=>?_;go_wp2_with fail;refine mh (cW H.o e _ R) λf H=>?_;go_wp2_with fail;refine(jY H.o e C.o t.o _).mono ?_;rintro r f⟨c,m,⟨o,K⟩,rfl,g⟩;rw[ld]at K;subst K;have HK:=Z o;clear H o;have H:=Z g;clear g;obtain rfl:=L.o c HK.o;go_wp2_with fail;refine mh (dL H.o e _ S (c+1) rfl) λf H=>?_;go_wp2_with fail;refine(jY H.o e C.o u.o _).mono ?_;rintro r f⟨U,m2,⟨o,p⟩,rfl,g⟩;have x:=Z o;have y:=Z p;clear H o p;have H:=Z g;clear g;obtain⟨B,T,z0,z1,z2,z3,z4,F⟩:=pj J A H s;clear H J A;go_wp2;refine pg rfl rfl (((((B.o.set 0 _).set 1 _).set 2 _).set 3 _).set 4 _) ?_;exact⟨U,x.o,by rw[<-y.o],F.o.vQ _ z s _ _ _ _ _⟩
theorem rT{b:Nat->Bool}(h:dU b q n k)(a:b (bt (E q) n)=false):k=n:=by
 rcases Nat.lt_or_ge n k with x|x;.rw[h.all n lr x]at a;cases a
 have:=h.ge;omega
def NZ(g:Nat)(q:ByteArray)(p v:Value)(n:Nat)(f w:World)(e c a:Nat)(r:Ending)(d:World):Prop:=∃b s D,Live (E q) e c 9 [] 0 b/\(bO (E q) a).p=b.p/\r=.returned s.agg/\Ft D w.heap.size d/\fg D d (λw=>lz w s (bO (E q) a).v)/\Qt g q p v n f b.p d
theorem NZ.of{r:Ending}{t':St}{c:Int}{d e:Int}(f:Live (E q) i j 9 [] 0 t')(g:(bO (E q) m).p=t'.p)(h:VY n q a b k w t'.p c s d e .nilFunc r u)(l:∀v,lz v ⟨c,s,d,e,.nilFunc,Y rfl⟩ (bO (E q) m).v):NZ n q a b k w v i j m r u:=⟨t',⟨c,s,d,e,.nilFunc,Y rfl⟩,λ_=>False,f,g,h.1,Ft.none _ _,λv _=>l v,h.2⟩
theorem rU {w0 w:World} {g:Nat} {q:ByteArray} {p v:Value} {n:Nat} (hq:q.size<=1000) (hf:bF (E q)) (he:Er g w0) {q0 c:Nat} {t:St} (hok:Live (E q) q0 c 6 [] 0 t) (h:Qt g q p v n w0 t.p w) :
 Calls prog 203 #[pT g] w (NZ g q p v n w0 w q0 c t.p):=by
 have e0:=hok.e0
 by_cases h1:ar (E q) t 42=true
 ·have eP:bO (E q) t.p=⟨⟨1,[],0,0,0,λ_=>false⟩,t.p+1⟩:=by unfold bO; rw [ae (dG h1)]
  exact (Qh hq h ((tZ q e0 42).trans h1)).mono (λr w' hr=>NZ.of (t':=aH t) (au hf (yq (Y hok) h1)) (by rw [eP]; rfl) hr (λw=>by rw [eP]; exact Y ⟨rfl,rfl⟩))
 have h1:ar (E q) t 42=false:=by simpa using h1
 have T0:=gi (sign:=⟨#[42]⟩) e0 rfl h1
 by_cases h2:ar (E q) t 39=true
 ·have a1:=au hf (pq (Y hok) h2)
  have e1:aK (E q) t 39=aH t:=by unfold aK; rw [ae h2]
  unfold fh at a1
  rw [e1] at a1
  refine (Kv hq h T0 ((tZ q e0 39).trans h2)).mono ?_
  rintro r w' ⟨k,hk,hr⟩
  obtain ⟨b1,b2⟩:=xO (t:=aH t) a1.e0 hk
  rw [b2,ae rfl] at hr
  rw [b1] at a1
  have eP:bO (E q) t.p=⟨⟨2,sub (E q) (t.p+1) k,0,0,0,λ_=>false⟩,k+1⟩:=by unfold bO; rw [aa (aW e0 h1),ae (dG h2),hk.eq de]
  exact NZ.of a1 (by rw [eP]) hr (λw=>by rw [eP]; exact I (Y ⟨rfl,rfl,(dD _ _ _).symm⟩))
 have h2:ar (E q) t 39=false:=by simpa using h2
 have T1:=gi (sign:=⟨#[39]⟩) e0 rfl h2
 by_cases h3:ar (E q) t 45=true
 ·have a1:=au hf (um (Y hok) h3)
  unfold countP d_ at a1
  simp only [if_true,Bool.true_and] at a1
  have e1:has (E q) t 45=aH t:=by unfold has; rw [ae h3]
  rw [e1] at a1
  refine (Kw hq h T0 T1 ((tZ q e0 45).trans h3) he (λk hk=>?_)).mono ?_
  ·have:=(k' hf (t:=aH t) e0 a1 (I (Y rfl)) hk).2
   simp only [aH] at this
   omega
  rintro r w' ⟨k,hk,hr⟩
  have wX:=yj (t:=aH t) e0 a1.e0
  have hce:=k' hf (t:=aH t) e0 a1 (I (Y rfl)) hk
  rw [hce.1] at a1
  have hlt:t.p+1<k:=by
   rcases Nat.lt_or_ge (t.p+1) k with x | x
   ·exact x
   exfalso
   have hkk:k=t.p+1:=by have:=hk.ge; omega
   have h9:=wX.1
   rw [show (aH t).p=t.p+1 from rfl,<-hkk] at h9
   have h10:=hk.stop (by have:=eZ h9; rcases Nat.lt_or_ge k q.size with y | y; exact y; rw [iF om] at this; omega)
   rw [h9] at h10
   cases h10
  have eP:bO (E q) t.p=⟨⟨3,[],-(b_ (E q) (t.p+1) k:Int),0,0,λ_=>false⟩,k⟩:=by unfold bO; rw [aa (aW e0 h1),aa (aW e0 h2),ae (dG h3),hk.eq de]
  have v1:=hk.pos hlt (wX.2 (by first | rfl | exact h3))
  have v2:=hk.val hce.2
  exact NZ.of a1 (by rw [eP]) hr (λw=>by rw [eP]; exact I (I (I (Y ⟨rfl,rfl,rfl,by show (0:Int)<((b_ (E q) (t.p+1) k:Nat):Int); omega,by show ((b_ (E q) (t.p+1) k:Nat):Int)<=1000; omega⟩))))
 have h3:ar (E q) t 45=false:=by simpa using h3
 have T2:=gi (sign:=⟨#[45]⟩) e0 rfl h3
 by_cases h4:ar (E q) t 63=true
 ·have a1:=au hf (uo (Y hok) h4)
  refine (Kx hq h T0 T1 T2 ((tZ q e0 63).trans h4) hf he a1).mono ?_
  rintro r w' ⟨t2,f,D,φ,hl,hn,hpc,hft,ZO,hr⟩
  have hx:bd q 2 (t.p+1)<=4 * (E q).length+9:=by rw [ak]; simp [bd]; omega
  have eP:bO (E q) t.p=⟨⟨5,[],0,0,0,φ⟩,t2.p⟩:=by unfold bO; rw [aa (aW e0 h1),aa (aW e0 h2),aa (aW e0 h3),ae (dG h4),hpc _ _ hx]
  obtain ⟨N2,cap2,hff,_,_⟩:=ZO.self
  exact ⟨t2,⟨5,⟨#[]⟩,0,0,f,I ⟨_,_,_,hff⟩⟩,D,au hf (yr (Y hl) (λ_=>hn)),by rw [eP],hr.1,hft,λw s=>by rw [eP]; exact I (I (I (I (I ⟨rfl,rfl,ZO w s⟩)))),hr.2⟩
 have h4:ar (E q) t 63=false:=by simpa using h4
 have T3:=gi (sign:=⟨#[63]⟩) e0 rfl h4
 have XW:∀a,(∀k,dU O q t.p k->k=a)->bV O (E q) t.p=a:=λa ha=>by
  have hle:t.p<=q.size:=h.le
  refine ha _ ⟨fN _ _ _ _,?_,λi h1 h2=>gL _ _ _ _ i h1 h2,λ_=>oM _ _ _ de⟩
  rcases Nat.lt_or_ge q.size (bV O (E q) t.p) with x | x
  ·have:=gL O (E q) _ t.p q.size hle x
   rw [iF om] at this
   cases this
  exact x
 have Ii:=(⟨aW e0 h1,aW e0 h2,aW e0 h3,aW e0 h4⟩:bt (E q) t.p≠42/\bt (E q) t.p≠39/\bt (E q) t.p≠45/\bt (E q) t.p≠63)
 -- a place, or the piece from it on
 have rest:∀(t1:St),t1.e=0->(∀k,dU O q t.p k->k=t1.p)->t1.p<=t.p+3->(ar (E q) t1 58=true->Live (E q) q0 c 8 [] 0 { t1 with p:=t1.p+1 })->(ar (E q) t1 58=false->Live (E q) q0 c 9 [] 0 t1) ->
  Calls prog 203 #[pT g] w (NZ g q p v n w0 w q0 c t.p):=by
  intro t1 e1 oH hle ha hb
  have hrE:bV O (E q) t.p=t1.p:=XW t1.p oH
  by_cases h6:ar (E q) t1 58=true
  ·have a1:=ha h6
   have T5:tk q t1.p ⟨#[58]⟩=true:=(tZ q e1 58).trans h6
   by_cases h7:digit (E q) { t1 with p:=t1.p+1 }=true
   ·have a2:=au hf (AV (Y a1) h7)
    unfold countP d_ at a2
    simp only [Bool.false_and] at a2
    rw [aa de] at a2
    refine (Ky hq h T0 T1 T2 T3 he oH (λk hk=>by have:=oH k hk; omega) T5 (λk hk=>?_)).mono ?_
    ·have:=(k' hf (t:={ t1 with p:=t1.p+1 }) e1 a2 (I (Y rfl)) hk).2
     simp only at this
     omega
    rintro r w' ⟨k,hk,hr⟩
    have eP:bO (E q) t.p=⟨⟨4,[],0,(b_ (E q) t.p t1.p:Int),(if k=t1.p+1 then -1 else (b_ (E q) (t1.p+1) k:Int)),λ_=>false⟩,k⟩:=by
     unfold bO
     rw [aa Ii.1,aa Ii.2.1,aa Ii.2.2.1,aa Ii.2.2.2,hrE,ae (dG h6),hk.eq de]
    have hce:=k' hf (t:={ t1 with p:=t1.p+1 }) e1 a2 (I (Y rfl)) hk
    have hv:=hk.val hce.2
    rw [hce.1] at a2
    have hne:k≠t1.p+1:=λx=>by
     have h9:O (bt (E q) (t1.p+1))=true:=by simpa [digit,e1] using h7
     rw [<-x] at h9
     have h10:=hk.stop (by have:=eZ h9; rcases Nat.lt_or_ge k q.size with y | y; exact y; rw [iF om] at this; omega)
     rw [h9] at h10
     cases h10
    rw [aa hne] at hr eP
    exact NZ.of a2 (by rw [eP]) hr (λw=>by rw [eP]; exact I (I (I (I (Y ⟨rfl,rfl,rfl,I ⟨by show (0:Int)<=((b_ (E q) (t1.p+1) k:Nat):Int); omega,rfl⟩⟩)))))
   have h7:digit (E q) { t1 with p:=t1.p+1 }=false:=by simpa using h7
   have a2:=au hf (ys (Y a1) h7)
   have hd:O (bt (E q) (t1.p+1))=false:=by simpa [digit,e1] using h7
   refine (Ky hq h T0 T1 T2 T3 he oH (λk hk=>by have:=oH k hk; omega) T5 (λk hk=>?_)).mono ?_
   ·have:=rT hk hd; omega
   rintro r w' ⟨k,hk,hr⟩
   have eP:bO (E q) t.p=⟨⟨4,[],0,(b_ (E q) t.p t1.p:Int),(if k=t1.p+1 then -1 else (b_ (E q) (t1.p+1) k:Int)),λ_=>false⟩,k⟩:=by
    unfold bO
    rw [aa Ii.1,aa Ii.2.1,aa Ii.2.2.1,aa Ii.2.2.2,hrE,ae (dG h6),hk.eq de]
   have hkk:=rT hk hd
   rw [ae hkk] at hr eP
   rw [hkk] at hr eP
   exact NZ.of a2 (by rw [eP]) hr (λw=>by rw [eP]; exact I (I (I (I (Y ⟨rfl,rfl,rfl,Y ⟨by show (-1:Int)<0; decide,by show (4000000:Int)<9223372036854775807; decide⟩⟩)))))
  have h6:ar (E q) t1 58=false:=by simpa using h6
  have T5:=gi (sign:=⟨#[58]⟩) e1 rfl h6
  exact (VZ hq h T0 T1 T2 T3 he oH (λk hk=>by have:=oH k hk; omega) T5).mono (λr w' hr=>by
   have eP:bO (E q) t.p=⟨⟨3,[],(b_ (E q) t.p t1.p:Int),0,0,λ_=>false⟩,t1.p⟩:=by
    unfold bO
    rw [aa Ii.1,aa Ii.2.1,aa Ii.2.2.1,aa Ii.2.2.2,hrE,aa (aW e1 h6)]
   exact NZ.of (hb h6) (by rw [eP]) hr (λw=>by rw [eP]; exact I (I (Y ⟨rfl,rfl,rfl,by show (0:Int)<=((b_ (E q) t.p t1.p:Nat):Int); omega⟩))))
 have colon:∀(t1:St) (X:Nat),X=6\/X=7->Live (E q) q0 c X [] 0 t1->ar (E q) t1 58=true->Live (E q) q0 c 8 [] 0 { t1 with p:=t1.p+1 }:=by
  intro t1 X hX hl hs
  have a1:=au hf (uq hX (Y hl) hs)
  obtain ⟨_,e2⟩:=iJ (sign:=⟨#[58]⟩) a1.e0
  rw [show [58]=nb ⟨#[58]⟩ from rfl,e2] at a1
  exact a1
 by_cases h5:ar (E q) t 58=true
 ·have hd:O (bt (E q) t.p)=false:=by rw [(aF h5).2]; decide
  exact rest t e0 (λk hk=>rT hk hd) om (λhs=>colon t 6 (Y rfl) hok hs) (λhs=>by rw [h5] at hs; cases hs)
 have h5:ar (E q) t 58=false:=by simpa using h5
 have a1:=au hf (ur (Y hok) h1 h2 h4 h3 h5)
 unfold countP d_ at a1
 simp only [if_true,Bool.true_and] at a1
 have e1:has (E q) t 45=t:=by unfold has; rw [aa (by rw [h3]; decide)]
 rw [e1] at a1
 have hle:(bu (E q) t (ar (E q) t 45)).p<=t.p+3:=by
  unfold bu
  split
  ·unfold wrong; split<;>simp
  split
  ·simp [aH]
  unfold eF
  split
  ·exact iD _ _ _ _
  omega
 refine rest _ a1.e0 (λk hk=>?_) hle (λhs=>colon _ 7 (I rfl) a1 hs) (λhs=>au hf (pY (Y a1) hs))
 have:=(k' hf e0 a1 (Y rfl) hk).1
 rw [this]
theorem Qi(s:ByteArray)(w:World)(a:s.size<=281474976710656):Calls prog 62 #[.string s] w λr b=>r=.returned (.string s)/\Below w.heap.size w b:=by go_enter func62,ntmps62;go_wp2_with fail;refine mh (O_ s w a) λc H=>?_;go_wp2;go_ret;exact⟨rfl,H.o⟩
theorem Mk.qt(h:Mk n q k c i a b w):Qt n q a b i w k w:=⟨h.b,Fr.refl _ _,h.le⟩
theorem Mk.step(h:Mk n q k c j a b w)(d:Qt n q a b j w i v):Mk n q i c j a b v:=⟨d.b,h.o,aS h.row d.f λd f e=>by omega,d.le⟩
theorem Mk.alloc{w:World}(h:Mk n q k c i a b w)(o:Obj):Mk n q k c i a b (w.alloc o):=h.step (h.qt.alloc o)
theorem Mk.lt(h:Mk n q k c i a b w):∀d,KG n b d->d<w.heap.size:=by
 rintro d(rfl|e);.exact h.b.lt
 exact(h.row.lt d e).2
theorem KG.of(h:Fr (λk=>k=n) w v):Fr (KG n a) w v:=h.mono λ_ _ e=>Y e
def WsP(g:Nat)(q:ByteArray)(a:Nat)(t:List UInt8)(n:Nat)(v:Value)(w:World)(k:Int)(c:ByteArray)(r:Ending)(b:World):Prop:=r=.returned (.agg #[.int .i64 k,.string c,.int .i64 0,.int .i64 0,.nilFunc])/\∃d e,Mk g q a t n d e b/\Fr (KG g v) w b
theorem Mk.vQ(h:Mk n q k c i a b w)(d:Nat)(p:¬KG n b d)(r s t u v:Value):Mk n q k c i a b (((((w.setCell (aD d 0) r).setCell (aD d 1) s).setCell (aD d 2) t).setCell (aD d 3) u).setCell (aD d 4) v):=by
 have A:n≠d:=λe=>p (Y e.symm);have f:Fr (λg=>g=d) w (((((w.setCell (aD d 0) r).setCell (aD d 1) s).setCell (aD d 2) t).setCell (aD d 3) u).setCell (aD d 4) v):=(((((Fr.refl (λg=>g=d) w).setCell (aD d 0) (Y rfl) _).setCell (aD d 1) (Y rfl) _).setCell (aD d 2) (Y rfl) _).setCell (aD d 3) (Y rfl) _).setCell (aD d 4) (Y rfl) _;refine⟨h.b.fr f A,h.o,?_,h.le⟩;refine⟨h.row.1,?_⟩;rcases h.row.2 with x|⟨g,j,l,m,y,o,z⟩;.exact Y x
 refine I ⟨g,j,l,m,y,(f.block g (bo o) λe=>p (I (by rw[m,<-e];rfl))).trans o,z⟩
theorem Mk.apart{v:Value}(h:Mk n q k c i a v w){b:Nat}{cs:Array Value}{T:TypeId}(p:V w b cs T)(o:T≠5)(j:n≠b):¬KG n v b:=by
 rintro(e|e);.exact j e.symm
 rcases h.row.2 with⟨x,_⟩|⟨d,f,g,l,_,r,_⟩;.rw[x]at e;cases e
 rw[l]at e;have m:d=b:=cI e;grind[V]
theorem Kz(m:p.defers=[])(k:p.tmps[2]?.getD undef=pT n)(c:V w n #[a,b,g,l,o] 239)(j:r (.returned (.agg #[a,b,g,l,o])) w):bodyPost prog f160 r .ret p w:=by have d:=c.cell 0;have e:=c.cell 1;have f:=c.cell 2;have h:=c.cell 3;have i:=c.cell 4;simp at d e f h i;refine bodyPost_ret (v:=.agg #[a,b,g,l,o]) ?_ m j;simp[results,results160,go_sem,k,d,e,f,h,i]
theorem Qj(F:q.size<=1000)(h:Mk n q k c i a b w)(P:c.length<=100000)(C:tk q k ⟨#[42]⟩=true):Calls prog 160 #[pT n] w (WsP n q (k+1) (c++[91,42,93]) i b w 0 ⟨#[]⟩):=by have J:=Z (h.alloc (.cells #[.int .i64 0,.string ⟨#[]⟩,.int .i64 0,.int .i64 0,.nilFunc] 239));have p:=Z (V.new w #[.int .i64 0,.string ⟨#[]⟩,.int .i64 0,.int .i64 0,.nilFunc] 239);have g:¬KG n b w.heap.size:=λx=>tY _ (h.lt _ x);have t:=Z ((Fr.refl (KG n b) w).alloc (.cells #[.int .i64 0,.string ⟨#[]⟩,.int .i64 0,.int .i64 0,.nilFunc] 239));clear h;go_enter func160,ntmps160;go_wp2_with fail;refine mo (dL J.o.qt F _ C (k+1) rfl) λR m=>?_;have v:=Z (J.o.step m);have u:=Z (t.o.trans (KG.of m.f));have s:=Z (p.o.fr (KG.of m.f) g);clear m J t p;go_wp2_with fail;refine(n_ v.o ⟨#[91,42,93]⟩ (by show c.length+3<=_;omega)).mono ?_;rintro r S⟨rfl,G,z,o,f2⟩;have B:=Z o;have A:=Z (u.o.trans f2);have f:=Z (s.o.fr f2 g);have j:¬KG n z w.heap.size:=o.apart f.o de λe=>g (Y e.symm);clear o f2 v u s;have D:=f.o.fz;have H:=f.o.cell 0;have K:=f.o.cell 1;have L:=f.o.cell 2;have M:=f.o.cell 3;have N:=f.o.cell 4;simp at H K L M N;go_wp2;refine Kz rfl rfl (((((f.o.set 0 _).set 1 _).set 2 _).set 3 _).set 4 _) ?_;refine⟨rfl,G,z,B.o.vQ _ j _ _ _ _ _,?_⟩;have l:∀{W:World}(x:Fr (KG n b) w W)(d:Nat)(y:Value),Fr (KG n b) w (W.setCell (aD w.heap.size d) y):=λx d y=>x.setCell (aD w.heap.size d) (I lr) y;exact l (l (l (l (l A.o 0 _) 1 _) 2 _) 3 _) 4 _
theorem Qk(D:q.size<=1000)(h:Mk n q k c i a b w)(hl:c.length<=100000)(K:tk q k ⟨#[42]⟩=false):Calls prog 160 #[pT n] w λr P=>∃f,dU isLet q k f/\WsP n q f (c++([91,39]++sub (E q) k f++[39,93])) i b w 1 (q.extract k f) r P:=by
 have J:=Z (h.alloc (.cells #[.int .i64 0,.string ⟨#[]⟩,.int .i64 0,.int .i64 0,.nilFunc] 239));have t:=Z (V.new w #[.int .i64 0,.string ⟨#[]⟩,.int .i64 0,.int .i64 0,.nilFunc] 239);have j:¬KG n b w.heap.size:=λx=>tY _ (h.lt _ x);have v:=Z ((Fr.refl (KG n b) w).alloc (.cells #[.int .i64 0,.string ⟨#[]⟩,.int .i64 0,.int .i64 0,.nilFunc] 239));clear h;go_enter func160,ntmps160;go_wp2_with fail;refine mh (cW J.o.qt D _ K) λR A=>?_;go_wp2_with fail;refine(C_ (Y ⟨rfl,rfl⟩) A.o D).mono ?_;rintro r R⟨f,s,rfl,o⟩;have HK:=Z s;have M:=s.le;clear s A;have B:=Z (J.o.step o);have z:=Z (v.o.trans (KG.of o.f));have u:=Z (t.o.fr (KG.of o.f) j);clear o J v t;go_wp2_with fail;refine(n_ B.o _ (by simp[ByteArray.size_append,ByteArray.size_extract];have e2:(⟨#[91,39]⟩:ByteArray).size=2:=rfl;have e3:(⟨#[39,93]⟩:ByteArray).size=2:=rfl;omega)).mono ?_;rintro r w2⟨rfl,N,F,p,f2⟩;have C:E (⟨#[91,39]⟩++q.extract k f++⟨#[39,93]⟩)=[91,39]++sub (E q) k f++[39,93]:=by rw[dI,dI,dD];rfl
 rw[C]at p;have H:=Z p;clear C;have G:=Z (z.o.trans f2);have g:=Z (u.o.fr f2 j);have l:¬KG n F w.heap.size:=p.apart g.o de λe=>j (Y e.symm);clear p f2 B z u;have L:=g.o.fz;have S:=g.o.cell 0;have T:=g.o.cell 1;have U:=g.o.cell 2;have z3:=g.o.cell 3;have z4:=g.o.cell 4;simp at S T U z3 z4;go_wp2;refine Kz rfl rfl (((((g.o.set 0 _).set 1 _).set 2 _).set 3 _).set 4 _) ?_;refine⟨f,HK.o,rfl,N,F,H.o.vQ _ l _ _ _ _ _,?_⟩;have m:∀{W:World}(x:Fr (KG n b) w W)(d:Nat)(y:Value),Fr (KG n b) w (W.setCell (aD w.heap.size d) y):=λx d y=>x.setCell (aD w.heap.size d) (I lr) y;exact m (m (m (m (m G.o 0 _) 1 _) 2 _) 3 _) 4 _
theorem Ql:(prog.info? 239).map (λi=>(i.zero,i.size,i.bytes))=some (some (.agg #[.int .i64 0,.string ⟨#[]⟩,.int .i64 0,.int .i64 0,.nilFunc]),5,48):=by kernel_rfl
def kK(l:List SV):List Value:=l.flatMap SV.cells
def vR(B:Nat)(b:List dz)(D:Nat->Prop)(a:Value)(l:List SV)(w:World):Prop:=bQ 239 5 SV.cells B (λi w s=>∀x,b[i]?=some x->lz w s x) D a l w
def SwL(q:ByteArray)(B c a j:Nat)(d:Value)(e:World):Prop:=∃l b D,vR B b D d l e/\b.length=j/\l.length=j/\∀m,eD (E q) (m+j) c []=if bt (E q) a=44 then eD (E q) m (a+1) b else⟨b,a⟩
structure BrL(g:Nat)(q:ByteArray)(p v:Value)(n:Nat)(w0:World)(B q0 c:Nat)(t:St)(j:Nat)(sv:Value)(wr:World):Prop where
 qt:Qt g q p v n w0 t.p wr
 lv:Live (E q) q0 (c+j) 9 [] 0 t
 row:SwL q B q0 t.p j sv wr
 gb:g<B
 wb:w0.heap.size<=B
 sz:B<=wr.heap.size
 le:j<=t.p
theorem yt(w:World)(B:Nat)(s:SV)(a:B<=w.heap.size):(w.alloc (.cells #[.int .i64 s.k,.string s.nm,.int .i64 s.fr,.int .i64 s.to,s.met] 239)).ownsRow B 239 5 (.slice (sA w.heap.size) 1 1) 1 (kK [s]):=⟨rfl,I ⟨w.heap.size,1,_,rfl,a,heap_alloc_new w _,aP _,by unfold maxLen;decide,rfl,rfl⟩⟩
theorem yu(hq:q.size<=1000)(hf:bF (E q))(H:Er n w){t:St}(h:Mk n q t.p c k a b w)(hl:c.length<=100000)(T0:tk q t.p ⟨#[91]⟩=true)(hok:Live (E q) (t.p+1) (i+1) 6 [] 0 {t with p:=t.p+1}):Calls prog 159 #[pT n] w λr U=>∃(t':St)(j:Nat)(sv p' v':Value)(l:List SV)(G:List dz)(D:Nat->Prop),m_ (E q) (i+j) (T (E q) (t.p+1)++sub (E q) (t.p+1) t'.p) t'/\t.p<t'.p/\j<=q.size/\r=.returned sv/\(vR w.heap.size G D sv l U/\G.length=j/\l.length=j/\zV (E q) t.p=⟨G,t'.p⟩)/\Mk n q t'.p (c++sub (E q) t.p t'.p) k p' v' U/\Fr (KG n b) w U:=by
 obtain⟨i0,hi,hz0,hz1,eE⟩:=info_parts Ql;have HI:=Z hi;have iK:=Z hz0;have iz:=Z hz1;have ja:=Z eE;have HE:=Z H;have HF:=Z hf;have MM:=Z h;have L:=Z hok;have c1:w.cell? (aD n 1)=some (.int .i64 (t.p:Nat)):=h.b.cell 1;have ZM:=h.le;clear h hok H hf hi hz0 hz1 eE;go_enter func159,ntmps159;go_wp2_with fail;refine mh (dL MM.o.qt hq _ T0 (t.p+1) rfl) λw1 H1=>?_;clear c1;go_wp2_with fail;refine(rU (t:={t with p:=t.p+1}) hq HF.o HE.o L.o H1.o).mono ?_;rintro r w2⟨t2,s2,D2,V0,hp2,rfl,ZP,V1,h2⟩;have S:Hid (BrL n q a b k w w.heap.size (t.p+1) i t2 1 (.slice (sA w2.heap.size) 1 1) (w2.alloc (.cells #[.int .i64 s2.k,.string s2.nm,.int .i64 s2.fr,.int .i64 s2.to,s2.met] 239))):=by
  refine⟨h2.alloc _,V0,⟨[s2],[(bO (E q) (t.p+1)).v],D2,bQ.one (ZP.low H1.o.f.size) (λU s x H=>?_) (yt w2 _ s2 h2.f.size),rfl,rfl,λm=>?_⟩,MM.o.b.lt,aP _,by have:=h2.f.size;simp;omega,by have:=V0.ge;omega⟩;.simp at H;subst H;exact V1 U s
  grind[E,eD]
 obtain⟨k2,nm2,fr2,to2,akn,hm2⟩:=s2;simp only[SV.agg]at S⊢;clear ZP V1 hp2;clear h2 V0 H1 L;go_wp2_with fail;go_loopw[4]λsv wr=>∃(t1:St)(j:Nat),BrL n q a b k w w.heap.size (t.p+1) i t1 j sv wrλ_ wr=>q.size-mA n wr;case atStart=>exact⟨t2,1,S.o⟩
 case round=>
  clear S;obtain⟨t3,j,W⟩:=hrel;have S:=Z W;have hjt:=W.le;have htq:t3.p<=q.size:=W.qt.le;have hge:t.p+1<=t3.p:=W.lv.ge;have HM:=Z W.qt.mA;obtain⟨l,G,D,K,hxl,tD,hps⟩:=W.row;obtain⟨ao,cp,Dv⟩:=X K.o;rw[tD]at Dv;subst Dv;have R:=Z K;have P:=Z hxl;have F:=Z tD;have AT:=Z hps;have e0:=W.lv.e0;clear W K hxl tD hps;by_cases N:ar (E q) t3 44=true
  .have T1:tk q t3.p ⟨#[44]⟩=true:=(tZ q e0 44).trans N;have L1:=Z (au HF.o (uu (Y S.o.lv) N));have B44:=Z (dG N);clear N e0;go_wp2_with fail;refine mh (dL S.o.qt.here hq _ T1 (t3.p+1) rfl) λw4 H4=>?_;have E2:=Z (HE.o.keep S.o.qt.f);go_wp2_with fail;refine(rU (t:=aH t3) hq HF.o E2.o L1.o.o' H4.o).mono ?_;rintro r C⟨t5,s5,D5,hl5,hp5,rfl,ZQ,ZR,h5⟩;have ZE:=Z (ZQ.low H4.o.f.size);have XR:=Z ZR;have PS5:Hid (∀m,eD (E q) (m+(j+1)) (t.p+1) []=if bt (E q) t5.p=44 then eD (E q) m (t5.p+1) (G++[(bO (E q) (t3.p+1)).v])else⟨G++[(bO (E q) (t3.p+1)).v],t5.p⟩):=λm=>by rw[show m+(j+1)=(m+1)+j by omega,AT.o (m+1),ae B44.o,eD,show(bO (E q) (t3.p+1)).p=t5.p from hp5]
   clear ZQ ZR hp5;obtain⟨k5,A,y,B,o,hm5⟩:=s5;simp only[SV.agg];have hkt:t3.p+1<=t5.p:=hl5.ge;have SW:=h5.le;have L5:Hid (Live (E q) (t.p+1) (i+(j+1)) 9 [] 0 t5):=L1.o.pd hl5;have H5:=Z h5;have V5:Hid (∀u∈[Value.int .i64 k5,.string A,.int .i64 y,.int .i64 B,o],u.oneCell'=true):=(SV.mk k5 A y B o hm5).one;have M:=Z hm5;have OK6:Hid (fg D5 C λw=>lz w ⟨k5,A,y,B,o,M.o⟩ (bO (E q) (t3.p+1)).v):=XR.o;clear h5 hl5 H4 L1 XR hm5;have z:C.ownsRow w.heap.size 239 5 (.slice ao j cp) j (kK l):=aS (F.o▸R.o.o) H5.o.f (λg hk e=>by have:=S.o.gb;omega);have ZS:w.heap.size<=C.heap.size:=az S.o.sz H5.o.f.size;go_wp2_with(at_builtin;refine wpList_append_own_at _ rfl _ _ 210 rfl w.heap.size 239 i0 _ 5 48 underlying210 HI.o iK.o iz.o ja.o rfl de _ _ _ rfl (z.alloc _) (aD C.heap.size 0) 1 1 [.int .i64 k5,.string A,.int .i64 y,.int .i64 B,o] rfl rfl ?c1 ?c2 ?c3 ?c4 ?c5 ?_);case c1=>intro j u v;match j,v with|0,v=>simp at v;subst v;simp[Addr.add]|1,v=>simp at v;subst v;simp[Addr.add]|2,v=>simp at v;subst v;simp[Addr.add]|3,v=>simp at v;subst v;simp[Addr.add]|4,v=>simp at v;subst v;simp[Addr.add]
   case c2=>exact V5.o
   case c3=>unfold maxLen;omega
   case c4=>omega
   case c5=>simp;omega
   intro v' w6 J p _ qm;have RR:SwL q w.heap.size (t.p+1) t5.p (j+1) v' w6:=by have R1:vR w.heap.size G D (.slice ao j cp) l (C.alloc (.cells #[.int .i64 k5,.string A,.int .i64 y,.int .i64 B,o] 239)):=bQ.fr R.o (H5.o.alloc _).f (λg hk e=>by have:=S.o.gb;omega);have R2:bQ 239 5 SV.cells w.heap.size (λf w s=>∀x,(G++[(bO (E q) (t3.p+1)).v])[f]?=some x->lz w s x) D (.slice ao j cp) l (C.alloc (.cells #[.int .i64 k5,.string A,.int .i64 y,.int .i64 B,o] 239)):=⟨R1.o,R1.ft,R1.ne,λf hi U s x H=>R1.ok f hi U s x (by rw[List.getElem?_append_left (by have:=P.o;have:=F.o;omega)]at H;exact H)⟩;refine⟨l++[⟨k5,A,y,B,o,M.o⟩],G++[(bO (E q) (t3.p+1)).v],λg=>D g\/D5 g,?_,by simp[P.o],by simp[F.o],PS5.o⟩;refine R2.push (A:=wr.heap.size) (λg hk=>(R.o.o.lt g hk).2) S.o.sz (ZE.o.keep (Sm.alloc ZE.o _)) (λU s x H=>?_) (by rw[F.o];exact J) p (by simpa using qm);rw[F.o,<-P.o]at H;simp at H;subst H;exact(OK6.o.keep (Sm.alloc ZE.o _)) U s
   have S2:Hid (BrL n q a b k w w.heap.size (t.p+1) i t5 (j+1) v' w6):=⟨(S.o.qt.join (H5.o.alloc _)).grown p (λg hk=>(z.lt g hk).1) S.o.gb S.o.wb,L5.o,RR,S.o.gb,S.o.wb,az ZS (az si p.size),om⟩;clear RR;clear J p z;go_wp2;go_roundw;case rel=>exact⟨_,_,S2.o⟩
   case measure=>have m1:mA n wr=t3.p:=HM.o;have m2:mA n w6=t5.p:=S2.o.qt.mA;rw[m1,m2];omega
  have N:ar (E q) t3 44=false:=by simpa using N
  have T1:=gi (sign:=⟨#[44]⟩) e0 rfl N;have a1:=uv (Y S.o.lv) N;have a2:m_ (E q) (i+j) (T (E q) (t.p+1)++sub (E q) (t.p+1) (aO (E q) t3 [93]).p) (aO (E q) t3 [93]):=a1.resolve_right λd=>iM HF.o d;obtain⟨T2,e2⟩:=iJ (sign:=⟨#[93]⟩) a2.e0;rw[show[93]=nb ⟨#[93]⟩from rfl,e2]at a2;have A2:=Z a2;have NB:=Z (aW e0 N);clear N e0 a1 a2 e2;go_wp2_with fail;refine mh (cW S.o.qt.here hq _ T1) λw4 H4=>?_;go_wp2_with fail;refine mo (dL H4.o hq _ T2 (t3.p+1) rfl) λC h5=>?_;have H5:=Z (S.o.qt.join h5);have R5:Hid (vR w.heap.size G D (.slice ao j cp) l C):=bQ.fr R.o h5.f (λg hk e=>by have:=S.o.gb;omega);clear h5 H4;have M:=Z (MM.o.step H5.o);have F5:Hid (Fr (KG n b) w C):=KG.of H5.o.f;have d0:C.cell? (aD n 0)=some (.string q):=M.o.b.cell 0;have d1:C.cell? (aD n 1)=some (.int .i64 ((t3.p+1:Nat):Int)):=M.o.b.cell 1;have akr:t3.p+1<=q.size:=M.o.le;simp at d1;go_wp2_with fail;have MD:Hid (Mk n q (t3.p+1) c k a b C.drew):=⟨M.o.b,M.o.o,M.o.row,M.o.le⟩;have HZ:=Z (show c.length+(q.extract t.p (t3.p+1)).size<=1000000 by simp[ByteArray.size_extract];omega);go_region_with(go_at_call 86;refine(n_ MD.o _ HZ.o).mono ?_;rintro r w6⟨rfl,p6,v6,h6,f6⟩);all_goals
   rw[dD]at h6;have M6:=Z h6;have F6:=Z (F5.o.drew.trans f6);have hne:∀g,w.heap.size<=g->¬KG n b g:=λg hk x=>by have:=MM.o.lt g x;omega
   have R6:Hid (vR w.heap.size G D (.slice ao j cp) l w6):=bQ.fr (bQ.fr (w':=C.drew) R5.o (K:=λ_=>False) (Fr.refl _ C).drew λ_ _ x=>x) f6 hne;clear h6 f6;go_wp2;go_ret;have ZT:zV (E q) t.p=⟨G,t3.p+1⟩:=by unfold zV;rw[ak,show q.size+1=(q.size+1-j)+j by omega,AT.o,aa NB.o]
   exact⟨{t3 with p:=t3.p+1},j,_,p6,v6,l,G,D,A2.o,by show t.p<t3.p+1;omega,om,rfl,⟨R6.o,P.o,F.o,ZT⟩,M6.o,F6.o⟩
