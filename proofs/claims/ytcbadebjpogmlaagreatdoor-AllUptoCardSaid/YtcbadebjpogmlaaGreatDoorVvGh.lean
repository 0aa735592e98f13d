import Derived.Test.YtcbadebjpogmlaaGreatDoorVvGq
import Derived.Test.YtcbadebjpogmlaaGreatDoorVvSs
import Derived.Test.YtcbadebjpogmlaaGreatDoorVvFe
set_option maxHeartbeats 4000000
set_option maxRecDepth 100000
namespace Go.Proofs.YtcbadebjpogmlaaGreatDoor
open Go.RowKit Tr Go.Proofs.Tryz
variable{n k B:Nat}{m:TypeId}{w v:World}{d:Gs}{c D:Nat->Nat}{a b g z F:Nat->Prop}
theorem S'{f:Type}{p:f->Value->Value->Value->Array Value}{S:World->(Nat->Prop)->f->Prop}{x:f}(h:GI n m p S w d x c a b g)(r:∀k,z k->b k\/w.heap.size<=k)(j:∀k,F k->g k\/w.heap.size<=k)(l:∀k,F k->¬z k)(o:Fr (λk=>g k\/b k\/k=n) w v):(∀k,a k->k<v.heap.size)/\(∀k,F k->¬z k/\¬a k/\k≠n)/\(¬z n/\¬a n):=by
 have q:=h.b.lt;refine⟨λk i=>aI (h.c k i) o.size,λk i=>⟨l k i,λe=>?_,λe=>?_⟩,λe=>?_,h.g.2⟩
 .rcases j k i with y|y;.exact(h.dj k y).2.1 e
  have:=h.c k e;omega
 .rcases j k i with y|y;.exact(h.dj k y).2.2 e
  omega
 rcases r n e with y|y;.exact h.g.1 y
 omega
variable{o p:Value}{i:Tr.Tok}
theorem Pf{f:Type}{H:f->Value->Value->Value->Array Value}{S:World->(Nat->Prop)->f->Prop}{A:f->Bool}{P cl:f->List Fm->Fm->Nat->f->Prop}{U:f->List Fm->Fm->Nat->Prop}{S_:f->List Fm->Fm->(Nat->Nat)->Prop}(J:vx m k o p H)(hG:I7 n m H o p S A P cl U S_){x:f}(h:GI n m H S w d x c a b g)(z:i.k=0)(ht:eN d.sh i)(hmk:jR d (A x))(C5:∀l,U x d.st (aB d i false) l):Calls prog 53 #[.pointer (some (aD n k)),bS i] w (OV n m H S A P cl x d i c a b g w):=by
 obtain⟨G,F⟩:∃G,G=w.alloc (.cells (cO i) 108):=⟨_,rfl⟩;have UT:V G w.heap.size (cO i) 108:=by rw[F];exact V.new w _ _
 have T:Q w G:=by rw[F];exact(Fr.refl _ w).alloc _
 have D:=h.keeps hG T;have K:=rq h.ok ht hmk;have eg:aA d i (A x)={d with st:=aB d i (A x)::d.st,nm:=[],ix:=0,bd:=i.af+1}:=by unfold aA;rw[ae z]
 have ex:∀c B,gX A P cl x d i c w.heap.size B=P x d.st (aB d i false) (c i.af) B:=λc B=>by unfold gX;rw[ae z]
 have BG:=Z (Db J hG D.s D.b D.m D.ok ht (Y z) D.c D.dj D.g C5);have hbd:d.bd<=i.af:=(ht.k0 z).2.2.2.2;have R:Hid (∀(t:World)(l:Nat)(C:Nat->Nat)(N M:Nat->Prop)(B:f),G.heap.size<=l->C (aB d i (A x)).d.af=l->(∀s,s<(aB d i (A x)).d.af->C s=c s)->P x d.st {aB d i (A x)with kp:=false} l B->S t M B->V t n (H B (dZ c d.st) (.string (bR [])) (.int .i64 (d.ix:Nat))) m->fO t C a ((aB d i (A x)).d.af+1) (aB d i (A x)::d.st) [] N->(∀s,N s->b s\/G.heap.size<=s)->(∀s,M s->g s\/G.heap.size<=s)->(∀s,M s->¬N s)->Fr (λs=>g s\/b s\/s=n) G t->OV n m H S A P cl x d i c a b g w (.returned (.tuple #[])) ((t.setCell (aD n (k+2)) (pT l)).setCell (aD n (k+4)) (.int .i64 0))):=λt l C N M B hb a1 a2 UU s1 b1 m1 mm dd dm ff=>by
  obtain⟨i1,i2,i3⟩:=S' D mm dd dm ff;have f2:Fr (λs=>s=n) t ((t.setCell (aD n (k+2)) (pT l)).setCell (aD n (k+4)) (.int .i64 0)):=((Fr.refl (λs=>s=n) t).setCell (aD n (k+2)) (Y rfl) _).setCell (aD n (k+4)) (Y rfl) _;have W:C i.af=l:=a1;refine⟨rfl,C,a,N,M,B,by rw[ex,W];exact UU,?_,λs z=>a2 s (aI z hbd),λs z=>?_,((T.mono λ_ _ e=>e.elim).trans ff).trans (f2.mono λs _ e=>I (I e))⟩
  .refine⟨hG.keep s1 (λs z=>f2.block s (hG.lt s1 z) λe=>(i2 s z).2.2 e) f2.size,?_,?_,K,?_,λs z=>aI (i1 s z) f2.size,i2,i3,λe=>?_⟩
   .rw[eg];have hpar:dZ C (aB d i (A x)::d.st)=(pT l):=by show lF (C i.af)=_;rw[W];rfl
    show V _ n (H _ (dZ C (aB d i (A x)::d.st)) (.string (bR [])) (.int .i64 0)) m;rw[hpar];exact J.s4 (.int .i64 0) (J.s2 (pT l) b1)
   .rw[eg];exact m1.fr i1 f2 λs e=>by rw[e];exact i3
   .rw[eg];exact⟨rfl,h.p⟩
   rw[eg]at e;cases e
  rcases z with e|e|e
  .rcases dd s e with y|y;.exact Y y
   exact I (I (I (az T.size y)))
  .rcases mm s e with y|y;.exact I (Y y)
   exact I (I (I (az T.size y)))
  grind
 have L:Hid (∀{t:World}{B:f}{j l q:Value},V t n (H B j l q) m->(∃u,t.cell? (aD n (k+2))=some u)/\(∀r,t.frozen? (aD n r)=false)/\∀v,(∃u,(t.setCell (aD n (k+2)) v).cell? (aD n (k+4))=some u)/\(∀r,(t.setCell (aD n (k+2)) v).frozen? (aD n r)=false)):=λhb=>⟨⟨_,J.c2 hb⟩,hb.fz,λv=>⟨⟨_,J.c4 (J.s2 v hb)⟩,(J.s2 v hb).fz⟩⟩;have n0:((i.k:Int)==0)=true:=by rw[z];decide
 have UO:Hid (G=w.alloc (.cells #[.int .i64 (i.k:Nat),.int .i64 (i.of:Nat),.int .i64 (i.af:Nat),.int .i64 (i.to:Nat),.int .i64 i.n,.string (bR (fV i.k i.t))] 108)):=F;clear F UT T D h z J hG K eg ex ht hmk C5 hbd;unfold bS at*;go_enter func53,ntmps53;go_wp2_with fail;rw[<-UO.o];refine BG.o.mono ?_;rintro res t⟨l,C,N,M,B,rfl,q1,q2,q3,qx,q4,q5,q6,q7,q8,q9,YJ⟩;have FR:=Z (R.o t l C N M B q1 q2 q3 qx q4 q5 q6 q7 q8 q9 YJ);obtain⟨⟨u2,c2⟩,fz,cc⟩:=L.o q5;obtain⟨⟨u4,c4⟩,fz4⟩:=cc (pT l);clear q1 q2 q3 qx q4 q5 q6 q7 q8 q9 YJ cc;unfold lF;go_wp2;go_end0;exact FR.o
theorem Pg{f:Type}{gc:f->Value->Value->Value->Array Value}{S:World->(Nat->Prop)->f->Prop}{A:f->Bool}{T cl:f->List Fm->Fm->Nat->f->Prop}{qG:f->List Fm->Fm->Nat->Prop}{S_:f->List Fm->Fm->(Nat->Nat)->Prop}(hL:vx m k o p gc)(hG:I7 n m gc o p S A T cl qG S_){x:f}(h:GI n m gc S w d x c a b g)(t:i.k=3)(ht:eN d.sh i)(hmk:jR d (A x))(C5:∀j,qG x d.st (aB d i false) j)(N:∀(B:Nat->Nat)C,w.heap.size<=B i.af->(∀r,r<d.bd->B r=c r)->T x d.st (aB d i false) (B i.af) C->S_ C d.st (Fm.ends (aB d i (A x)) i.to) B):Calls prog 53 #[.pointer (some (aD n k)),bS i] w (OV n m gc S A T cl x d i c a b g w):=by
 obtain⟨v,J⟩:∃v,v=w.alloc (.cells (cO i) 108):=⟨_,rfl⟩;have u:V v w.heap.size (cO i) 108:=by rw[J];exact V.new w _ _
 have D:Q w v.drew:=by rw[J];exact((Fr.refl _ w).alloc _).drew
 have G:=h.keeps hG D;have P:=rq h.ok ht hmk;have k3:=ht.k3 t;have H:d.bd<=i.af:=k3.2.2.2.2;have W:d.st.length<=8:=h.ok.len;have U:d.ix<=4000000:=by have:=h.ok.ix;have:=h.ok.bd;omega
 have eg:aA d i (A x)=aE {d with nm:=[],bd:=i.af+1} (aB d i (A x)) d.st i.to:=by unfold aA;rw[aa om,aa om,aa om]
 have ex:∀c x',gX A T cl x d i c w.heap.size x'=∃C,w.heap.size<=c i.af/\T x d.st (aB d i false) (c i.af) C/\cl C d.st (Fm.ends (aB d i (A x)) i.to) (c i.af) x':=λc x'=>by unfold gX;rw[aa om,aa om,aa om]
 have BG:=Z (Db hL hG G.s G.b G.m G.ok ht (I t) G.c G.dj G.g C5);have htb:∀r,g r\/b r\/r=n->r≠w.heap.size:=λr t e=>by
  rcases t with y|y|y;.have:=hG.lt h.s y;omega
  .have:=(h.m.lt r y).1;omega
  have:=h.b.lt;omega
 have MID:Hid (∀(L:World)(j:Nat)(B:Nat->Nat)(M D':Nat->Prop)(C:f),v.drew.heap.size<=j->B (aB d i (A x)).d.af=j->(∀r,r<(aB d i (A x)).d.af->B r=c r)->T x d.st {aB d i (A x)with kp:=false} j C->S L D' C->V L n (gc C (dZ c d.st) (.string (bR [])) (.int .i64 (d.ix:Nat))) m->fO L B a ((aB d i (A x)).d.af+1) (aB d i (A x)::d.st) [] M->(∀r,M r->b r\/v.drew.heap.size<=r)->(∀r,D' r->g r\/v.drew.heap.size<=r)->(∀r,D' r->¬M r)->Fr (λr=>g r\/b r\/r=n) v.drew L->L.cell? (aD w.heap.size 3)=some (.int .i64 (i.to:Nat))/\Calls prog 73 #[.pointer (some (aD n k)),pT j,.int .i64 (i.to:Nat)] L (OV n m gc S A T cl x d i c a b g w)):=λL j B M D' C hb a1 a2 UU s1 b1 m1 mm dd dm F=>by
  obtain⟨i1,i2,i3⟩:=S' G mm dd dm F;have R:B i.af=j:=a1;refine⟨(V.fr (w:=v.drew) u F λe=>htb _ e rfl).cell 3,?_⟩;have CL:=C2 hL hG s1 b1 m1 W i1 i2 i3 U i.to (N B C (by rw[R];exact az D.size hb) (λr t=>a2 r (aI t H)) (by rw[R];exact UU));rw[show B (aB d i (A x)).d.af=j from a1]at CL;refine CL.mono ?_;rintro res w'⟨q1,D2,x',qx,q2,q3,q4,q5,K⟩;have i1':∀r,a r->r<w'.heap.size:=λr t=>aI (i1 r t) K.size;have i2':∀r,D2 r->¬M r/\¬a r/\r≠n:=λr t=>by
   rcases q5 r t with e|e;.exact i2 r e
   refine⟨λy=>?_,λy=>?_,λy=>?_⟩;.have:=(m1.lt r y).1;omega
   .have:=i1 r y;omega
   have:=b1.lt;omega
  have afO:dZ B d.st=dZ c d.st:=nJ (bd:=d.bd) (λr t=>a2 r (aI t H)) h.m;obtain⟨C',M2,c1,c2,c3⟩:=gi_close (gs:=aA d i (A x)) (f:=aB d i (A x)) (nm:=[]) q2 q3 q4 W U (by simp[aB]) (λhkp s q e=>hmk hkp s q e) rfl h.p i1' i2' i3 (by rw[eg];rfl) P;refine⟨q1,B,C',M2,D2,x',by rw[ex,R];exact⟨C,az D.size hb,UU,qx⟩,c1,λr t=>a2 r (aI t H),λr t=>?_,?_⟩
  .have mk:M r->g r\/b r\/a r\/w.heap.size<=r:=λy=>by
    rcases mm r y with z|z;.exact I (Y z)
    exact I (I (I (az D.size z)))
   rcases t with e|e|e
   .rcases q5 r e with y|y
    .rcases dd r y with z|z;.exact Y z
     exact I (I (I (az D.size z)))
    exact I (I (I (az D.size (az F.size y))))
   .exact mk (c3 r e)
   grind
  refine⟨K.os.trans (F.os.trans D.os),K.tape.trans (F.tape.trans D.tape),K.output.trans (F.output.trans D.output),az D.size (az F.size K.size),λr t hn=>?_⟩;have hk0:r<v.drew.heap.size:=aI t D.size;rw[K.block r (aI hk0 F.size) λe=>?_,F.block r hk0 hn,D.block r t id];grind
 have tc3:v.cell? (aD w.heap.size 3)=some (.int .i64 (i.to:Nat)):=u.cell 3;have n0:((i.k:Int)==0)=false:=by rw[t];decide
 have n1:((i.k:Int)==1)=false:=by rw[t];decide
 have n2:((i.k:Int)==2)=false:=by rw[t];decide
 have n3:((i.k:Int)==3)=true:=by rw[t];decide
 have UO:Hid (v=w.alloc (.cells #[.int .i64 (i.k:Nat),.int .i64 (i.of:Nat),.int .i64 (i.af:Nat),.int .i64 (i.to:Nat),.int .i64 i.n,.string (bR (fV i.k i.t))] 108)):=J;have tcs:∀l,l<6->v.cell? (aD w.heap.size l)=(cO i)[l]?:=λl _=>u.cell l;have tc0:v.cell? (aD w.heap.size 0)=some (.int .i64 (i.k:Nat)):=u.cell 0;have tc1:v.cell? (aD w.heap.size 1)=some (.int .i64 (i.of:Nat)):=u.cell 1;have tc2:v.cell? (aD w.heap.size 2)=some (.int .i64 (i.af:Nat)):=u.cell 2;have tc4:v.cell? (aD w.heap.size 4)=some (.int .i64 i.n):=u.cell 4;have tc5:v.cell? (aD w.heap.size 5)=some (.string (bR (fV i.k i.t))):=u.cell 5;clear J u D G h t hL hG P eg ex ht hmk C5 N H htb W U k3 tcs;unfold bS at*;go_enter func53,ntmps53;go_wp2;rw[<-UO.o];go_region_with(first|(go_at_call 72;refine BG.o.mono ?_;rintro res L⟨j,B,M,D',C,rfl,q1,q2,q3,qx,q4,q5,K,q7,q8,q9,YJ⟩;obtain⟨tk3,cl3⟩:=MID.o L j B M D' C q1 q2 q3 qx q4 q5 K q7 q8 q9 YJ;have CC:=Z cl3;clear q1 q2 q3 qx q4 q5 K q7 q8 q9 YJ cl3;unfold lF)|(go_at_call 73;refine CC.o.mono ?_;intro res w2 hr;have FR:=Z hr;obtain⟨rfl,_⟩:=hr));all_goals go_wp2;go_end0;exact FR.o
theorem Jj{e:Type}{v:e->Value->Value->Value->Array Value}{S:World->(Nat->Prop)->e->Prop}{u:e->Bool}{y z:e->List Fm->Fm->Nat->e->Prop}{s:e->List Fm->Fm->Nat->Prop}{q:e->List Fm->Fm->(Nat->Nat)->Prop}(K:vx m k o p v)(J:I7 n m v o p S u y z s q){x:e}(h:GI n m v S w d x c a b g)(G:eN d.sh i)(F:jR d (u x))(D:i.k=0\/i.k=3->∀j,s x d.st (aB d i false) j)(A:i.k=1->∀f r,d.st=f::r->q x r (Fm.ends f i.to) c)(B:i.k=3->∀(t:Nat->Nat)C,w.heap.size<=t i.af->(∀l,l<d.bd->t l=c l)->y x d.st (aB d i false) (t i.af) C->q C d.st (Fm.ends (aB d i (u x)) i.to) t):Calls prog 53 #[.pointer (some (aD n k)),bS i] w (OV n m v S u y z x d i c a b g w):=by have H:=G.k;grind[Pf,O7,OZ,Pg]
theorem GI.sm{e:Type}{q:e->Value->Value->Value->Array Value}{S:World->(Nat->Prop)->e->Prop}{z:e->Bool}{v A:e->List Fm->Fm->Nat->e->Prop}{j:e->List Fm->Fm->Nat->Prop}{l:e->List Fm->Fm->(Nat->Nat)->Prop}(B:I7 n m q o p S z v A j l){w':World}{x:e}(h:GI n m q S w d x c a b g)(f:Sm (λk=>g k\/b k\/a k\/k=n) w w')(u:w.heap.size<=w'.heap.size):GI n m q S w' d x c a b g:=⟨B.keep h.s (λk i=>f k (Y i)) u,(f n (I (I (I rfl)))).trans h.b,h.m.keep (λk i=>f k (I (I (Y i)))) λk i=>f k (I (Y i)),h.ok,h.p,λk i=>aI (h.c k i) u,h.dj,h.g,λr t s=>⟨(h.l r t s).1.imp λ_ y=>⟨y.1,y.2.keep λk i=>f k (I (I (Y i)))⟩,(h.l r t s).2⟩⟩
theorem Fg{g:Bool}(c:UN d)(o:eN d.sh i)(h:∀v,d.last=some v->fr v<d.bd):∀v,(aA d i g).last=some v->fr v<(aA d i g).bd:=by
 have m:d.sh.bd=d.bd:=rfl;unfold aA;by_cases b:i.k=0;.rw[ae b];intro v a;have:=h v a;have p:=(o.k0 b).2.2.2.2;show fr v<i.af+1;omega
 rw[aa b];by_cases j:i.k=1;.rw[ae j];cases n:d.st with|nil=>exact h|cons f r=>intro v a;have e:f.tv i.to=v:=cI a;have l:=c.ws;rw[n]at l;rw[<-e];exact l.2.2.1
 rw[aa j];by_cases k:i.k=2;.rw[ae k];exact h
 rw[aa k];intro v a;have e:(aB d i g).tv i.to=v:=cI a;rw[<-e];show i.af<i.af+1;omega
def tS(c d:Nat)(w:World)(D:Nat->Prop)(a:List Tr.Tok):Prop:=kU ⟨[],0⟩ a/\∃x A C M b,GI c 119 (rgc d) (rS d) w (cT a_ a) x A C M b/\iO (cT a_ a).st (cT a_ a).ix/\.pointer x=jo A (cT a_ a).last/\(∀v,(cT a_ a).last=some v->fr v<(cT a_ a).bd)/\(∀k,D k↔b k\/M k\/C k\/k=c)
def tV(a:List Tr.Tok)(t:Tr.Tok):Prop:=eN (bC ⟨[],0⟩ a) t
theorem Jk:∀{b a:List Tr.Tok},kU (bC ⟨[],0⟩ a) b->VL tV a b|[],_,_=>trivial|t::b,a,h=>⟨h.1,Jk (by rw[oQ];exact h.2)⟩
theorem Jl(g:Gs)(t:Tr.Tok):cT g [t]=aA g t true:=rfl
theorem Jm(i m:Nat):gn (.func (.func 53) #[pT i] #[]) (tS i m) tV where
 lt:=λ{w D c k}h l=>by
  obtain⟨_,x,A,C,M,z,d,_,_,_,a⟩:=h;rcases(a k).1 l with e|e|e|e;.exact(UW m i).lt d.s e
  .exact(d.m.lt k e).1
  .exact d.c k e
  rw[e];exact d.b.lt
 keep:=λ{w w' D c}h s U=>by obtain⟨o,x,A,C,M,z,d,p,j,q,a⟩:=h;exact⟨o,x,A,C,M,z,d.sm (UW m i) (λk l=>s k ((a k).2 l)) U,p,j,q,a⟩
 call:=⟨_,_,_,rfl,λ_ _=>Tryz.call53 _ _,λw D c t h L=>by
  obtain⟨o,x,A,C,M,z,d,p,j,q,a⟩:=h;have B:(cT a_ c).sh=bC ⟨[],0⟩ c:=jU (g:=a_) o;have P:eN (cT a_ c).sh t:=by rw[B];exact L
  have n:cT a_ (c++[t])=aA (cT a_ c) t true:=by rw[kC,Jl]
  refine(Jj (YK m) (UW m i) d P (p.may true) (λ_ _=>trivial) (λ_ _ _ _=>trivial) λ_ _ _ _ _ _=>trivial).mono ?_;rintro res w'⟨rfl,u,H,K,J,x',b,W,q2,G,q4⟩;refine⟨rfl,λk=>J k\/K k\/H k\/k=i,⟨o.app ⟨L,trivial⟩,_,u,H,K,J,by rw[n];exact W,by rw[n];exact qv p,?_,by rw[n];exact Fg d.ok P q,λ_=>Iff.rfl⟩,λk l=>?_,q4.mono λk _ e=>?_⟩
  .rw[n];have g:jo u (cT a_ c).last=jo A (cT a_ c).last:=by cases T:(cT a_ c).last with|none=>rfl|some v=>show jf u v=jf A v;unfold jf;rw[q2 v.d.af (q v T)]
   unfold gX at b;unfold aA;by_cases F:t.k=0;.rw[ae F]at b;rw[ae F,b];rw[j,<-g]
   rw[aa F]at b⊢;by_cases R:t.k=1;.rw[ae R]at b⊢;cases N:(cT a_ c).st with|nil=>rw[N]at b;rw[b,j,<-g]|cons f r=>rw[N]at b;rw[b];rfl
   rw[aa R]at b⊢;by_cases S:t.k=2;.rw[ae S]at b⊢;rw[b,j,<-g]
   rw[aa S]at b⊢;obtain⟨x1,_,_,e⟩:=b;rw[e];rfl
  .rcases l with e|e|e|e
   .rcases G k (Y e)with y|y|y|y;.exact Y ((a k).2 (Y y))
    .exact Y ((a k).2 (I (Y y)))
    .exact Y ((a k).2 (I (I (Y y))))
    exact I y
   .rcases G k (I (Y e))with y|y|y|y;.exact Y ((a k).2 (Y y))
    .exact Y ((a k).2 (I (Y y)))
    .exact Y ((a k).2 (I (I (Y y))))
    exact I y
   .rcases G k (I (I e))with y|y|y|y;.exact Y ((a k).2 (Y y))
    .exact Y ((a k).2 (I (Y y)))
    .exact Y ((a k).2 (I (I (Y y))))
    exact I y
   exact Y ((a k).2 (I (I (I e))))
  rcases e with y|y|y;.exact(a k).2 (Y y)
  .exact(a k).2 (I (Y y))
  exact(a k).2 (I (I (I y)))⟩
def TrP(s:ByteArray)(w:World)(r:Ending)(a:World):Prop:=Q w a/\((bD (E s)≠0/\r=.returned (.tuple #[.pointer none,.int .i64 (bD (E s):Nat),.int .i64 (jB (E s):Nat)]))\/(bD (E s)=0/\∃A D t b,jA (E s)=some t/\r=.returned (.tuple #[jf A t,.int .i64 0,.int .i64 0])/\b<=4000000/\PT a A D 10 (.pointer none) b t/\FB 4000001 10 t/\t.d.path=[36]/\∀k,D k->k<a.heap.size))
theorem UX{l:List UInt8}(g:l.length<=4000000)(c:(aj ah l).e=0):kU (bC ⟨[],0⟩ (aj ah l).ts) (fF (aj ah l).z):=by
 have R:=fW l aX.1 aX.2 (by simp[ah]) (by simp[ah];omega);obtain⟨d,h,e,f⟩:=R.ok c;have b:(aj ah l).z.at'=l.length:=by simpa[ah]using e
 unfold fF;split;.rename_i a;exact kU.one (rh d f (I a) om)
 trivial
theorem Ph(b:n≠k)(c:V w k #[.pointer none] 71)(d:V w n #[XD,XE k,.pointer none,.string ⟨#[]⟩,.int .i64 0] 119):tS n k w (λa=>a=k\/a=n) []:=by refine⟨trivial,none,λ_=>0,λ_=>False,λ_=>False,λa=>a=k,⟨⟨λ_=>Iff.rfl,c⟩,d,λ_ x=>x,xw,trivial,λ_ x=>x.elim,λa f=>⟨id,id,λe=>b (e.symm.trans f)⟩,⟨id,id⟩,λ_ t g=>by cases g⟩,trivial,rfl,λv h=>(by cases h),λa=>?_⟩;grind
theorem UY(s:ByteArray)(hs:s.size<=4000000):Calls prog 34 #[.string s] w (TrP s w):=by
 have hlen:(E s).length=s.size:=ak s;obtain⟨a,f⟩:∃a,a=w.heap.size:=⟨_,rfl⟩;obtain⟨i,b⟩:∃i,i=((w.alloc (.cells #[.int .i64 0,.int .i64 0,.slice none 0 0,.int .i64 0,.int .i64 0,.int .i64 0,.int .i64 0,.int .i64 0,.string ⟨#[]⟩,.pointer none,.slice none 0 0,.string ⟨#[]⟩,.int .i64 0,.int .i64 0,.nilFunc] 115)).alloc (.cells #[.pointer none] 71)).alloc (.cells #[.func (.func 50) #[] #[],.func (.func 51) #[] #[(pT (a+1))],.pointer none,.string ⟨#[]⟩,.int .i64 0] 119):=⟨_,rfl⟩;have m:Q w i:=by rw[b];exact(((Fr.refl _ w).alloc _).alloc _).alloc _
 have BR:V i a (vk 0 ah (.slice none 0 0) (.pointer none) (.slice none 0 0) .nilFunc) 115:=by rw[b,f];exact(V.alloc (V.alloc (V.new w _ _) _) _)
 have BL:V i (a+1) #[.pointer none] 71:=by rw[b,f];have:=V.alloc (V.new (w.alloc (.cells #[.int .i64 0,.int .i64 0,.slice none 0 0,.int .i64 0,.int .i64 0,.int .i64 0,.int .i64 0,.int .i64 0,.string ⟨#[]⟩,.pointer none,.slice none 0 0,.string ⟨#[]⟩,.int .i64 0,.int .i64 0,.nilFunc] 115)) #[.pointer none] 71) (.cells #[.func (.func 50) #[] #[],.func (.func 51) #[] #[(pT (w.heap.size+1))],.pointer none,.string ⟨#[]⟩,.int .i64 0] 119);simpa using this
 have BG:V i (a+1+1) #[XD,XE (a+1),.pointer none,.string ⟨#[]⟩,.int .i64 0] 119:=by rw[b,f];have:=V.new ((w.alloc (.cells #[.int .i64 0,.int .i64 0,.slice none 0 0,.int .i64 0,.int .i64 0,.int .i64 0,.int .i64 0,.int .i64 0,.string ⟨#[]⟩,.pointer none,.slice none 0 0,.string ⟨#[]⟩,.int .i64 0,.int .i64 0,.nilFunc] 115)).alloc (.cells #[.pointer none] 71)) #[XD,XE (w.heap.size+1),.pointer none,.string ⟨#[]⟩,.int .i64 0] 119;simp only[World.size_alloc]at this;exact this
 have S0:tS (a+1+1) (a+1) i (λk=>k=a+1\/k=a+1+1) []:=Ph om BL BG;have M0:RM (tS (a+1+1) (a+1)) .nilFunc a ah.st ah [] (λk=>k=a\/k=a+1\/k=a+1+1) i:=⟨.slice none 0 0,.pointer none,.slice none 0 0,_,⟨BR,World.ownsRow_nil _ _ _ _,World.ownsRow_nil _ _ _ _,Y rfl,λ_=>rfl⟩,S0,λk S=>⟨om,(λe=>by cases e),λe=>by cases e⟩,λk=>⟨λh=>by
   rcases h with e|e|e;.exact Y e
   .exact I (I (I (Y e)))
   .exact I (I (I (I e))),λh=>by
   rcases h with e|e|e|e|e;.exact Y e
   .cases e
   .cases e
   .exact I (Y e)
   exact I (I e)⟩⟩;have R:=fW (E s) aX.1 aX.2 (by simp[ah]) (by simp[ah];omega);have CR:=Z (Ir (Jm (a+1+1) (a+1)) M0 aX.1 aX.2 (by simp[ah]) s (by simp[ah];omega) (by simp[ah];omega) (Jk (a:=[]) R.tok));have EK:Hid (∀E' w',Ev (λk=>k=a\/k=a+1\/k=a+1+1) i E' w'->Q w w'):=λE' w' h=>⟨h.f.os.trans m.os,h.f.tape.trans m.tape,h.f.output.trans m.output,az m.size h.f.size,λk S _=>(h.f.block k (aI S m.size) λe=>by omega).trans (m.block k S id)⟩;have HR:=Z R;have H:=Z b;have G:=Z f;clear S0 M0 BR BL BG m R b f;go_enter func34,ntmps34;go_wp2_with fail;rw[<-G.o,<-H.o];refine CR.o.mono ?_;rintro W w1⟨rfl,E1,q,o⟩;have J:=Z q;have n:=Z o;clear q o CR;by_cases d:(aj ah (E s)).e=0
 .have r:(aj ah (E s)).z.at'=(E s).length:=by obtain⟨_,_,r3,_⟩:=HR.o.ok d;simpa[ah]using r3
  have CE:=Z (SJ (Jm (a+1+1) (a+1)) J.o (HR.o.ok d).1 λ_=>Jk (a:=[]++(aj ah (E s)).ts) (by simpa using UX om d));have l:=Z d;have F:=Z r;rw[d];clear d r;go_wp2_with fail;refine CE.o.mono ?_;rintro W w2⟨rfl,E2,j,p⟩;have KW:=Z (EK.o _ _ (n.o.trans p));clear p;by_cases g:aZ (aj ah (E s)).z=true
  .have L:bD (E s)=0:=by unfold bD;rw[aa (by simp[l.o]),ae g]
   obtain⟨t1,t2,t,t3⟩:=Ck om L;have z:[]++(aj ah (E s)).ts++(if aZ (aj ah (E s)).z=true then fF (aj ah (E s)).z else[])=iP (E s):=by rw[ae g];rfl
   rw[z]at j;obtain⟨_,_,_,D2,_,N,_,_⟩:=j.ex;obtain⟨_,x,A,C,M,D0,B,q2,U,q4,q5⟩:=N;have T:(cT a_ (iP (E s))).last=some t:=t3;obtain⟨⟨ix,P,y⟩,u,v⟩:=B.l t2 t T;rw[T]at U;have hx:.pointer x=jf A t:=U;have c0:w2.cell? (aD (a+1) 0)=some (.pointer x):=B.s.2.cell 0;have c:Hid (TrP s w (.returned (.tuple #[.pointer x,.int .i64 0,.int .i64 0])) w2):=by refine⟨KW.o,I ⟨L,A,C,t,ix,t3,by rw[hx],P,y,u.up (by have:=B.ok.bd;omega),v,B.c⟩⟩
   rw[ae g,ae g];clear g L t1 t2 t3 z j B q2 U q4 q5 T y u v hx;go_wp2;go_ret3;exact c.o
  have c:Hid (TrP s w (.returned (.tuple #[.pointer none,.int .i64 2,.int .i64 ((aj ah (E s)).z.at':Nat)])) w2):=by
   have D:bD (E s)=2:=by unfold bD;rw[aa (by simp[l.o]),aa g]
   have K:jB (E s)=(aj ah (E s)).z.at':=by unfold jB;rw[aa (by simp[l.o]),aa g,F.o]
   exact⟨KW.o,Y ⟨om,by rw[D,K];rfl⟩⟩
  rw[aa g,aa g];clear g j;generalize(aj ah (E s)).z.at'=av at*;go_wp2;go_ret3;exact c.o
 have c:Hid (TrP s w (.returned (.tuple #[.pointer none,.int .i64 ((aj ah (E s)).e:Nat),.int .i64 ((aj ah (E s)).z.at':Nat)])) w1):=by
  have D:bD (E s)=(aj ah (E s)).e:=by unfold bD;rw[ae d]
  have K:jB (E s)=(aj ah (E s)).z.at':=by unfold jB;rw[ae d]
  exact⟨EK.o _ _ n.o,Y ⟨by rw[D];exact d,by rw[D,K]⟩⟩
 have hd:(((aj ah (E s)).e:Int)!=0)=true:=by rw[bne_iff_ne];omega
 rw[aa d];clear d;generalize(aj ah (E s)).e=ev at*;generalize(aj ah (E s)).z.at'=av at*;go_wp2;go_ret3;exact c.o
def cR(v:Tv):List Value:=[.string (bR v.d.path),.int .i64 (v.d.af:Nat),.int .i64 (v.d.to:Nat)]
theorem rz:(prog.info? 42).map (λi=>(i.zero,i.size,i.bytes))=some (some (.agg #[.string ⟨#[]⟩,.int .i64 0,.int .i64 0]),3,32):=by kernel_rfl
def Aq(s:ByteArray)(b:List Sg)(w:World)(r:Ending)(a:World):Prop:=Q w a/\((bD (E s)≠0/\r=.returned (.tuple #[.slice none 0 0,.int .i64 (bD (E s):Nat),.int .i64 (jB (E s):Nat)]))\/(bD (E s)=0/\∃t sv,jA (E s)=some t/\r=.returned (.tuple #[sv,.int .i64 0,.int .i64 0])/\a.ownsRow w.heap.size 42 3 sv (aq b [t]).length ((aq b [t]).flatMap cR)))
theorem Dc{N:List Tv}(h:n<N.length):(N.take (n+1)).flatMap cR=(N.take n).flatMap cR++cR N[n]:=by rw[eC h,iy];simp
variable{q:ByteArray}
theorem Jn{w:World}{xs:List Sg}(hq:V w n #[pT k] 77)(hp:∀w',Q w w'->gW w' k q xs)(he:EN w)(hx:∀g∈xs,0<g.l.length)(hsel:cD xs<=10)(s:ByteArray)(hs:s.size<=1100000):Calls prog 18 #[pT n,.string s] w (Aq s xs w):=by
 obtain⟨i0,z,hz0,hz1,eE⟩:=info_parts rz;have HI:=Z z;have iK:=Z hz0;have iz:=Z hz1;have ja:=Z eE;have HE:=Z he;have HP:=Z hp;have HQ:=Z hq;have HX:=Z hx;clear z hz0 hz1 eE he hp hq hx;go_enter func18,ntmps18;go_wp2_with fail;refine(UY s om).mono ?_;rintro r w1⟨oH,hr⟩;have J:=Z oH;clear oH;rcases hr with⟨hne,rfl⟩|⟨h0,A,D,t,ix,o,rfl,B,m,T,hpa,hD⟩
 .have hd:((bD (E s):Int)!=0)=true:=by rw[bne_iff_ne];omega
  have HN:=Z hne;clear hne;go_wp2;go_ret3;exact⟨J.o,Y ⟨HN.o,rfl⟩⟩
 have hl:(E s).length<=4000000:=by rw[ak];omega
 obtain⟨S,_⟩:=vf hl h0 o;obtain⟨U,G⟩:=qX hl h0 o;have hN:∀b,b<=xs.length->(aq (xs.take b) [t]).length<=900000000000:=λb hk=>by have a:=mr S U xs HX.o hsel hk;grind[ak,E]
 have h:PH w1 1 (A t.d.af) t.d.path:=by obtain⟨_,_,_,⟨sv,q1,_,_⟩,_⟩:=m;exact⟨_,_,ix,sv,q1,B,(G t (dT)).1,Y ⟨rfl,hpa⟩⟩
 have p:=Ar m T G B h om;have P:Hid (∀v∈ai 10 t,∀W,Q w1 W->Calls prog 36 #[(pT (A v.d.af))] W λr w'=>r=.returned (Fh v.d.path v.d.af v.d.to)/\Q W w'):=λv hv W hW=>by obtain⟨d',par',UZ,Iv,q1,q2,q3⟩:=p v hv;exact Jo q1 ((HE.o.keep J.o).keep hW) (q2.keep hW) (q3.fr hW id)
 have x:∀v∈aq xs [t],v∈ai 10 t:=jv S xs [t] (λu hu=>by rw[dy.1 hu];exact bq S.d);have hNl:(aq xs [t]).length<=900000000000:=by have:=hN xs.length lr;rwa[bX]at this
 have CN:=Z (Pj (HP.o w1 J.o) m hD S hN);have q0:w1.cell? (aD n 0)=some (pT k):=(HQ.o.fr J.o id).cell 0;have H0:=Z h0;have HTX:=Z o;have L:=Z x;clear hl S U G hN h p m T hpa hD h0 o B x HE HP HQ;generalize U0:aq xs [t]=N at*;unfold jf at CN;go_wp2_with fail;refine CN.o.mono ?_;rintro r y⟨sv2,rfl,hk2,H⟩;obtain⟨a2,c2,U1⟩:=X H;subst U1;have K2:=Z hk2;have O2:=Z H;clear hk2 H CN;go_wp2;go_loopw[10,30]λsv i wr=>∃b:Nat,b<=N.length/\i=.int .i64 b/\Q y wr/\wr.ownsRow y.heap.size 42 3 sv b ((N.take b).flatMap cR)λ_ i _=>N.length-(intOf i).toNat;case atStart=>exact⟨0,aT _,rfl,Fr.refl _ _,World.ownsRow_nil _ _ _ _⟩
 case round=>
  obtain⟨b,hk,rfl,hK,hO⟩:=hrel;obtain⟨a5,c5,U2⟩:=X hO;subst U2;have M:=Z hK;have OO:=Z hO;clear hK hO;by_cases F:b<N.length
  .obtain⟨g2,cap2,Fi,_,NI⟩:=O2.o.form om;simp only[Value.slice.injEq,true_and]at Fi;obtain⟨rfl,rfl⟩:=Fi;have ce:wr.cell? (aD g2 b)=some (.pointer (some ⟨A (N[b]).d.af,0,none⟩)):=by rw[M.o.cell (p:=aD g2 b) NI id,O2.o.cellAt b om];simp[F]
   have ND:=Z (P.o N[b] (L.o _ (bP F)) wr (K2.o.trans M.o));have hnd:cR N[b]=[.string (bR (N[b]).d.path),.int .i64 ((N[b]).d.af:Nat),.int .i64 ((N[b]).d.to:Nat)]:=rfl;have HND:=Z hnd;have NT:=Z (Dc F);clear hnd;generalize N[b]=v at*;unfold Fh at ND;go_wp2_with fail;refine mo ND.o λw3 C=>?_;have K3:=Z (M.o.trans C);have d:w3.ownsRow y.heap.size 42 3 (.slice a5 b c5) b ((N.take b).flatMap cR):=aQ OO.o λi z=>C.block i (OO.o.lt i z).2 id;have hs3:y.heap.size<=w3.heap.size:=K3.o.size;clear C M ND;generalize bR v.d.path=PB at*;go_wp2_with(at_builtin;refine wpList_append_own_at _ rfl _ _ 29 rfl y.heap.size 42 i0 _ 3 32 underlying29 HI.o iK.o iz.o ja.o rfl de _ _ _ rfl (d.alloc _) (aD w3.heap.size 0) 1 1 [.string PB,.int .i64 (v.d.af:Nat),.int .i64 (v.d.to:Nat)] rfl rfl ?c1 ?c2 ?c3 ?c4 ?c5 ?_);case c1=>intro j u l;match j,l with|0,l=>simp at l;subst l;simp[Addr.add]|1,l=>simp at l;subst l;simp[Addr.add]|2,l=>simp at l;subst l;simp[Addr.add]
   case c2=>intro u hu;simp at hu;rcases hu with rfl|rfl|rfl<;>rfl
   case c3=>unfold maxLen;omega
   case c4=>omega
   case c5=>simp;omega
   intro v' w5 f c _ qm;obtain⟨a6,c6,hv6⟩:=X f;subst hv6;have R:Hid (Q y w5/\w5.ownsRow y.heap.size 42 3 (.slice a6 (b+1) c6) (b+1) ((N.take (b+1)).flatMap cR)):=by refine⟨?_,by rw[NT.o,HND.o];exact f⟩;have K:Q y (w3.alloc (.cells #[.string PB,.int .i64 (v.d.af:Nat),.int .i64 (v.d.to:Nat)] 42)):=K3.o.alloc _;exact⟨c.os.trans K.os,c.tape.trans K.tape,c.output.trans K.output,az K.size c.size,λi z _=>by rw[c.block i (aI z K.size) λe=>by have:=(d.lt i e.symm).1;omega];exact K.block i z id⟩
   clear f c qm d;go_wp2;go_roundw;case rel=>exact⟨b+1,om,by go_num,R.o.1,R.o.2⟩
   case measure=>simp[intOf];omega
  have Pk:b=N.length:=om;subst Pk;have tu:Hid (Aq s xs w (.returned (.tuple #[.slice a5 N.length c5,.int .i64 0,.int .i64 0])) wr):=by refine⟨(J.o.trans K2.o).trans M.o,I ⟨H0.o,t,_,HTX.o,rfl,?_⟩⟩;rw[U0];have:=OO.o;rw[bX]at this;exact xQ this (az J.o.size K2.o.size)
  go_wp2;go_ret3;exact tu.o
theorem qA(a:List Sg)(s:Fw)(t:Tr.Tok):(dE a s t).g=aA s.g t s.hd.isSome:=by grind[dE,aA]
def xR(A:Nat->Nat)(d:List Fm)(h b:Option Nat):Prop:=match h with|none=>b=none|some k=>∃a g c,d=a++g::c/\c.length=k/\b=some (A g.d.af)
variable{t:List Fm}{r A:Option Nat}
theorem xR.Pl(H:xR c t r A):A.isSome=r.isSome:=by cases r with|none=>have:A=none:=H;rw[this]|some k=>obtain⟨_,_,_,_,_,e⟩:=H;rw[e];rfl
theorem xR.upd(H:xR c t r A)(f:∀g∈t,D g.d.af=c g.d.af):xR D t r A:=by cases r with|none=>exact H|some k=>obtain⟨a,g,b,e,h,d⟩:=H;exact⟨a,g,b,e,h,by rw[d,f g (by rw[e];simp)]⟩
theorem xR.on(H:xR c t (some n) r)(f:Bool)(d:Tv):xR c (ku t f d) (some n) r:=by obtain⟨a,g,b,e,h,i⟩:=H;cases a with|nil=>refine⟨[],dS g f d,b,by rw[e];rfl,h,?_⟩;grind[dS]|cons p q=>exact⟨dS p f d::q,g,b,by rw[e];rfl,h,i⟩
theorem Jp:∀{l:List Fm}{d:Nat},rA n l d->∀g∈l,g.d.af<n
 |f::r,_,⟨_,_,a,_,_,b⟩,g,c=>by
  rcases fU.1 c with e|e;.rw[e];exact a
  exact Jp b g e
structure FI(b f:Nat)(tt:ByteArray)(xs:List Sg)(Dp:Nat->Prop)(H:Nat->Option Obj)(w:World)(s:Fw)(x:Fx)(A:Nat->Nat)(C M D:Nat->Prop):Prop where
 g:GI f 170 (E8 b f) (FS b tt xs Dp H) w s.g x A C M D
 ok:wW xs s
 nm:SF s.g
 tl:x.tl=s.tl
 told:x.told=s.told
 hd:xR A s.g.st s.hd x.hd
def FtP(b f:Nat)(l:ByteArray)(n:List Sg)(i:Nat->Prop)(H:Nat->Option Obj)(j:Fw)(C M D:Nat->Prop)(w:World)(a:Ending)(g:World):Prop:=a=.returned (.tuple #[])/\∃m h c e d,FI b f l n i H g j m h c e d/\(∀k,d k\/e k\/c k->D k\/M k\/C k\/w.heap.size<=k)/\Fr (λk=>D k\/M k\/k=f) w g
theorem YL{k:List Sg}{s:Fw}{n:List (List Ct)}{w:Option Nat}{a:List (Tv×Nat)}(g:wW k s)(u:s.g.bd<=4000000)(l:mN s.g.st)(q:n=s.tl)(t:a=s.told){f:Fm}{r:List Fm}(z:s.g.st=f::r)(x:s.hd=none\/s.hd=some r.length)(h:Nat)(B:f.ws≠[]->f.d.kind=4\/f.d.kind=5)(m:f.d.name.length<=4000000/\(∀c∈f.ws,∀v∈ai 9 c,EW v))(A:f.ws.length<=4000000)(j:tw (f::r)):U3 k ⟨n,w,a,o,p⟩ r (Fm.ends f h):=by
 subst q t;have b:s.tl.length=r.length+1:=by have:=g.tl;grind
 have i:s.tl≠[]:=λy=>by rw[y]at b;simp at b
 have d:=g.fr;rw[z]at d l;refine⟨b,?_,?_,?_,A,?_,l,j⟩;.show xp k r.length (s.tl.getLastD []);rw[qw s.tl [] i];have e:s.tl.length-1=r.length:=om;have:=g.ct r.length om;grind
 .show s.told.length+(ai 10 (f.tv h)).length<=4000000;have C:=Co f h;have D:=g.n;grind[Uo,NF]
 .exact SG (d:={f.d with to:=h}) (ws:=f.ws) m.1 B m.2
 show f.kp=false;rw[d.1];rcases x with y|y<;>rw[y]<;>simp[mK]
variable{f:List Sg}{l:Nat->Option Obj}{j:Fw}
theorem Pm(hx:f.length<=10)(hsel:cD f<=10)(hpos:∀o∈f,0<o.l.length){x:Fx}(h:FI n k q f a l w j x c b g z)(ht:eN j.g.sh i)(hl:i.t.length<=4000000):Calls prog 53 #[.pointer (some (aD k 1)),bS i] w (FtP n k q f a l (dE f j i) b g z w):=by
 obtain⟨tl,v,F,S,R⟩:=x;have M:tl=j.tl:=h.tl;have e2:F=j.told:=h.told;have N:xR c j.g.st j.hd v:=h.hd;have D:v.isSome=j.hd.isSome:=N.Pl;have K:=h.g.ok;have hix:j.g.ix<=4000000:=by have:=K.ix;have:=K.bd;omega
 have YM:tw j.g.st:=tw.of (by have:=K.bd;omega) K.ws h.nm.st;have acE:∀o∈j.g.st,o.d.af<j.g.bd:=Jp K.ws;have hmem:∀o∈j.g.st,g (c o.d.af):=fO.inj.a h.g.m;have acF:∀kp,tw (aB j.g i kp::j.g.st):=λkp=>⟨hix,h.nm.nm,λp u e=>(h.nm.st p (by rw[e];simp)).2.1,YM⟩;have acG:∀kp,mN (aB j.g i kp::j.g.st):=λkp=>⟨rfl,h.g.p⟩;have W:v=none->j.hd=none:=λe=>by simp_all
 refine(Jj (YN n k) (YO hx hsel) h.g ht (by show jR j.g v.isSome;rw[D];exact h.ok.may) ?_ ?_ ?_).mono ?_;.intro _ b' e;have hs:=W e;subst M;have htl:=h.ok.tl;rw[hs]at htl;exact⟨htl,hix,λs hi=>⟨h.ok.ct s hi,h.ok.z s hi (Y hs)⟩⟩
 .intro k1 J r C;refine⟨λhb e=>?_,λhk=>?_⟩
  .have e:v=some hb:=e;cases B:j.hd with|none=>rw[B,e]at D;cases D|some t=>
    rw[B,e]at N;obtain⟨d,o,m,q1,q2,q3⟩:=N;have hg:o∈J::r:=by rw[<-C,q1];simp
    have q3:=cI q3;rcases fU.1 hg with y|y;.left;rw[q3,y];rfl
    exact I ⟨o,y,q3⟩
  refine YL h.ok K.bd h.g.p M e2 C ?_ i.to (λ_=>(h.nm.st J (by rw[C];simp)).2.1) ⟨(h.nm.st J (by rw[C];simp)).1,(h.nm.st J (by rw[C];simp)).2.2⟩ ?_ (by rw[<-C];exact YM)
  .rcases hk with y|y;.exact Y (W y)
   right;have y:v=some (c J.d.af):=y;cases B:j.hd with|none=>rw[B,y]at D;cases D|some t=>
    rw[B,y]at N;obtain⟨d,o,m,q1,q2,q3⟩:=N;rw[C]at q1;cases d with|nil=>grind|cons p u=>
     have hg:o∈r:=by grind
     have hm:=h.g.m;grind[fO.inj]
  have:=K.ws;rw[C]at this;have:=this.1;omega
 .intro k3 H x1 hb hAA A;refine⟨λhq e=>?_,λhk=>?_⟩
  .unfold Ta at A;cases B:j.hd with|some t=>rw[ae (show v.isSome=true by rw[D,B];rfl)]at A;subst A;have e:v=some hq:=e;rw[B,e]at N;obtain⟨d,o,m,q1,q2,q3⟩:=N;grind|none=>
    rw[aa (show¬v.isSome=true by rw[D,B];simp)]at A;obtain⟨L,rfl⟩:=A;left;have e:Po f (Ib f ⟨tl,v,F,S,R⟩ j.g.st (aB j.g i false)) (H i.af)=some hq:=e;unfold Po at e;split at e;.exact(cI e).symm
    cases e
  unfold Ta at A;have k3':=ht.k3 k3;cases B:j.hd with|some t=>
   have wX:v.isSome=true:=by rw[D,B];rfl
   rw[ae wX]at A;subst A;exfalso;rcases hk with y|y;.grind
   have y:v=some (H i.af):=y;rw[B,y]at N;obtain⟨d,o,m,q1,q2,q3⟩:=N;have:=(h.g.m.lt _ (hmem o (by rw[q1];simp))).1;grind|none=>
   have wX:¬v.isSome=true:=by rw[D,B];simp
   rw[aa wX]at A;obtain⟨L,rfl⟩:=A;have P:=nw hpos h.ok (bK j.g i) (b:=i.af) k3'.2.2.2.2;have hbd:j.g.sh.bd=j.g.bd:=rfl;have hfr:=ht.af;have hws:=K.ws.up (show j.g.bd<=i.af+1 by omega);have eP:gQ f j (bK j.g i) i.af=⟨⟨⟨bK j.g i,j.g.ix,false,[]⟩::j.g.st,[],0,i.af+1,j.g.last⟩,j.tl++[eO f j (bK j.g i)],(if ay f<f.length/\0<(aG (eO f j (bK j.g i)) (ay f)).eB then some j.g.st.length else none),j.told⟩:=by unfold gQ jk;rw[B];simp
   have eT:Ib f ⟨tl,v,F,S,R⟩ j.g.st (aB j.g i false)=eO f j (bK j.g i):=by unfold Ib eO;cases j.g.st with|nil=>rfl|cons p u=>simp only[M];rfl
   have ekp:v.isSome=false:=by simpa using wX
   show U3 f _ j.g.st (Fm.ends (aB j.g i v.isSome) i.to);rw[ekp];refine YL (s:=gQ f j (bK j.g i) i.af) (f:=aB j.g i false) (r:=j.g.st) P (by rw[eP];simp only;omega) (by rw[eP];exact acG false) (by rw[eP,eT,M]) (by rw[eP,e2]) (by rw[eP];rfl) ?_ i.to (λy=>absurd rfl y) ⟨h.nm.nm,λm hc=>by cases hc⟩ (by simp[aB]) (acF false);grind
 rintro res w'⟨rfl,H,C',M',D',x',G,q1,q2,q3,q4⟩;have q1':GI k 170 (E8 n k) (FS n q f a l) w' (dE f j i).g x' H C' M' D':=by rw[qA,<-D];exact q1
 have hnm:SF (dE f j i).g:=by rw[qA];exact Cl h.nm ht hl
 have hA:∀o∈j.g.st,H o.d.af=c o.d.af:=λo hg=>q2 _ (acE o hg);have hH':xR H j.g.st j.hd v:=N.upd hA;have NJ:x'.tl=(dE f j i).tl/\x'.told=(dE f j i).told/\xR H (dE f j i).g.st (dE f j i).hd x'.hd:=by
  have eg:=qA f j i;rw[eg];unfold gX at G;unfold dE;have eT:Ib f ⟨tl,v,F,S,R⟩ j.g.st (aB j.g i false)=eO f j (bK j.g i):=by unfold Ib eO;cases j.g.st with|nil=>rfl|cons p u=>simp only[M];rfl
  by_cases k0:i.k=0
  .rw[ae k0]at G⊢;have T:(aA j.g i j.hd.isSome).st=aB j.g i j.hd.isSome::j.g.st:=by unfold aA;rw[ae k0]
   rw[T];unfold Ta at G;cases B:j.hd with|some t=>grind[xR,jk,bK]|none=>
    rw[aa (show¬v.isSome=true by rw[D,B];simp)]at G;obtain⟨L,rfl⟩:=G;have e:jk f j (bK j.g i)={j with tl:=j.tl++[eO f j (bK j.g i)],hd:=if ay f<f.length/\0<(aG (eO f j (bK j.g i)) (ay f)).eB then some j.g.st.length else none}:=by unfold jk;rw[aa (by rw[B];simp)]
    rw[e,eT];refine⟨by simp only[M],e2,?_⟩;show xR H _ (if ay f<f.length/\0<(aG (eO f j (bK j.g i)) (ay f)).eB then some j.g.st.length else none) (Po f (eO f j (bK j.g i)) (H i.af));unfold Po;by_cases hc:ay f<f.length/\0<(aG (eO f j (bK j.g i)) (ay f)).eB;.rw[ae hc,ae hc];exact⟨[],_,j.g.st,rfl,rfl,rfl⟩
    rw[aa hc,aa hc];rfl
  rw[aa k0]at G⊢;by_cases k1:i.k=1
  .rw[ae k1]at G⊢;cases C:j.g.st with|nil=>grind[aA]|cons J r=>
    rw[C]at G;have T:(aA j.g i j.hd.isSome).st=ku r J.kp (J.tv i.to):=by unfold aA;rw[aa k0,ae k1,C];rfl
    rw[T];have hAf:H J.d.af=c J.d.af:=hA J (by rw[C];simp);have G:U4 f ⟨tl,v,F,S,R⟩ r (Fm.ends J i.to) (H J.d.af) x':=G;rw[hAf]at G;unfold U4 at G;simp only;unfold im;cases B:j.hd with|none=>rw[aa (show¬(v.isSome=true/\v≠some (c J.d.af))by rw[D,B];simp)]at G;obtain⟨L,kh,rfl⟩:=G;rw[aa si];exact⟨by simp only[M],by simp only[M,e2];rfl,rfl⟩|some t=>
     rw[B]at N hH';obtain⟨d,o,m,p1,p2,p3⟩:=id N;rw[C]at p1;cases d with|nil=>
      have eg:o=J:=(List.cons.inj p1).1.symm;have ec:m=r:=(List.cons.inj p1).2.symm;have ek:t=r.length:=by rw[<-p2,ec]
      rw[aa (show¬(v.isSome=true/\v≠some (c J.d.af))fromλy=>y.2 (by rw[p3,eg]))]at G;obtain⟨L,kh,rfl⟩:=G;rw[aa λy=>y.2 (by rw[ek])];exact⟨by simp only[M],by simp only[M,e2];rfl,rfl⟩|cons p u=>
      have er:r=u++o::m:=(List.cons.inj p1).2;have hg:o∈r:=by rw[er];simp
      have hm:=h.g.m;rw[C]at hm;have hne:=fO.inj hm o hg;rw[ae (show v.isSome=true/\v≠some (c J.d.af)from⟨by rw[p3];rfl,λy=>hne (by rw[p3]at y;exact cI y)⟩)]at G;subst G;have ek:t≠r.length:=by rw[<-p2,er];simp;omega
      rw[ae ⟨rfl,λy=>ek (cI y)⟩];refine⟨M,e2,?_⟩;show xR H _ j.hd v;rw[B];have H2:xR H r (some t) v:=⟨u,o,m,er,p2,by rw[p3,hA o (by rw[C,er];simp)]⟩;exact H2.on _ _
  rw[aa k1]at G⊢;by_cases k2:i.k=2;.grind[aA]
  rw[aa k2]at G⊢;obtain⟨x1,hb,A,U⟩:=G;have T:(aA j.g i j.hd.isSome).st=ku j.g.st j.hd.isSome ((aB j.g i j.hd.isSome).tv i.to):=by unfold aA;rw[aa k0,aa k1,aa k2];rfl
  rw[T];unfold Ta at A;unfold U4 at U;cases B:j.hd with|some t=>
   rw[ae (show v.isSome=true by rw[D,B];rfl)]at A;subst A;rw[B]at N hH';obtain⟨d,o,m,p1,p2,p3⟩:=id N;have hlt:=(h.g.m.lt _ (hmem o (by rw[p1];simp))).1;rw[ae (show v.isSome=true/\v≠some (H i.af)from⟨by rw[p3];rfl,λy=>by rw[p3]at y;have:=cI y;omega⟩)]at U;subst U;have e:jk f j (bK j.g i)=j:=by unfold jk;rw[ae (by rw[B];rfl)]
   rw[e];have hk:=h.ok.hd t B;unfold im;rw[ae ⟨by rw[B];rfl,λy=>by rw[B]at y;have:=cI y;omega⟩];refine⟨M,e2,?_⟩;show xR H _ j.hd v;rw[B];exact hH'.on _ _|none=>
   rw[aa (show¬v.isSome=true by rw[D,B];simp)]at A;obtain⟨L,rfl⟩:=A;have e:jk f j (bK j.g i)={j with tl:=j.tl++[eO f j (bK j.g i)],hd:=if ay f<f.length/\0<(aG (eO f j (bK j.g i)) (ay f)).eB then some j.g.st.length else none}:=by unfold jk;rw[aa (by rw[B];simp)]
   rw[e];have Ic:¬((Po f (Ib f ⟨tl,v,F,S,R⟩ j.g.st (aB j.g i false)) (H i.af)).isSome=true/\Po f (Ib f ⟨tl,v,F,S,R⟩ j.g.st (aB j.g i false)) (H i.af)≠some (H i.af)):=by grind[Po]
   rw[aa Ic]at U;obtain⟨ai9,ai_,rfl⟩:=U;unfold im;simp only;have hn2:¬((if ay f<f.length/\0<(aG (eO f j (bK j.g i)) (ay f)).eB then some j.g.st.length else none).isSome=true/\(if ay f<f.length/\0<(aG (eO f j (bK j.g i)) (ay f)).eB then some j.g.st.length else none)≠some j.g.st.length):=by grind
   rw[aa hn2,eT];exact⟨by simp only[M],by simp only[M,e2];rfl,rfl⟩
 exact⟨rfl,x',H,C',M',D',⟨q1',xq hpos h.ok ht,hnm,NJ.1,NJ.2.1,NJ.2.2⟩,q3,q4⟩
def FE(b f:Nat)(d:ByteArray)(e:List Sg)(c:Nat->Prop)(H:Nat->Option Obj)(w:World)(a:Nat->Prop)(s:Fw):Prop:=∃x A C M D,FI b f d e c H w s x A C M D/\∀k,a k↔D k\/M k\/C k\/k=f
theorem FE.lt(h:FE n k q f a l w b j)(g:b B):B<w.heap.size:=by
 obtain⟨x,A,C,M,D,c,d⟩:=h;rcases(d B).1 g with e|e|e|e;.exact c.g.s.lt e
 .exact(c.g.m.lt B e).1
 .exact c.g.c B e
 rw[e];exact c.g.b.lt
theorem FE.keep(m:f.length<=10)(e:cD f<=10){w w':World}(h:FE n k q f a l w b j)(p:Sm b w w')(o:w.heap.size<=w'.heap.size):FE n k q f a l w' b j:=by obtain⟨x,A,C,M,D,d,g⟩:=h;exact⟨x,A,C,M,D,⟨GI.sm (YO m e) d.g (λc i=>p c ((g c).2 i)) o,d.ok,d.nm,d.tl,d.told,d.hd⟩,g⟩
theorem Oh(F:f.length<=10)(m:cD f<=10)(d:∀g∈f,0<g.l.length)(h:FE n k q f a l w b j)(B:eN j.g.sh i)(z:i.t.length<=4000000):Calls prog 53 #[.pointer (some (aD k 1)),bS i] w λo p=>o=.returned (.tuple #[])/\∃t,FE n k q f a l p t (dE f j i)/\(∀c,t c->b c\/w.heap.size<=c)/\Fr b w p:=by
 obtain⟨x,A,C,M,D,y,K⟩:=h;refine(Pm F m d y B z).mono ?_;rintro o p⟨rfl,J,v,r,u,s,G,N,H⟩;refine⟨rfl,λc=>s c\/u c\/r c\/c=k,⟨J,v,r,u,s,G,λ_=>Iff.rfl⟩,λc L=>?_,H.mono λc _ e=>?_⟩;.grind
 grind
theorem Ol(h:FE n k q f a l w b j):∃o,w.cell? (aD k 8)=some o/\(∀i,w.frozen? (aD k i)=false)/\b k/\∃v,FE n k q f a l (w.setCell (aD k 8) (.slice none 0 0)) v (tO j)/\(∀c,v c->b c)/\(w.setCell (aD k 8) (.slice none 0 0)).ownsRow 0 44 4 o j.told.length (j.told.flatMap EZ)/\∀c,o.ownBlock=some c->b c/\¬v c:=by
 obtain⟨x,A,C,M,D,g,J⟩:=h;have z:=g.g.b;have s:=g.g.dj;have m:=g.g.s;have H:∀c,x.ti.ownBlock=some c->D c:=λc d=>(m.d c).2 (I (I (I d)));have G:∀c,D c->c≠k:=λc d=>(s c d).2.2;have K:∀c,c≠k->(w.setCell (aD k 8) (.slice none 0 0)).heap[c]?=w.heap[c]?:=λc d=>Below.heap_setCell _ _ _ _ λe=>d e;have u:w.heap.size<=(w.setCell (aD k 8) (.slice none 0 0)).heap.size:=by simp[World.setCell]
 have F:Fr (λc=>c=k) w (w.setCell (aD k 8) (.slice none 0 0)):=(Fr.refl (λc=>c=k) w).setCell (aD k 8) (Y rfl) _;have p:FS n q f a l (w.setCell (aD k 8) (.slice none 0 0)) D x:=m.keep (λc d=>K c (G c d)) u;have B:∀c,(a c\/jO c\/x.tj.ownBlock=some c)->D c/\x.ti.ownBlock≠some c:=λc d=>by
  rcases d with e|e|e;.exact⟨(m.d c).2 (Y e),λy=>(m.no c y).1 e⟩
  .exact⟨(m.d c).2 (I (Y e)),λy=>(m.no c y).2 e⟩
  exact⟨(m.d c).2 (I (I (Y e))),(m.nt c e).1⟩
 refine⟨x.ti,z.cell 8,z.fz,(J k).2 (I (I (I rfl))),λc=>(a c\/jO c\/x.tj.ownBlock=some c)\/M c\/C c\/c=k,⟨⟨x.tl,x.hd,[],x.tj,.slice none 0 0⟩,A,C,M,λc=>a c\/jO c\/x.tj.ownBlock=some c,⟨⟨?_,z.set 8 _,?_,g.g.ok,g.g.p,λc d=>aI (g.g.c c d) u,λc d=>s c (B c d).1,g.g.g,?_⟩,g.ok.no,g.nm,g.tl,rfl,g.hd⟩,λ_=>Iff.rfl⟩,λc d=>?_,?_,λc d=>⟨(J c).2 (Y (H c d)),λe=>?_⟩⟩
 .refine⟨p.p,p.pl,p.e,p.t,⟨rfl,Y ⟨rfl,rfl⟩⟩,λc d=>⟨λe=>(by cases e),(m.nt c d).2⟩,λc d=>(by cases d),λc=>?_,p.sm⟩;constructor;.grind
  rintro(e|e|e|e);.exact Y e
  .exact I (Y e)
  .exact I (I e)
  cases e
 .exact g.g.m.fr g.g.c F λc e=>by rw[e];exact g.g.g
 .intro L t R;obtain⟨⟨S,N,P⟩,r⟩:=g.g.l L t R;exact⟨⟨S,N,P.keep λc d=>K c λe=>g.g.g.2 (e▸d)⟩,r⟩
 .grind
 .have:=p.o;rw[g.told]at this;exact this
 grind
