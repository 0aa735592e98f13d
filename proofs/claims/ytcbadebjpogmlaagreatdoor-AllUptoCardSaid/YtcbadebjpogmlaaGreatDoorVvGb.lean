import Derived.Test.YtcbadebjpogmlaaGreatDoorVvKa
import Derived.Laws.EntriesVeiled
import Derived.Deep.RegionHeld
import Derived.Test.YtcbadebjpogmlaaGreatDoorVvShelf
import Derived.Conc.LoneCalls
set_option maxHeartbeats 2000000
set_option maxRecDepth 100000
namespace Go.Proofs.YtcbadebjpogmlaaGreatDoor
open Go.RowKit Tr Go.Proofs.Tryz
def lF(b:Nat):Value:=pT b
def dZ(A:Nat->Nat)(r:List Fm):Value:=match r with|[]=>.pointer none|f::_=>lF (A f.d.af)
structure FrO(w:World)(A:Nat->Nat)(C:Nat->Prop)(bd n:Nat)(par:Value)(f:Fm)(ex:List Value)(sv:Value):Prop where
 b:V w (A f.d.af) (kF f.d par f.ix sv) 130
 o:w.ownsRow 0 71 1 sv (f.ws.length+ex.length) (f.ws.map (jf A)++ex)d:I6 f.d
 ks:∀i(h:i<f.ws.length),PT w A C n (lF (A f.d.af)) i f.ws[i]/\FB bd n f.ws[i]/\(f.ws[i]).d.path=ji f.d.kind f.d.path i (f.ws[i]).d.name
 nb:sv.ownBlock≠some (A f.d.af)nc:¬C (A f.d.af)/\∀k,sv.ownBlock=some k->¬C k
 fr:f.d.af<bd
def fO(w:World)(A:Nat->Nat)(C:Nat->Prop)(b:Nat):List Fm->List Value->(Nat->Prop)->Prop|[],_,M=>∀k,¬M k|f::r,c,M=>∃sv a,FrO w A C b (9-r.length) (dZ A r) f c sv/\(∀k,M k↔k=A f.d.af\/sv.ownBlock=some k\/a k)/\¬a (A f.d.af)/\(∀k,sv.ownBlock=some k->¬a k)/\fO w A C b r (if f.kp=true then[lF (A f.d.af)]else[]) a
variable{w v u:World}{a m:Nat->Nat}{b c g D F H:Nat->Prop}
theorem PT.more{D':Nat->Prop}(d:∀k,b k->D' k):∀(n:Nat)(c:Value)(e:Nat)(t:Tv),PT w a b n c e t->PT w a D' n c e t|0,_,_,_,h=>h|n+1,_,_,_,⟨f,o,r,⟨sv,g,j,l⟩,m⟩=>⟨d _ f,o,r,⟨sv,g,λk q=>d k (j k q),l⟩,λi p=>PT.more d n _ i _ (m i p)⟩
variable{n k t:Nat}
theorem C0(h:∀b,b<n->m b=a b){t:Tv}(c:FB n k t):jf m t=jf a t:=by cases k with|zero=>exact c.elim|succ k=>unfold jf;rw[h _ c.1]
theorem PT.upd(h:∀k,k<n->m k=a k):∀(d:Nat)(f:Value)(l:Nat)(t:Tv),FB n d t->PT w a b d f l t->PT w m b d f l t
 |0,_,_,_,_,x=>x|d+1,_,_,t,j,⟨p,y,z,⟨sv,q,r,s⟩,u⟩=>by
  have e:m t.d.af=a t.d.af:=h _ j.1;have o:t.ws.map (jf m)=t.ws.map (jf a):=by apply List.map_congr_left;intro c v;obtain⟨i,g,rfl⟩:=gR.1 v;exact C0 h (j.2 i g).1
  refine⟨by rw[e];exact p,y,z,⟨sv,by rw[e];exact q,r,by rw[o];exact s⟩,λi g=>?_⟩;rw[show jf m t=jf a t by unfold jf;rw[e]];exact PT.upd h d _ i _ (j.2 i g).1 (u i g)
theorem fO.keep{w w':World}(j:Sm b w w'):∀{l:List Fm}{g:List Value}{M:Nat->Prop},fO w a b n l g M->Sm M w w'->fO w' a b n l g M|[],_,_,h,_=>h|_::_,_,_,⟨sv,o,c,d,p,q,r⟩,e=>⟨sv,o,⟨(e _ ((d _).2 (Y rfl))).trans c.b,aQ c.o λk f=>e k ((d k).2 (I (Y f))),c.d,λi m=>⟨(c.ks i m).1.keep j,(c.ks i m).2⟩,c.nb,c.nc,c.fr⟩,d,p,q,r.keep j λk f=>e k ((d k).2 (I (I f)))⟩
theorem fO.lt:∀{l:List Fm}{e:List Value}{M:Nat->Prop},fO w a b n l e M->∀k,M k->k<w.heap.size/\¬b k
 |[],_,_,h,k,d=>absurd d (h k)|_::_,_,_,⟨sv,i,c,f,_,_,g⟩,k,d=>by
  rcases(f k).1 d with x|x|x;.rw[x];exact⟨c.b.lt,c.nc.1⟩
  .exact⟨(c.o.lt k x).2,c.nc.2 k x⟩
  exact g.lt k x
variable{d:List Fm}{r:List Value}
theorem nJ{bd:Nat}(h:∀k,k<bd->m k=a k)(i:fO w a b bd d r c):dZ m d=dZ a d:=by cases d with|nil=>rfl|cons f e=>obtain⟨sv,j,g,_⟩:=i;show lF (m f.d.af)=lF (a f.d.af);rw[h _ g.fr]
theorem fO.upd(p:n<=k)(h:∀d,d<n->m d=a d):∀{l:List Fm}{o:List Value}{M:Nat->Prop},fO w a b n l o M->fO w m b k l o M
 |[],_,_,x=>x|f::r,o,M,⟨sv,s,g,u,v,y,q⟩=>by
  have e:m f.d.af=a f.d.af:=h _ g.fr;have t:f.ws.map (jf m)=f.ws.map (jf a):=by apply List.map_congr_left;intro c z;obtain⟨i,j,rfl⟩:=gR.1 z;exact C0 h (g.ks i j).2.1
  refine⟨sv,s,⟨by rw[e,nJ h q];exact g.b,by rw[t];exact g.o,g.d,λi j=>⟨?_,(g.ks i j).2.1.up p,(g.ks i j).2.2⟩,by rw[e];exact g.nb,by rw[e];exact g.nc,aI g.fr p⟩,λd=>by rw[e];exact u d,by rw[e];exact v,y,?_⟩;.rw[e];exact PT.upd h _ _ i _ (g.ks i j).2.1 (g.ks i j).1
  rw[e];exact fO.upd p h q
theorem fO.grow(m:∀k,b k->c k):∀{l:List Fm}{j:List Value}{M:Nat->Prop},fO w a b n l j M->(∀k,M k->¬c k)->fO w a c n l j M|[],_,_,h,_=>h|_::_,_,_,⟨sv,p,d,e,q,r,s⟩,f=>⟨sv,p,⟨d.b,d.o,d.d,λi o=>⟨PT.more m _ _ _ _ (d.ks i o).1,(d.ks i o).2⟩,d.nb,⟨f _ ((e _).2 (Y rfl)),λk g=>f k ((e k).2 (I (Y g)))⟩,d.fr⟩,e,q,r,s.grow m λk g=>f k ((e k).2 (I (I g)))⟩
variable{f z:Fm}
theorem fO.close(h:fO w a b n (f::d) [] c)(W:d.length<=8)(J:f.ws.length<=4000000)(H:f.kp=true->∀p q,d=p::q->f.ix=p.ws.length)(hp:f.d.path=iv d f.ix f.d.name):∃A s,(∀k,A k->b k\/c k)/\(∀k,b k->A k)/\(∀k,s k->c k)/\fO w a A n (ku d f.kp ⟨f.d,f.ws⟩) [] s/\PT w a A (9-d.length+1) (dZ a d) f.ix ⟨f.d,f.ws⟩/\FB n (9-d.length+1) ⟨f.d,f.ws⟩:=by
 obtain⟨sv,s,t,S,T,U,F⟩:=h;have u:∀k,(b k\/k=a f.d.af\/sv.ownBlock=some k)->¬s k:=λk l C=>by
  rcases l with x|x|x;.exact(F.lt k C).2 x
  .rw[x]at C;exact T C
  exact U k x C
 have M:=t.o;simp only[List.length_nil,Nat.add_zero,List.append_nil]at M;have y:PT w a (λk=>b k\/k=a f.d.af\/sv.ownBlock=some k) (9-d.length+1) (dZ a d) f.ix ⟨f.d,f.ws⟩:=⟨I (Y rfl),t.d,J,⟨sv,t.b,λk l=>I (I l),M⟩,λi m=>PT.more (λk l=>Y l) _ _ _ _ (t.ks i m).1⟩;have v:FB n (9-d.length+1) ⟨f.d,f.ws⟩:=⟨t.fr,λi m=>(t.ks i m).2⟩;refine⟨λk=>b k\/k=a f.d.af\/sv.ownBlock=some k,s,λk l=>?_,λk=>Y,λk l=>(S k).2 (I (I l)),?_,y,v⟩;.grind
 cases d with|nil=>exact F|cons p q=>
  obtain⟨r,D,g,B,K,L,g5⟩:=F;have z:¬(b (a p.d.af)\/a p.d.af=a f.d.af\/sv.ownBlock=some (a p.d.af))/\∀k,r.ownBlock=some k->¬(b k\/k=a f.d.af\/sv.ownBlock=some k):=⟨λx=>u _ x ((B _).2 (Y rfl)),λk l x=>u k x ((B k).2 (I (Y l)))⟩;have N:fO w a (λk=>b k\/k=a f.d.af\/sv.ownBlock=some k) n q (if p.kp=true then[lF (a p.d.af)]else[]) D:=by grind[fO.grow]
  show fO w a _ n (dS p f.kp ⟨f.d,f.ws⟩::q) [] s;unfold dS;by_cases j:f.kp=true
  .rw[ae j];rw[ae j]at g;have m:=H j p q rfl;have P:9-q.length=9-(p::q).length+1:=by simp at W⊢;omega
   refine⟨r,D,⟨g.b,?_,g.d,λi G=>?_,g.nb,z,g.fr⟩,B,K,L,N⟩;.have:=g.o;simpa[jf,lF]using this
   by_cases o:i<p.ws.length;.have e:(p.ws++[(⟨f.d,f.ws⟩:Tv)])[i]=p.ws[i]:=List.getElem_append_left o;show PT w a _ _ _ i (p.ws++[(⟨f.d,f.ws⟩:Tv)])[i]/\FB n _ (p.ws++[(⟨f.d,f.ws⟩:Tv)])[i]/\_;rw[e];exact⟨PT.more (λk=>Y) _ _ _ _ (g.ks i o).1,(g.ks i o).2⟩
   have R:i=p.ws.length:=by simp at G;omega
   subst R;have e:(p.ws++[(⟨f.d,f.ws⟩:Tv)])[p.ws.length]=⟨f.d,f.ws⟩:=si;show PT w a _ _ _ _ (p.ws++[(⟨f.d,f.ws⟩:Tv)])[p.ws.length]/\FB n _ (p.ws++[(⟨f.d,f.ws⟩:Tv)])[p.ws.length]/\_;rw[e,P,<-m];exact⟨y,v,hp⟩
  rw[aa j];rw[aa j]at g;exact⟨r,D,⟨g.b,g.o,g.d,λi m=>⟨PT.more (λk=>Y) _ _ _ _ (g.ks i m).1,(g.ks i m).2⟩,g.nb,z,g.fr⟩,B,K,L,N⟩
theorem fO.fr{K:Nat->Prop}{w w':World}(h:fO w a b n d r c)(i:∀k,b k->k<w.heap.size)(f:Fr K w w')(g:∀k,K k->¬c k/\¬b k):fO w' a b n d r c:=h.keep (λk e=>f.block k (i k e) λx=>(g k x).2 e) λk e=>f.block k (h.lt k e).1 λx=>(g k x).1 e
def fH(A:Nat->Nat)(a b:Nat):Nat->Nat:=λk=>if k=a then b else A k
theorem tW(A:Nat->Nat)(a b:Nat):fH A a b a=b:=by simp[fH]
theorem vw(A:Nat->Nat)(h:t≠n):fH A n k t=A t:=by simp[fH,h]
theorem fO.new(h:fO w a b n d [] c)(q:∀g,b g->g<w.heap.size){f:Fm}(u:w.heap.size<=k)(t:V v k (kF f.d (dZ a d) f.ix (.slice none 0 0)) 130)(r:Q w v)(z:n<=f.d.af)(m:f.kp=false)(o:f.ws=[])(y:I6 f.d):fO v (fH a f.d.af k) b (f.d.af+1) (f::d) [] λg=>g=k\/c g:=by
 have p:∀g,g<n->fH a f.d.af k g=a g:=λg r=>vw a om;have s:fO v a b n d [] c:=h.fr q r λ_ x=>x.elim;have e:fH a f.d.af k f.d.af=k:=tW _ _ _;have l:¬c k:=λx=>by have:=(h.lt k x).1;omega
 have j:¬b k:=λx=>by have:=q k x;omega
 refine⟨.slice none 0 0,c,⟨?_,?_,y,λi A=>?_,(λx=>by cases x),?_,tX _⟩,λg=>?_,?_,(λg x=>by cases x),?_⟩;.rw[e,nJ p h];exact t
 .rw[o];exact World.ownsRow_nil _ _ _ _
 .grind
 .rw[e];exact⟨j,λg x=>by cases x⟩
 .rw[e];constructor;.grind
  rintro(x|x|x);.exact Y x
  .cases x
  exact I x
 .rw[e];exact l
 rw[m];exact s.upd om p
variable{j o B J K:Value}
theorem fO.kept(m:FrO w a b n (9-(z::d).length) (dZ a (z::d)) f [] j)(R:¬c (a f.d.af))(S:∀k,j.ownBlock=some k->¬c k)(l:FrO w a b n (9-d.length) (dZ a d) z [] o)(D:∀k,c k↔k=a z.d.af\/o.ownBlock=some k\/g k)(N:¬g (a z.d.af))(P:∀k,o.ownBlock=some k->¬g k)(G:fO w a b n d (if z.kp=true then[lF (a z.d.af)]else[]) g)(T:∀k,b k->k<w.heap.size)(p:Q w v)(r:v.grownBy u o.ownBlock)(ho:u.ownsRow 0 71 1 B (z.ws.length+1) (z.ws.map (jf a)++[lF (a f.d.af)]))(L:B.ownBlock=o.ownBlock\/B.ownBlock=some v.heap.size):fO (u.setCell (aD (a z.d.af) 8) B) a b n ({f with kp:=true}::z::d) [] (λk=>k=a f.d.af\/j.ownBlock=some k\/k=a z.d.af\/B.ownBlock=some k\/g k)/\Fr (λk=>k=a z.d.af\/o.ownBlock=some k) w (u.setCell (aD (a z.d.af) 8) B):=by
 have F:∀k,k<w.heap.size->k≠a z.d.af->o.ownBlock≠some k->(u.setCell (aD (a z.d.af) 8) B).heap[k]?=w.heap[k]?:=λk h hp U=>by rw[Below.heap_setCell _ _ _ _ λe=>hp e,r.block k (aI h p.size) λe=>U e.symm,p.block k h id]
 have M:Sm b w (u.setCell (aD (a z.d.af) 8) B):=λk h=>F k (T k h) (λe=>l.nc.1 (e▸h)) λe=>l.nc.2 k e h;have H:a f.d.af≠a z.d.af:=λe=>R (e▸(D _).2 (Y rfl));have t:o.ownBlock≠some (a f.d.af):=λe=>R ((D _).2 (I (Y e)));have A:∀k,B.ownBlock=some k->o.ownBlock=some k\/w.heap.size<=k:=λk h=>by
  rcases L with x|x;.exact Y (x.symm.trans h)
  have:v.heap.size=k:=cI (x.symm.trans h);have:=p.size;exact I om
 have q:=l.b.lt;have W:V u (a z.d.af) (kF z.d (dZ a d) z.ix o) 130:=by show u.heap[a z.d.af]?=_;rw[r.block _ (aI q p.size) λe=>l.nb e.symm,p.block _ q id];exact l.b
 have C:B.ownBlock≠some (a z.d.af):=λe=>by
  rcases A _ e with x|x;.exact l.nb x
  omega
 have J:∀k,B.ownBlock=some k->¬b k:=λk h x=>by
  rcases A k h with y|y;.exact l.nc.2 k y x
  have:=T k x;omega
 have K:∀k,B.ownBlock=some k->¬g k:=λk h x=>by
  rcases A k h with y|y;.exact P k y x
  have:=(G.lt k x).1;omega
 have hvf:B.ownBlock≠some (a f.d.af):=λe=>by
  rcases A _ e with x|x;.exact t x
  have:=m.b.lt;omega
 have hvs:∀k,j.ownBlock=some k->B.ownBlock≠some k:=λk h e=>by
  rcases A k e with x|x;.grind
  have:=(m.o.lt k h).2;omega
 refine⟨⟨j,λk=>k=a z.d.af\/B.ownBlock=some k\/g k,⟨(F _ m.b.lt H t).trans m.b,aQ m.o λk h=>F k (m.o.lt k h).2 (λe=>S k h ((D k).2 (Y e))) λe=>S k h ((D k).2 (I (Y e))),m.d,λi s=>⟨(m.ks i s).1.keep M,(m.ks i s).2⟩,m.nb,m.nc,m.fr⟩,λ_=>Iff.rfl,?_,?_,?_⟩,⟨?_,?_,?_,?_,λk h U=>?_⟩⟩;.grind
 .grind
 .refine⟨B,g,⟨W.set 8 B,?_,l.d,λi s=>⟨(l.ks i s).1.keep M,(l.ks i s).2⟩,C,⟨l.nc.1,J⟩,l.fr⟩,λ_=>Iff.rfl,N,K,?_⟩;.show World.ownsRow _ _ _ _ _ (z.ws.length+1) (z.ws.map (jf a)++[lF (a f.d.af)]);exact aQ ho λk h=>Below.heap_setCell _ _ _ _ λe=>C (by rw[h];exact gV some e)
  exact G.keep M λk h=>F k (G.lt k h).1 (λe=>N (e▸h)) λe=>P k e h
 .exact r.os.trans p.os
 .exact r.tape.trans p.tape
 .exact r.output.trans p.output
 .exact az p.size (az r.size (by simp[World.setCell]))
 grind
structure vx{X:Type}(T:TypeId)(o:Nat)(fb fc:Value)(gc:X->Value->Value->Value->Array Value):Prop where
 c0:∀{w:World}{g:Nat}{x:X}{a b c:Value},V w g (gc x a b c) T->w.cell? (aD g o)=some fb
 c1:∀{w:World}{g:Nat}{x:X}{a b c:Value},V w g (gc x a b c) T->w.cell? (aD g (o+1))=some fc
 c2:∀{w:World}{g:Nat}{x:X}{a b c:Value},V w g (gc x a b c) T->w.cell? (aD g (o+2))=some a
 c3:∀{w:World}{g:Nat}{x:X}{a b c:Value},V w g (gc x a b c) T->w.cell? (aD g (o+3))=some b
 c4:∀{w:World}{g:Nat}{x:X}{a b c:Value},V w g (gc x a b c) T->w.cell? (aD g (o+4))=some c
 s2:∀{w:World}{g:Nat}{x:X}{a b c:Value}(v:Value),V w g (gc x a b c) T->V (w.setCell (aD g (o+2)) v) g (gc x v b c) T
 s3:∀{w:World}{g:Nat}{x:X}{a b c:Value}(v:Value),V w g (gc x a b c) T->V (w.setCell (aD g (o+3)) v) g (gc x a v c) T
 s4:∀{w:World}{g:Nat}{x:X}{a b c:Value}(v:Value),V w g (gc x a b c) T->V (w.setCell (aD g (o+4)) v) g (gc x a b v) T
structure I7{X:Type}(g:Nat)(T:TypeId)(gc:X->Value->Value->Value->Array Value)(fb fc:Value)(S:World->(Nat->Prop)->X->Prop)(bk:X->Bool)(bg cl:X->List Fm->Fm->Nat->X->Prop)(qG:X->List Fm->Fm->Nat->Prop)(S_:X->List Fm->Fm->(Nat->Nat)->Prop):Prop where
 lt:∀{w:World}{D:Nat->Prop}{x:X}{k:Nat},S w D x->D k->k<w.heap.size
 keep:∀{w w':World}{D:Nat->Prop}{x:X},S w D x->Sm D w w'->w.heap.size<=w'.heap.size->S w' D x
 Am:∃N first cap,fb=.func (.func N) first cap/\(∀args w,(callFunc N args).run prog w=.ok (.enter N args) w)/\∀{w:World}{D:Nat->Prop}{x:X}{A:Nat->Nat}{C:Nat->Prop}{bd:Nat}{r:List Fm}{f:Fm}{M:Nat->Prop}{a b c:Value},S w D x->V w g (gc x a b c) T->fO w A C bd (f::r) [] M->r.length<=8->(∀k,C k->k<w.heap.size)->(∀k,D k->¬M k/\¬C k/\k≠g)->(¬M g/\¬C g)->qG x r f (A f.d.af)->Calls prog N (first.push (lF (A f.d.af))++cap) w λres w'=>res=.returned (.bool (bk x))/\∃D' x',bg x r f (A f.d.af) x'/\S w' D' x'/\V w' g (gc x' a b c) T/\(∀k,D' k->D k\/w.heap.size<=k)/\Fr (λk=>D k\/k=g) w w'
 closed:∃N first cap,fc=.func (.func N) first cap/\(∀args w,(callFunc N args).run prog w=.ok (.enter N args) w)/\∀{w:World}{D:Nat->Prop}{x:X}{A:Nat->Nat}{C:Nat->Prop}{bd:Nat}{r:List Fm}{f:Fm}{M:Nat->Prop}{a b c:Value},S w D x->V w g (gc x a b c) T->fO w A C bd (f::r) [] M->r.length<=8->(∀k,C k->k<w.heap.size)->(∀k,D k->¬M k/\¬C k/\k≠g)->(¬M g/\¬C g)->S_ x r f A->Calls prog N (first.push (lF (A f.d.af))++cap) w λres w'=>res=.returned (.tuple #[])/\∃D' x',cl x r f (A f.d.af) x'/\S w' D' x'/\V w' g (gc x' a b c) T/\(∀k,D' k->D k\/w.heap.size<=k)/\Fr (λk=>D k\/k=g) w w'
theorem xK(A:Nat->Nat)(r:List Fm):∃a,dZ A r=.pointer a:=by cases r with|nil=>exact⟨_,rfl⟩|cons f q=>exact⟨_,rfl⟩
def Fm.ends(f:Fm)(a:Nat):Fm:={f with d:={f.d with to:=a}}
theorem fO.YF(h:fO w a b n (f::d) r c)(l:Nat):fO (w.setCell (aD (a f.d.af) 2) (.int .i64 (l:Nat))) a b n (Fm.ends f l::d) r c:=by obtain⟨sv,s,g,t,o,u,v⟩:=h;have m:∀k,k≠a f.d.af->(w.setCell (aD (a f.d.af) 2) (.int .i64 (l:Nat))).heap[k]?=w.heap[k]?:=λk j=>Below.heap_setCell _ _ _ _ λe=>j e;have q:Sm b w (w.setCell (aD (a f.d.af) 2) (.int .i64 (l:Nat))):=λk j=>m k λe=>g.nc.1 (e▸j);refine⟨sv,s,⟨g.b.set 2 _,aQ g.o λk j=>m k λe=>g.nb (e▸j),⟨g.d.k,g.d.w,g.d.s,g.d.n⟩,λi p=>⟨(g.ks i p).1.keep q,(g.ks i p).2⟩,g.nb,g.nc,g.fr⟩,t,o,u,?_⟩;exact v.keep q λk j=>m k λe=>o (e▸j)
def ClP{a:Type}(g:Nat)(T:TypeId)(i:a->Value->Value->Value->Array Value)(S:World->(Nat->Prop)->a->Prop)(A:Nat->Nat)(C:Nat->Prop)(h:Nat)(f:Fm)(r:List Fm)(M D:Nat->Prop)(R:a->Prop)(j:Value)(w:World)(c:Ending)(b:World):Prop:=c=.returned (.tuple #[])/\∃e d,R d/\S b e d/\V b g (i d (dZ A r) j (.int .i64 ((f.ix:Int)+1))) T/\fO b A C h (f::r) [] M/\(∀k,e k->D k\/w.heap.size<=k)/\Fr (λk=>D k\/M k\/k=g) w b
variable{i:TypeId}
theorem C2{h:Type}{gc:h->Value->Value->Value->Array Value}{S:World->(Nat->Prop)->h->Prop}{bk:h->Bool}{bg cl:h->List Fm->Fm->Nat->h->Prop}{qG:h->List Fm->Fm->Nat->Prop}{U:h->List Fm->Fm->(Nat->Nat)->Prop}(hL:vx i k j o gc)(hG:I7 n i gc j o S bk bg cl qG U){x:h}(hS:S w b x)(hB:V w n (gc x B J K) i)(hM:fO w a c t (f::d) [] g)(hr:d.length<=8)(hC:∀m,c m->m<w.heap.size)(z:∀m,b m->¬g m/\¬c m/\m≠n)(hg:¬g n/\¬c n)(hix:f.ix<=4000000)(A:Nat)(C5:U x d (Fm.ends f A) a):Calls prog 73 #[.pointer (some (aD n k)),lF (a f.d.af),.int .i64 (A:Nat)] w (ClP n i gc S a c t (Fm.ends f A) d g b (cl x d (Fm.ends f A) (a f.d.af)) J w):=by
 obtain⟨N,first,cap,hfc,hE,y⟩:=hG.closed;have D:=hM.YF A;obtain⟨sv,M',h1,h2,_⟩:=hM;have v:g (a f.d.af):=(h2 _).2 (Y rfl);have G:n≠a f.d.af:=λe=>hg.1 (e▸v);have fzv:=h1.b.fz;have fzg:=hB.fz;have hpar:Hid (dZ a d=dZ a d):=rfl;obtain⟨l,hb⟩:∃l,l=a f.d.af:=⟨_,rfl⟩;rw[<-hb]at D v G fzv⊢;have b1:V w l (kF f.d (dZ a d) f.ix sv) 130:=by rw[hb];exact h1.b
 have L:Fr (λm=>m=l) w (w.setCell (aD l 2) (.int .i64 (A:Nat))):=(Fr.refl (λm=>m=l) w).setCell (aD l 2) (Y rfl) _;have d5:(w.setCell (aD l 2) (.int .i64 (A:Nat))).cell? (aD l 5)=some (dZ a d):=(b1.set 2 _).cell 5;have P:=hB.fr L G;obtain⟨u,p⟩:∃u,u=w.setCell (aD l 2) (.int .i64 (A:Nat)):=⟨_,rfl⟩;have b2:V u l (kF {f.d with to:=A} (dZ a d) f.ix sv) 130:=by rw[p];exact b1.set 2 _
 rw[<-p]at D L d5 P;have S1:S u b x:=hG.keep hS (λm r=>L.block m (hG.lt hS r) λe=>(z m r).1 (e▸v)) L.size;have UL:=P.fz;have t1:=hL.c2 P;have t0:w.cell? (aD l 2)=some (.int .i64 (f.d.to:Nat)):=b1.cell 2;have k2:Fr (λm=>m=n) u (u.setCell (aD n (k+2)) (dZ a d)):=(Fr.refl (λm=>m=n) u).setCell (aD n (k+2)) (Y rfl) _;have R:=hL.s2 (dZ a d) P;have b3:=b2.fr k2 λe=>G e.symm;have d6:(u.setCell (aD n (k+2)) (dZ a d)).cell? (aD l 6)=some (.int .i64 (f.ix:Nat)):=b3.cell 6;obtain⟨M,s⟩:∃M,M=u.setCell (aD n (k+2)) (dZ a d):=⟨_,rfl⟩;rw[<-s]at k2 R b3 d6;have fz2:=R.fz;have t2:=hL.c4 R;have k3:Fr (λm=>m=n) M (M.setCell (aD n (k+4)) (.int .i64 ((f.ix:Int)+1))):=(Fr.refl (λm=>m=n) M).setCell (aD n (k+4)) (Y rfl) _;have B3:=hL.s4 (.int .i64 ((f.ix:Int)+1)) R;have d1:=hL.c1 B3;obtain⟨H,F⟩:∃H,H=M.setCell (aD n (k+4)) (.int .i64 ((f.ix:Int)+1)):=⟨_,rfl⟩;rw[<-F]at k3 B3 d1;have hsz:w.heap.size=u.heap.size:=by rw[p];simp[World.setCell]
 have q:Fr (λm=>m=n) u H:=k2.trans k3;have S3:S H b x:=hG.keep S1 (λm r=>q.block m (hG.lt S1 r) λe=>(z m r).2.2 e) q.size;have C:∀m,c m->m<u.heap.size:=λm r=>by rw[<-hsz];exact hC m r
 have M3:fO H a c t (Fm.ends f A::d) [] g:=D.fr C q (λm e=>by rw[e];exact hg);have CC:=Z (y S3 B3 M3 hr (λm r=>aI (C m r) q.size) z hg C5);rw[<-show a f.d.af=a (Fm.ends f A).d.af from rfl,<-hb]at CC;have HM:=Z M3;have hC3:Hid (∀m,c m->m<H.heap.size):=λm r=>aI (C m r) q.size;have T:=Z z;have HG:=Z hg;have FF:Hid (Fr (λm=>b m\/g m\/m=n) w H):=(L.mono λm _ e=>I (Y (e▸v))).trans (q.mono λm _ e=>I (I e));have hwi:IntKind.i64.wrap ((f.ix:Int)+1)=(f.ix:Int)+1:=by rw[IntWalk.i64_in _ om]
 rw[F,s,p]at d1;rw[s,p]at d6 fz2 t2;rw[p]at d5 UL t1;obtain⟨po,I8⟩:=xK a d;rw[I8]at d1 d5 d6 fz2 t2 s;have me:=Z p;have Cs:=Z s;have Ot:=Z F;clear hS hB hr hC z hg C5 y D h1 h2 v b1 b2 b3 L k2 k3 q S1 S3 M3 P R B3 C hsz p s F hpar hix hb I8;subst hfc;unfold lF;go_enter func73,ntmps73;go_wp2;rw[<-me.o,<-Cs.o,<-Ot.o];refine CC.o.mono ?_;rintro res w4⟨rfl,D',x',Xz,s4,W,d4,f4⟩;have X4:=Z Xz;have S4:=Z s4;have BL4:=Z W;have F4:=Z f4;have D4:=Z d4;clear Xz s4 W d4 f4;go_wp2;go_end0;refine⟨rfl,D',x',X4.o,S4.o,BL4.o,HM.o.fr hC3.o F4.o λm e=>?_,λm r=>?_,FF.o.trans (F4.o.mono λm _ e=>?_)⟩
 .rcases e with e|e;.exact⟨(T.o m e).1,(T.o m e).2.1⟩
  rw[e];exact HG.o
 .rcases D4.o m r with e|e;.exact Y e
  exact I (az FF.o.size e)
 grind
variable{l:Gs}{p:Tok}{A:Sh}
theorem xL(b:eN A p)(e:p.k=0\/p.k=3)(a:Value)(f:Nat):kF (bK l p) a f (.slice none 0 0)=#[.int .i64 (p.of:Nat),.int .i64 (p.af:Nat),.int .i64 0,.int .i64 p.n,.string (bR (fV p.k p.t)),a,.int .i64 (f:Nat),.string (bR l.nm),.slice none 0 0]:=by
 have j:=b.of;have g:gr (bK l p)=p.of:=by grind(splits:=30)[bR,dec,qk,hJ,bK,iv,zT,ji,kF,gr,jX,h_,OS,fV,fP,mM,iS]
 have h:jX (bK l p)=fV p.k p.t:=by
  unfold jX fV;by_cases d:p.of=4
  .have i:p.k=3:=by
    rcases e with x|x;.have:=(b.k0 x).1;omega
    exact x
   simp[bK,zT,OS,d,i]
  have:p.t=[]:=by
   rcases e with x|x;.exact(b.k0 x).2.2.2.1
   exact(b.k3 x).2.2.1 d
  have c:(bK l p).kind≠2:=by grind(splits:=30)[bR,dec,qk,hJ,bK,iv,zT,ji,kF,gr,jX,h_,OS,fV,fP,mM,iS]
  rw[aa c,this];simp
 unfold kF;rw[g,h];rfl
theorem OU(a:eN A p)(b:p.k=0\/p.k=3):I6 (bK l p):=by
 have c:=a.of;have:p.of=0\/p.of=1\/p.of=2\/p.of=3\/p.of=4\/p.of=5\/p.of=6:=om;have d:p.of≠3->p.n=0:=λx=>by
  rcases b with y|y;.exact(a.k0 y).2.2.1
  exact(a.k3 y).2.2.2.1 x
 refine⟨?_,?_,?_,?_⟩;.rcases this with e|e|e|e|e|e|e<;>simp[bK,zT,e]
 iterate 2 rcases this with e|e|e|e|e|e|e<;>simp[bK,zT,OS,e]
 grind(splits:=30)[dec,qk,hJ,bK,iv,zT,ji,h_,OS,fP,mM,iS]
theorem fO.YG(h:fO w a b n [f] [] c)(l:Bool):fO w a b n [{f with kp:=l}] [] c:=by obtain⟨sv,e,d,g,i,j,k⟩:=h;exact⟨sv,e,⟨d.b,d.o,d.d,d.ks,d.nb,d.nc,d.fr⟩,g,i,j,k⟩
theorem fO.top(h:fO w a b n (f::z::d) [] c)(s:f.kp=false)(M:∀k,b k->k<w.heap.size):∃g c2,V w (a z.d.af) (kF z.d (dZ a d) z.ix (.slice g z.ws.length c2)) 130/\w.ownsRow 0 71 1 (.slice g z.ws.length c2) z.ws.length (z.ws.map (jf a))/\(Value.slice g z.ws.length c2).ownBlock≠some (a z.d.af)/\(c (a z.d.af)/\a z.d.af≠a f.d.af)/\(∀k,(Value.slice g z.ws.length c2).ownBlock=some k->c k/\k≠a f.d.af)/\∀(p q:World)(j:Value),Q w p->p.grownBy q (Value.slice g z.ws.length c2).ownBlock->q.ownsRow 0 71 1 j (z.ws.length+1) (z.ws.map (jf a)++[lF (a f.d.af)])->(j.ownBlock=(Value.slice g z.ws.length c2).ownBlock\/j.ownBlock=some p.heap.size)->∃r,fO (q.setCell (aD (a z.d.af) 8) j) a b n ({f with kp:=true}::z::d) [] r/\(∀k,r k->c k\/w.heap.size<=k)/\Fr (λk=>k=a z.d.af\/(Value.slice g z.ws.length c2).ownBlock=some k) w (q.setCell (aD (a z.d.af) 8) j):=by
 obtain⟨sv,D,J,K,v,L,S,r,i,u,F,G,H⟩:=h;rw[s]at i;simp only[Bool.false_eq_true,if_false]at i;obtain⟨g,c2,m⟩:=X i.o;simp only[List.length_nil,Nat.add_zero]at m;subst m;have B:=i.o;simp only[List.length_nil,Nat.add_zero,List.append_nil]at B;have l:D (a z.d.af):=(u _).2 (Y rfl);refine⟨g,c2,i.b,B,i.nb,⟨(K _).2 (I (I l)),λe=>v (e▸l)⟩,λk A=>?_,λp q j C N t o=>?_⟩;.grind
 obtain⟨P,R⟩:=fO.kept J v L i u F G H M C N t o;refine⟨_,P,λk A=>?_,R⟩;rcases A with x|x|x|x|x;.grind
 .grind
 .grind
 .rcases o with y|y;.grind
  have T:p.heap.size=k:=cI (y.symm.trans x);have:=C.size;exact I om
 grind
def BgP{a:Type}(g:Nat)(T:TypeId)(n:a->Value->Value->Value->Array Value)(S:World->(Nat->Prop)->a->Prop)(A:Nat->Nat)(C:Nat->Prop)(f:Fm)(r:List Fm)(M D:Nat->Prop)(m:a->List Fm->Fm->Nat->a->Prop)(x:a)(i:Value)(w:World)(j:Ending)(c:World):Prop:=∃b d h e l,j=.returned (lF b)/\w.heap.size<=b/\d f.d.af=b/\(∀k,k<f.d.af->d k=A k)/\m x r {f with kp:=false} b l/\S c e l/\V c g (n l (dZ A r) (.string (bR [])) i) T/\fO c d C (f.d.af+1) (f::r) [] h/\(∀k,h k->M k\/w.heap.size<=k)/\(∀k,e k->D k\/w.heap.size<=k)/\(∀k,e k->¬h k)/\Fr (λk=>D k\/M k\/k=g) w c
theorem UM{h:Type}{L:h->Value->Value->Value->Array Value}{S:World->(Nat->Prop)->h->Prop}{M1:Nat->Prop}{G:h->List Fm->Fm->Nat->h->Prop}{x:h}(q:∀{w C:World}{D:Nat->Prop}{x:h},S w D x->Sm D w C->w.heap.size<=C.heap.size->S C D x)(A:w.heap.size<=k)(N:m f.d.af=k)(P:∀l,l<f.d.af->m l=a l){s:h}(t:G x d {f with kp:=false} k s)(s3:S v F s)(R:V v n (L s (dZ a d) (.string (bR [])) j) i)(p:Fr (λl=>D l\/c l\/l=n) w v)(T:∀l,F l->D l\/w.heap.size<=l)(J:∀l,F l->l<v.heap.size)(K:∀l,F l->¬M1 l)(W:fO u m b (f.d.af+1) (f::d) [] g)(M:∀l,g l->M1 l\/v.heap.size<=l)(U:∀l,M1 l->c l\/w.heap.size<=l)(r:Fr H v u)(B:∀l,H l->c l/\M1 l)(z:¬M1 n):BgP n i L S a b f d c D G x j w (.returned (lF k)) u:=⟨k,m,g,F,s,rfl,A,N,P,t,q s3 (λl o=>r.block l (J l o) λe=>K l o (B l e).2) r.size,R.fr r λe=>z (B n e).2,W,λl o=>(M l o).elim (U l) λy=>I (az p.size y),T,λl o e=>(M l e).elim (K l o) λy=>by have:=J l o;omega,p.trans (r.mono λl _ e=>I (Y (B l e).1))⟩
structure GI{X:Type}(g:Nat)(T:TypeId)(gc:X->Value->Value->Value->Array Value)(S:World->(Nat->Prop)->X->Prop)(w:World)(gs:Gs)(x:X)(A:Nat->Nat)(C M D:Nat->Prop):Prop where
 s:S w D x
 b:V w g (gc x (dZ A gs.st) (.string (bR gs.nm)) (.int .i64 (gs.ix:Nat))) T
 m:fO w A C gs.bd gs.st [] M
 ok:UN gs
 p:mN gs.st
 c:∀k,C k->k<w.heap.size
 dj:∀k,D k->¬M k/\¬C k/\k≠g
 g:¬M g/\¬C g
 l:gs.st=[]->∀t,gs.last=some t->(∃ix,ix<=4000000/\PT w A C 10 (.pointer none) ix t)/\FB gs.bd 10 t/\t.d.path=[36]
theorem GI.keeps{d:Type}{r:d->Value->Value->Value->Array Value}{S:World->(Nat->Prop)->d->Prop}{B:d->Bool}{A C:d->List Fm->Fm->Nat->d->Prop}{p:d->List Fm->Fm->Nat->Prop}{q:d->List Fm->Fm->(Nat->Nat)->Prop}(u:I7 n i r j o S B A C p q){x:d}(h:GI n i r S w l x a b c g)(f:Q w v):GI n i r S v l x a b c g:=⟨u.keep h.s (λk m=>f.block k (u.lt h.s m) id) f.size,h.b.fr f id,h.m.fr h.c f λ_ e=>e.elim,h.ok,h.p,λk m=>aI (h.c k m) f.size,h.dj,h.g,λs t z=>⟨(h.l s t z).1.imp λ_ y=>⟨y.1,y.2.keep λk m=>f.block k (h.c k m) id⟩,(h.l s t z).2⟩⟩
def gX{a:Type}(h:a->Bool)(d e:a->List Fm->Fm->Nat->a->Prop)(x:a)(b:Gs)(t:Tok)(A:Nat->Nat)(n:Nat)(c:a):Prop:=if t.k=0 then d x b.st (aB b t false) (A t.af) c else if t.k=1 then(match b.st with|[]=>c=x|f::r=>e x r (Fm.ends f t.to) (A f.d.af) c)else if t.k=2 then c=x else∃g,n<=A t.af/\d x b.st (aB b t false) (A t.af) g/\e g b.st (Fm.ends (aB b t (h x)) t.to) (A t.af) c
def OV{a:Type}(g:Nat)(T:TypeId)(o:a->Value->Value->Value->Array Value)(S:World->(Nat->Prop)->a->Prop)(i:a->Bool)(m n:a->List Fm->Fm->Nat->a->Prop)(x:a)(c:Gs)(t:Tok)(A:Nat->Nat)(C M D:Nat->Prop)(w:World)(d:Ending)(j:World):Prop:=d=.returned (.tuple #[])/\∃b e h f l,gX i m n x c t b w.heap.size l/\GI g T o S j (aA c t (i x)) l b e h f/\(∀k,k<c.bd->b k=A k)/\(∀k,f k\/h k\/e k->D k\/M k\/C k\/w.heap.size<=k)/\Fr (λk=>D k\/M k\/k=g) w j
theorem OY(A:Nat->Nat)(r:List Fm)(a:Bool)(t:Tv):dZ A (ku r a t)=dZ A r:=by cases r with|nil=>rfl|cons p q=>show lF (A (dS p a t).d.af)=lF (A p.d.af);unfold dS;split<;>rfl
theorem I9(h:mN d)(a:Bool)(t:Tv):mN (ku d a t):=by
 cases d with|nil=>trivial|cons p q=>
  show mN (dS p a t::q);unfold dS;split;.exact h
  exact h
theorem gi_close{h:Type}{D:h->Value->Value->Value->Array Value}{S:World->(Nat->Prop)->h->Prop}{gs:Gs}{C:h}{f:Fm}{nm:List UInt8}(T:S w g C)(M:V w n (D C (dZ a d) (.string (bR nm)) (.int .i64 ((f.ix:Int)+1))) i)(G:fO w a b k (Fm.ends f t::d) [] c)(P:d.length<=8)(x:f.ix<=4000000)(B:f.ws.length<=4000000)(y:f.kp=true->∀p q,d=p::q->f.ix=p.ws.length)(H:f.d.path=iv d f.ix f.d.name)(A:mN d)(N:∀j,b j->j<w.heap.size)(o:∀j,g j->¬c j/\¬b j/\j≠n)(v:¬c n/\¬b n)(m:gs=⟨ku d f.kp (f.tv t),nm,f.ix+1,k,some (f.tv t)⟩)(z:UN gs):∃r s,GI n i D S w gs C a r s g/\(∀j,r j->b j\/c j)/\(∀j,s j->c j):=by
 obtain⟨r,s,c1,c2,c3,c4,c5,K⟩:=G.close P B y H;refine⟨r,s,⟨T,?_,?_,z,?_,λj u=>?_,λj u=>⟨λe=>(o j u).1 (c3 j e),λe=>?_,(o j u).2.2⟩,⟨λe=>v.1 (c3 n e),λe=>(c1 n e).elim v.2 v.1⟩,λF l J=>?_⟩,c1,c3⟩;.rw[m,OY];exact M
 .rw[m];exact c4
 .rw[m];exact I9 A _ _
 .rcases c1 j u with e|e;.exact N j e
  exact(G.lt j e).1
 .grind
 have R:d=[]:=by cases d with|nil=>rfl|cons p q=>rw[m]at F;simp[ku]at F
 have L:f.tv t=l:=by rw[m]at J;exact cI J
 rw[<-L,m];subst R;exact⟨⟨_,x,c5⟩,K,H⟩
def cO(t:Tok):Array Value:=#[.int .i64 (t.k:Nat),.int .i64 (t.of:Nat),.int .i64 (t.af:Nat),.int .i64 (t.to:Nat),.int .i64 t.n,.string (bR (fV t.k t.t))]
theorem OZ{d:Type}{A:d->Value->Value->Value->Array Value}{S:World->(Nat->Prop)->d->Prop}{z:d->Bool}{C D:d->List Fm->Fm->Nat->d->Prop}{K:d->List Fm->Fm->Nat->Prop}{L:d->List Fm->Fm->(Nat->Nat)->Prop}(M:vx i k j o A)(F:I7 n i A j o S z C D K L){x:d}(h:GI n i A S w l x a b c g)(q:p.k=2):Calls prog 53 #[.pointer (some (aD n k)),bS p] w (OV n i A S z C D x l p a b c g w):=by
 obtain⟨s,r⟩:∃s,s=w.alloc (.cells (cO p) 108):=⟨_,rfl⟩;have t:V s w.heap.size (cO p) 108:=by rw[r];exact V.new w _ _
 have J:Q w s:=by rw[r];exact(Fr.refl _ w).alloc _
 have m:=h.keeps F J;have N:=m.b.fz;have P:=M.c3 m.b;have B:s.cell? (aD w.heap.size 0)=some (.int .i64 (p.k:Nat)):=t.cell 0;have v:s.cell? (aD w.heap.size 5)=some (.string (bR (fV p.k p.t))):=t.cell 5;have u:fV p.k p.t=p.t:=by unfold fV;rw[aa om]
 rw[u]at v;have n0:((p.k:Int)==0)=false:=by rw[q];decide
 have n1:((p.k:Int)==1)=false:=by rw[q];decide
 have n2:((p.k:Int)==2)=true:=by rw[q];decide
 have G:Hid (OV n i A S z C D x l p a b c g w (.returned (.tuple #[])) (s.setCell (aD n (k+3)) (.string (bR p.t)))):=by
  have f0:Fr (λf=>f=n) s (s.setCell (aD n (k+3)) (.string (bR p.t))):=(Fr.refl (λf=>f=n) s).setCell (aD n (k+3)) (Y rfl) _;have U:aA l p (z x)={l with nm:=p.t}:=by unfold aA;rw[aa om,aa om,ae q]
  have W:gX z C D x l p a w.heap.size x:=by unfold gX;rw[aa om,aa om,ae q]
  refine⟨rfl,a,b,c,g,x,W,?_,λ_ _=>rfl,λf q=>?_,(J.mono λ_ _ e=>e.elim).trans (f0.mono λf _ e=>I (I e))⟩;.rw[U];exact⟨F.keep m.s (λf q=>f0.block f (F.lt m.s q) λe=>(m.dj f q).2.2 e) f0.size,M.s3 _ m.b,m.m.fr m.c f0 λf e=>by rw[e];exact m.g,⟨m.ok.len,m.ok.ix,m.ok.bd,m.ok.ws⟩,m.p,λf q=>aI (m.c f q) f0.size,m.dj,m.g,λe p R=>⟨(m.l e p R).1.imp λ_ y=>⟨y.1,y.2.keep λf q=>f0.block f (m.c f q) λe=>m.g.2 (e▸q)⟩,(m.l e p R).2⟩⟩
  grind
 have H:Hid (s=w.alloc (.cells #[.int .i64 (p.k:Nat),.int .i64 (p.of:Nat),.int .i64 (p.af:Nat),.int .i64 (p.to:Nat),.int .i64 p.n,.string (bR (fV p.k p.t))] 108)):=r;rw[r]at N P B v;unfold cO at N P B v;have T:=Z u;clear r t J m h q M F u;unfold bS;go_enter func53,ntmps53;go_wp2;go_end0;rw[<-H.o];exact G.o
theorem O7{d:Type}{K:d->Value->Value->Value->Array Value}{S:World->(Nat->Prop)->d->Prop}{D:d->Bool}{bg J:d->List Fm->Fm->Nat->d->Prop}{qG:d->List Fm->Fm->Nat->Prop}{M:d->List Fm->Fm->(Nat->Nat)->Prop}(hL:vx i k j o K)(hG:I7 n i K j o S D bg J qG M){x:d}(h:GI n i K S w l x a b c g)(u:p.k=1)(ht:eN l.sh p)(U:jR l (D x))(N:∀f r,l.st=f::r->M x r (Fm.ends f p.to) a):Calls prog 53 #[.pointer (some (aD n k)),bS p] w (OV n i K S D bg J x l p a b c g w):=by
 obtain⟨f,r,q⟩:∃f r,l.st=f::r:=by have:=ht.k1 u;cases hs:l.st with|nil=>simp[Gs.sh,hs]at this|cons f r=>exact⟨f,r,rfl⟩
 obtain⟨z,B⟩:∃z,z=w.alloc (.cells (cO p) 108):=⟨_,rfl⟩;have F:V z w.heap.size (cO p) 108:=by rw[B];exact V.new w _ _
 have K0:Q w z.drew:=by rw[B];exact((Fr.refl _ w).alloc _).drew
 have t:=h.keeps hG K0;have tc0:z.cell? (aD w.heap.size 0)=some (.int .i64 (p.k:Nat)):=F.cell 0;have tc3:z.cell? (aD w.heap.size 3)=some (.int .i64 (p.to:Nat)):=F.cell 3;have g2:z.cell? (aD n (k+2))=some (pT (a f.d.af)):=by have:=hL.c2 (w:=z.drew) t.b;rw[q]at this;exact this
 have s:=h.ok.ws;rw[q]at s;have C:=rq h.ok ht U;have G:r.length<=8:=by have:=h.ok.len;rw[q]at this;simp at this;omega
 have T:=h.ok.ix;have P:=h.ok.bd;have H:=t.m;rw[q]at H;have A:=t.p;rw[q]at A;have eg:aA l p (D x)=aE l f r p.to:=by unfold aA;rw[aa om,ae u,q]
 have ex:∀a W,gX D bg J x l p a w.heap.size W=J x r (Fm.ends f p.to) (a f.d.af) W:=λa W=>by unfold gX;rw[aa om,ae u,q]
 have CL:=Z (C2 hL hG t.s t.b H G t.c t.dj t.g (by have:=s.2.1;have:=s.2.2.1;omega) p.to (N f r q));have L:Hid (∀v w',ClP n i K S a b l.bd (Fm.ends f p.to) r c g (J x r (Fm.ends f p.to) (a f.d.af)) (.string (bR l.nm)) z.drew v w'->OV n i K S D bg J x l p a b c g w v w'):=λv w' hr=>by
  obtain⟨q1,D',W,qx,q2,q3,q4,q5,q6⟩:=hr;have YH:∀m,b m->m<w'.heap.size:=λm u=>aI (t.c m u) q6.size;have R:∀m,D' m->¬c m/\¬b m/\m≠n:=λm u=>by
   rcases q5 m u with e|e;.exact t.dj m e
   refine⟨λy=>?_,λy=>?_,λy=>?_⟩;.have:=(t.m.lt m y).1;omega
   .have:=t.c m y;omega
   have:=t.b.lt;omega
  obtain⟨C',M',c1,c2,c3⟩:=gi_close (gs:=aA l p (D x)) (f:=f) q2 q3 q4 G (by have:=s.2.1;have:=s.2.2.1;omega) (by have:=s.1;omega) s.2.2.2.2.1 A.1 A.2 YH R t.g (by rw[eg];rfl) C;refine⟨q1,a,C',M',D',W,by rw[ex];exact qx,c1,λ_ _=>rfl,λm u=>?_,(K0.mono λ_ _ e=>e.elim).trans q6⟩;rcases u with e|e|e
  .rcases q5 m e with y|y;.exact Y y
   exact I (I (I (az K0.size y)))
  .exact I (Y (c3 m e))
  grind
 have n0:((p.k:Int)==0)=false:=by rw[u];decide
 have n1:((p.k:Int)==1)=true:=by rw[u];decide
 have UO:Hid (z=w.alloc (.cells #[.int .i64 (p.k:Nat),.int .i64 (p.of:Nat),.int .i64 (p.af:Nat),.int .i64 (p.to:Nat),.int .i64 p.n,.string (bR (fV p.k p.t))] 108)):=B;clear B F K0 t h u hL hG s C G H A eg ex ht U N q T P;unfold bS;unfold lF at CL;go_enter func53,ntmps53;go_wp2;rw[<-UO.o];go_region_with(go_at_call 73;refine CL.o.mono ?_;intro v w1 hr;have FR:=Z (L.o v w1 hr);obtain⟨rfl,_⟩:=hr);all_goals go_wp2;go_end0;exact FR.o
end Go.Proofs.YtcbadebjpogmlaaGreatDoor
namespace Go.Proofs.YtcbadebjpogmlaaGreatDoor
open Go.RowKit Tr Go.Proofs.Tryz Go.Shelf
theorem O_(s:ByteArray)(w:World)(a:s.size<=281474976710656):Calls prog 84 #[.string s] w λe b=>e=.returned (.string s)/\Below w.heap.size w b:=Any.stringslite_Clone Tryz.I_ s w a
theorem UP(s:ByteArray)(n:Int)(a:s.size<=18)(h:Lib.atoi s.data.toList=some n)(w:World):Calls prog 255 #[.string s] w λe b=>e=.returned (.tuple #[.int .i64 n,.nilIface])/\∃t,b=Lib.bytesWorld w 5 t:=Any.strconv_Atoi Tryz.O' s n a h w
theorem An(s:ByteArray)(f:s.size<=18)(h:Lib.atoi s.data.toList=none)(a:Value)(w:World)(g:w.cell? (aD 6 0)=some a)(b:a=.nilIface\/∃j i,a=.iface j i):Calls prog 255 #[.string s] w λe k=>∃N,e=.returned (.tuple #[.int .i64 0,.iface 314 (pT N)])/\Below w.heap.size w k:=(Any.strconv_Atoi_err Tryz.I' s f h a w g b).mono λ_ _⟨N,c,_,_,d⟩=>⟨N,c,d⟩
variable{q:ByteArray}{n k a:Nat}
theorem dU.eq{b:Nat->Bool}(h:dU b q n k)(a:b 256=false):bV b (E q) n=k:=by
 refine run_eq h.ge h.all ?_ (oM b (E q) n a);rcases Nat.lt_or_ge k q.size with c|c;.exact h.stop c
 grind[ak,jC]
theorem nL:∀(l:List UInt8)(a n d:Nat)(b:UInt8),Lib.decFrom a l=some n->Lib.digitVal b=some d->Lib.decFrom a (l++[b])=some (n*10+d)|[],a,n,d,b,h,f=>by cases h;simp[Lib.decFrom,f]|c::l,a,n,d,b,h,f=>by unfold Lib.decFrom at h;show(match Lib.digitVal c with|some d=>Lib.decFrom (a*10+d) (l++[b])|none=>none)=_;cases g:Lib.digitVal c with|none=>rw[g]at h;cases h|some e=>rw[g]at h;exact nL l _ n d b h f
theorem C6(h:O n=true):n<256/\Lib.digitVal (UInt8.ofNat n)=some (n-48):=by
 simp[O]at h;refine⟨om,?_⟩;have e:(UInt8.ofNat n).toNat=n:=by simp;omega
 unfold Lib.digitVal;rw[e,ae om]
theorem C7{s:List UInt8}{a:Nat}:∀j,(∀i,a<=i->i<a+j->O (bt s i)=true)->Lib.decFrom 0 (sub s a (a+j))=some (i_ s a j)|0,_=>by simp[sub,Lib.decFrom,i_]|j+1,h=>by have b:=C6 (h (a+j) om om);rw[show a+(j+1)=a+j+1 by omega,iT om b.1,nL _ _ _ _ _ (C7 j λi c d=>h i c om) b.2];grind[bt,i_]
theorem Ao{s:List UInt8}{a:Nat}:∀j,(∀i,a<=i->i<a+j->O (bt s i)=true)->i_ s a j<10^j|0,_=>by simp[i_]|j+1,h=>by have:=Ao j λi b c=>h i b om;grind[bt,i_,O]
theorem C9{s:List UInt8}(a:bt s n≠48)(b:O (bt s n)=true):∀j,0<j->0<i_ s n j|0,h=>absurd h (tY _)|1,_=>by grind(splits:=30)[bt,i_,O]|j+2,_=>by have:=C9 a b (j+1) om;grind[i_]
theorem dU.val(h:dU O q n k)(c:k<=n+3):b_ (E q) n k<1000:=by have:=Ao (s:=E q) (a:=n) (k-n) λi a b=>h.all i a (by have:=h.ge;omega);have e:(10:Nat)^(k-n)<=10^3:=Nat.pow_le_pow_right om om;unfold b_;omega
theorem dU.pos(h:dU O q n k)(b:n<k)(a:bt (E q) n≠48):0<b_ (E q) n k:=C9 a (h.all n lr b) _ om
theorem Ja(h:dU O q n k):Lib.atoi (q.extract n k).data.toList=if k=n then none else some ((b_ (E q) n k:Nat):Int):=by
 have e:(q.extract n k).data.toList=sub (E q) n k:=dD q n k;rw[e];by_cases c:k=n;.rw[ae c,c,sub_self];rfl
 rw[aa c];have a:n<k:=by have:=h.ge;omega
 have d:=C6 (h.all n lr a);have g:=h.all n lr a;have f:sub (E q) n k=UInt8.ofNat (bt (E q) n)::sub (E q) (n+1) k:=xM (b:=UInt8.ofNat (bt (E q) n)) (by simp;omega) a;have b:=C7 (s:=E q) (a:=n) (k-n) λi d m=>h.all i d om;rw[show n+(k-n)=k by omega]at b;simp[O]at g;rw[f]at b⊢;have j:(UInt8.ofNat (bt (E q) n)==45)=false:=by rw[iw];intro x;have:=gV UInt8.toNat x;simp at this;omega
 have l:(UInt8.ofNat (bt (E q) n)==43)=false:=by rw[iw];intro x;have:=gV UInt8.toNat x;simp at this;omega
 simp only[Lib.atoi,j,l,Bool.false_eq_true,if_false,Lib.decNat,List.isEmpty_cons];rw[b];rfl
structure Er(g:Nat)(w0:World):Prop where
 v:∃ev,w0.cell? (aD 6 0)=some ev/\(ev=.nilIface\/∃te pe,ev=.iface te pe)ne:6≠g
 lt:6<w0.heap.size
variable{b c:Value}{w v u:World}
theorem Qt.below(h:Qt n q b c k w a v)(d:Below v.heap.size v u):Qt n q b c k w a u:=⟨h.b.fr (Fr.aN (K:=λ_=>False) d) id,h.f.trans (Fr.aN d),h.le⟩
theorem jY(h:Qt n q b c a w k v)(M:q.size<=1000)(G:Er n w)(p:∀d,dU O q k d->d<=k+18)(i:Int):Calls prog 242 #[pT n,.int .i64 i] v λr P=>∃d m,(dU O q k d/\m=if d=k then i else((b_ (E q) k d:Nat):Int))/\r=.returned (.int .i64 m)/\Qt n q b c a w d P:=by
 have H:=Z h;have A:=Z G;have x:=Z p;clear h G p;go_enter func242,ntmps242;go_wp2_with fail;refine(C_ (I (Y ⟨rfl,rfl⟩)) H.o M).mono ?_;rintro r L⟨d,J,rfl,C⟩;have o:=Z C;have HK:=Z J;clear C J H;obtain⟨D,K,s⟩:=A.o.v;have u:L.cell? (aD 6 0)=some D:=(o.o.f.cell (p:=aD 6 0) A.o.lt A.o.ne).trans K;have B:=Z u;have l:=Z s;clear K u s;have g:(q.extract k d).size<=18:=by have C:=x.o d HK.o;have S:=HK.o.le;simp[ByteArray.size_extract];omega
 have e:=Ja HK.o;by_cases f:d=k;.rw[ae f]at e;have z:=Z f;have j:=Z e;clear f e;go_wp2_with fail;refine(An _ g j.o D _ B.o l.o).mono ?_;rintro r R⟨N,rfl,F⟩;have y:=Z (o.o.below F);clear F o B l;go_wp2;go_ret;exact⟨d,i,⟨HK.o,by rw[ae z.o]⟩,rfl,y.o⟩
 rw[aa f]at e;have z:=Z f;have j:=Z e;clear f e;go_wp2_with fail;refine(UP _ _ g j.o _).mono ?_;rintro r R⟨rfl,t,rfl⟩;have y:=Z (o.o.below (Lib.bytesWorld_below L 5 t));clear o B l;go_wp2;go_ret;exact⟨d,_,⟨HK.o,by rw[aa z.o]⟩,rfl,y.o⟩
end Go.Proofs.YtcbadebjpogmlaaGreatDoor
namespace Go.Proofs.YtcbadebjpogmlaaGreatDoor
open Go.RowKit Tr Go.Proofs.Tryz
theorem xN(s:List UInt8):∀(l:List UInt8)(a:Nat),l.isPrefixOf (s.drop a)=pfx s (l.map UInt8.toNat) a
 |[],a=>by simp[pfx]|c::l,a=>by
  simp only[List.map_cons,pfx];rw[<-xN s l (a+1)];unfold bt;cases h:s[a]? with
  |none=>
   have:s.drop a=[]:=by simpa using h
   rw[this];have:=c.toNat_lt;simp;omega|some d=>
   have b:s.drop a=d::s.drop (a+1):=by obtain⟨g,f⟩:=List.getElem?_eq_some_iff.1 h;rw[List.drop_eq_getElem_cons g,f]
   rw[b];simp only[List.isPrefixOf];congr 1;by_cases e:c=d;.subst e;simp
   have:d.toNat≠c.toNat:=λx=>e (UInt8.toNat_inj.1 x).symm;grind
theorem k_(q:ByteArray)(a:Nat)(b:ByteArray):tk q a b=pfx (E q) (nb b) a:=xN (E q) (E b) a
theorem tZ(q:ByteArray){t:St}(a:t.e=0)(c:UInt8):tk q t.p ⟨#[c]⟩=ar (E q) t c.toNat:=by rw[k_];show(bt (E q) t.p==c.toNat&&true)=_;simp[ar,a]
variable{q:ByteArray}{n k a i j:Nat}
theorem oN{a:Nat->Bool}{K:Nat}(h:dU a q n k)(b:a 256=false)(d:a (bt (E q) (run a (E q) K n))=false):run a (E q) K n=k:=by
 refine run_eq h.ge h.all ?_ d;rcases Nat.lt_or_ge k q.size with c|c;.exact h.stop c
 grind[ak,jC]
variable{d:List UInt8}
theorem k'(p:bF (E q)){t:St}{m:Bool}(s:t.e=0)(h:Live (E q) n k a d i (bu (E q) t m))(l:a=7\/a=9\/a=14\/a=18)(r:dU O q t.p j):bu (E q) t m={t with p:=j}/\j<=t.p+3:=by
 have b:=kG p h l;have c:=h.e0;unfold bu at b c⊢;split at b;.grind[wrong]
 rename_i g;rw[aa g]at c;rw[aa g];have o:O (bt (E q) t.p)=true:=by grind[digit]
 split at b
 .rename_i e;rw[ae e];have f:run O (E q) 1 t.p=t.p+1:=by simp[run,o]
  have:=oN (K:=1) r de (by rw[f];exact b);rw[f]at this;subst this;exact⟨rfl,om⟩
 grind[iD,oN,E,O,run,eF]
theorem Da{t:St}(c:t.e=0)(b:(bH (E q) t).e=0)(a:isLet (bt (E q) (bH (E q) t).p)=false)(d:dU isLet q t.p n):bH (E q) t={t with p:=n}:=by
 unfold bH at b a⊢;rw[ae c]at b a⊢;split at a;.grind
 rename_i e;rw[aa e];rw[oN (K:=8) d de a]
theorem xO{t:St}(g:(aK (E q) (eF aR (E q) 8 t) 39).e=0)(i:dU aR q t.p n):aK (E q) (eF aR (E q) 8 t) 39={t with p:=n+1}/\tk q n ⟨#[39]⟩=true:=by
 obtain⟨a,h⟩:=jZ g;have f:t.e=0:=by have:=(aF a).1;grind[eF]
 have b:(eF aR (E q) 8 t)={t with p:=run aR (E q) 8 t.p}:=by unfold eF;rw[ae f]
 have e:=(aF a).2;rw[b]at e;have j:aR (bt (E q) (run aR (E q) 8 t.p))=false:=by have c:bt (E q) (run aR (E q) 8 t.p)=39:=e;rw[c];decide
 have d:=oN (K:=8) i de j;rw[h,b];rw[b,d]at a;rw[d];refine⟨rfl,?_⟩;have:=tZ q (t:={t with p:=n}) f 39;exact this.trans a
variable{w v:World}{b c:Value}
theorem cW(h:Qt n q b c a w k v)(f:q.size<=1000)(d:ByteArray)(g:tk q k d=false):Calls prog 85 #[pT n,.string d] v λr e=>r=.returned (.bool false)/\Qt n q b c a w k e:=by grind[mq]
theorem dL(h:Qt n q b c a w k v)(i:q.size<=1000)(e:ByteArray)(j:tk q k e=true)(d:Nat)(g:d=k+e.size):Calls prog 85 #[pT n,.string e] v λr f=>r=.returned (.bool true)/\Qt n q b c a w d f:=by grind[mq]
theorem Qt.alloc{d w:World}(h:Qt n q b c k d a w)(o:Obj):Qt n q b c k d a (w.alloc o):=⟨h.b.alloc o,h.f.alloc o,h.le⟩
def UQ(g:Nat)(q:ByteArray)(p v:Value)(n:Nat)(d:World)(a:Nat)(e:Array Value)(r:Ending)(c:World):Prop:=(∃b,r=.returned (pT b)/\d.heap.size<=b/\V c b e 130)/\Qt g q p v n d a c
def Jb(k:Int)(m:Int)(s:ByteArray):Array Value:=#[.int .i64 k,.int .i64 0,.int .i64 0,.int .i64 m,.string s,.pointer none,.int .i64 0,.string ⟨#[]⟩,.slice none 0 0]
theorem dU.YI(h:dU O q n k)(c:k<=n+18):b_ (E q) n k<1000000000000000000:=by have:=Ao (s:=E q) (a:=n) (k-n) λi a b=>h.all i a (by have:=h.ge;omega);have e:(10:Nat)^(k-n)<=10^18:=Nat.pow_le_pow_right om om;unfold b_;omega
theorem ld(s:List UInt8)(a k:Nat):(if k=a then(0:Int)else((b_ s a k:Nat):Int))=((b_ s a k:Nat):Int):=by
 split;.rename_i h;rw[h];simp[b_,i_]
 rfl
theorem Pa(h:Qt n q b c a w k v)(e:q.size<=1000)(d:tk q k ⟨#[116,114,117,101]⟩=true):Calls prog 283 #[pT n] v (UQ n q b c a w (k+4) (Jb 2 0 ⟨#[]⟩)):=by have H:=Z h;clear h;go_enter func283,ntmps283;go_wp2_with fail;refine mh (dL H.o e _ d (k+4) rfl) λf H=>?_;go_wp2;go_ret;exact⟨⟨_,rfl,H.o.f.size,V.new _ _ _⟩,H.o.alloc _⟩
theorem Jc(h:Qt n q b c a w k v)(d:q.size<=1000)(e:tk q k ⟨#[116,114,117,101]⟩=false)(f:tk q k ⟨#[102,97,108,115,101]⟩=true):Calls prog 283 #[pT n] v (UQ n q b c a w (k+5) (Jb 1 0 ⟨#[]⟩)):=by have H:=Z h;clear h;go_enter func283,ntmps283;go_wp2_with fail;refine mh (cW H.o d _ e) λg H=>?_;go_wp2_with fail;refine mh (dL H.o d _ f (k+5) rfl) λg H=>?_;go_wp2;go_ret;exact⟨⟨_,rfl,H.o.f.size,V.new _ _ _⟩,H.o.alloc _⟩
theorem Pb(h:Qt n q b c a w k v)(d:q.size<=1000)(f:tk q k ⟨#[116,114,117,101]⟩=false)(g:tk q k ⟨#[102,97,108,115,101]⟩=false)(i:tk q k ⟨#[110,117,108,108]⟩=true):Calls prog 283 #[pT n] v (UQ n q b c a w (k+4) (Jb 0 0 ⟨#[]⟩)):=by have H:=Z h;clear h;go_enter func283,ntmps283;go_wp2_with fail;refine mh (cW H.o d _ f) λe H=>?_;go_wp2_with fail;refine mh (cW H.o d _ g) λe H=>?_;go_wp2_with fail;refine mh (dL H.o d _ i (k+4) rfl) λe H=>?_;go_wp2;go_ret;exact⟨⟨_,rfl,H.o.f.size,V.new _ _ _⟩,H.o.alloc _⟩
theorem Jd(h:Qt n q b c a w k v)(e:q.size<=1000)(j:tk q k ⟨#[116,114,117,101]⟩=false)(l:tk q k ⟨#[102,97,108,115,101]⟩=false)(m:tk q k ⟨#[110,117,108,108]⟩=false)(o:tk q k ⟨#[39]⟩=true):Calls prog 283 #[pT n] v λr p=>∃d,dU aR q (k+1) d/\UQ n q b c a w (if tk q d ⟨#[39]⟩then d+1 else d) (Jb 4 0 (q.extract (k+1) d)) r p:=by have H:=Z h;clear h;go_enter func283,ntmps283;go_wp2_with fail;refine mh (cW H.o e _ j) λf H=>?_;go_wp2_with fail;refine mh (cW H.o e _ l) λf H=>?_;go_wp2_with fail;refine mh (cW H.o e _ m) λf H=>?_;go_wp2_with fail;refine mh (dL H.o e _ o (k+1) rfl) λf H=>?_;go_wp2_with fail;refine(xP H.o e).mono ?_;rintro r f⟨d,i,rfl,g⟩;have HK:=Z i;clear H i;have H:=Z g;clear g;go_wp2;go_ret;exact⟨d,HK.o,⟨_,rfl,H.o.f.size,V.new _ _ _⟩,H.o.alloc _⟩
theorem Je(h:Qt n q b c a w k v)(f:q.size<=1000)(y:tk q k ⟨#[116,114,117,101]⟩=false)(z:tk q k ⟨#[102,97,108,115,101]⟩=false)(A:tk q k ⟨#[110,117,108,108]⟩=false)(B:tk q k ⟨#[39]⟩=false)(C:tk q k ⟨#[45]⟩=true)(t:Er n w)(i:∀d,dU O q (k+1) d->d<=k+1+18):Calls prog 283 #[pT n] v λr F=>∃d,dU O q (k+1) d/\UQ n q b c a w d (Jb 3 (-((b_ (E q) (k+1) d:Nat):Int)) ⟨#[]⟩) r F:=by have H:=Z h;have x:=Z t;have g:=Z i;clear t i;clear h;go_enter func283,ntmps283;go_wp2_with fail;refine mh (cW H.o f _ y) λl H=>?_;go_wp2_with fail;refine mh (cW H.o f _ z) λl H=>?_;go_wp2_with fail;refine mh (cW H.o f _ A) λl H=>?_;go_wp2_with fail;refine mh (cW H.o f _ B) λl H=>?_;go_wp2_with fail;refine mh (dL H.o f _ C (k+1) rfl) λl H=>?_;go_wp2_with fail;refine(jY H.o f x.o g.o _).mono ?_;rintro r l⟨d,m,⟨o,u⟩,rfl,s⟩;rw[ld]at u;subst u;have j:=o.YI (g.o d o);have HK:=Z o;clear H o;obtain⟨m,e⟩:∃m,m=b_ (E q) (k+1) d:=⟨_,rfl⟩;rw[<-e]at j⊢;have p:=Z e;clear e;have D:IntKind.i64.wrap (-(m:Int))=-(m:Int):=IntWalk.i64_in _ om;have H:=Z s;clear s;go_wp2;go_ret;exact⟨d,HK.o,⟨_,rfl,H.o.f.size,by rw[<-p.o];exact V.new _ _ _⟩,H.o.alloc _⟩
theorem Jf(h:Qt n q b c a w k v)(e:q.size<=1000)(t:tk q k ⟨#[116,114,117,101]⟩=false)(u:tk q k ⟨#[102,97,108,115,101]⟩=false)(x:tk q k ⟨#[110,117,108,108]⟩=false)(y:tk q k ⟨#[39]⟩=false)(z:tk q k ⟨#[45]⟩=false)(l:Er n w)(f:∀d,dU O q k d->d<=k+18):Calls prog 283 #[pT n] v λr A=>∃d,dU O q k d/\UQ n q b c a w d (Jb 3 ((b_ (E q) k d:Nat):Int) ⟨#[]⟩) r A:=by have H:=Z h;have s:=Z l;have i:=Z f;clear l f;clear h;go_enter func283,ntmps283;go_wp2_with fail;refine mh (cW H.o e _ t) λg H=>?_;go_wp2_with fail;refine mh (cW H.o e _ u) λg H=>?_;go_wp2_with fail;refine mh (cW H.o e _ x) λg H=>?_;go_wp2_with fail;refine mh (cW H.o e _ y) λg H=>?_;go_wp2_with fail;refine mh (cW H.o e _ z) λg H=>?_;go_wp2_with fail;refine(jY H.o e s.o i.o _).mono ?_;rintro r g⟨d,m,⟨o,p⟩,rfl,j⟩;rw[ld]at p;subst p;have HK:=Z o;clear H o;have H:=Z j;clear j;go_wp2;go_ret;exact⟨d,HK.o,⟨_,rfl,H.o.f.size,V.new _ _ _⟩,H.o.alloc _⟩
theorem gi{t:St}{sign:ByteArray}{l:List Nat}(a:t.e=0)(b:nb sign=n::l)(h:ar (E q) t n=false):tk q t.p sign=false:=by grind[k_,E,bt,pfx,ar]
theorem iJ{q:ByteArray}{t:St}{sign:ByteArray}(h:(aO (E q) t (nb sign)).e=0):tk q t.p sign=true/\aO (E q) t (nb sign)={t with p:=t.p+sign.size}:=by grind[iE,Ap,k_]
def CnM(g:Nat)(q:ByteArray)(p v:Value)(n:Nat)(j:World)(h c b:Nat)(o:List UInt8)(d:Nat)(a:Nat)(r:Ending)(i:World):Prop:=∃f e,Live (E q) h c b o d f/\bA (E q) a=⟨e,f.p⟩/\ru e/\UQ g q p v n j f.p (kF (dw e) (.pointer none) 0 (.slice none 0 0)) r i
theorem Pc:Jb 2 0 ⟨#[]⟩=kF (dw ⟨3,0,iS⟩) (.pointer none) 0 (.slice none 0 0):=by rfl
theorem Jg:Jb 1 0 ⟨#[]⟩=kF (dw ⟨3,0,fP⟩) (.pointer none) 0 (.slice none 0 0):=by rfl
theorem Pd:Jb 0 0 ⟨#[]⟩=kF (dw ⟨3,0,mM⟩) (.pointer none) 0 (.slice none 0 0):=by rfl
theorem Jh(m:Int):Jb 3 m ⟨#[]⟩=kF (dw ⟨1,m,[]⟩) (.pointer none) 0 (.slice none 0 0):=by rfl
theorem UR(q:ByteArray):bR (E q)=q:=by simp_all[E,bR]
theorem US(h:E q=d)(a:d.length<=8):Jb 4 0 q=kF (dw ⟨2,0,d⟩) (.pointer none) 0 (.slice none 0 0):=by
 have e:jX (dw ⟨2,0,d⟩)=d:=by simp only[jX,dw,if_true];exact gv om
 unfold kF;rw[e,<-h,UR];rfl
theorem ru.num(m:Int):ru ⟨1,m,[]⟩:=⟨Y rfl,(λh=>by cases h),λ_=>rfl,(λh=>by rcases h with h|h<;>cases h),by show 0<=8;decide⟩
theorem ru.word(h:d=iS\/d=fP\/d=mM):ru ⟨3,0,d⟩:=⟨I (I rfl),λ_=>h,(λh=>by cases h),λ_=>rfl,by rcases h with rfl|rfl|rfl<;>decide⟩
theorem ru.str(h:d.length<=8):ru ⟨2,0,d⟩:=⟨I (Y rfl),(λh=>by cases h),(λh=>by cases h),λ_=>rfl,h⟩
variable{f:St}
theorem dG(h:ar d f n=true):bt d f.p=n:=(aF h).2
theorem aW{t:St}(a:t.e=0)(h:ar d t n=false):bt d t.p≠n:=by simpa[ar,a]using h
theorem Ji(h:aK (E q) (eF aR (E q) 8 f) 39={f with p:=n+1})(a:f.e=0):n<=f.p+8:=by grind[iD,aH,E,aR,aK,run,eF,wrong]
theorem Pe(s:List UInt8)(a b:Nat):(sub s a b).length<=b-a:=by unfold sub;exact List.length_take_le _ _
theorem lf(G:q.size<=1000)(F:bF (E q))(T:Er n w){t:St}(C:Live (E q) a i 17 d j t)(h:Qt n q b c k w t.p v):Calls prog 283 #[pT n] v (CnM n q b c k w a i 18 d j t.p):=by
 have g:=C.e0;have A:∀(x e:UInt8)(l:List UInt8)(s:ByteArray),nb s=(x::e::l).map UInt8.toNat->ar (E q) t x.toNat=true->nx (cS 17 d) x.toNat=⟨24,18,0,e::l,d⟩->tk q t.p s=true/\Live (E q) a i 18 d j {t with p:=t.p+s.size}:=by intro x e l s hs hx hn;have o:=au F (ry x e l (Y C) hx hn);rw[<-hs]at o;obtain⟨u,z⟩:=iJ o.e0;rw[z]at o;exact⟨u,o⟩
 by_cases o:ar (E q) t 116=true;.obtain⟨m,J⟩:=A 116 114 [117,101] ⟨#[116,114,117,101]⟩ rfl o (by rw[show(116:UInt8).toNat=116 from rfl,Ff de];rfl);exact(Pc▸Pa h G m).mono λr L p=>⟨_,_,J,by unfold bA;rw[ae (dG o)];rfl,ru.word (Y rfl),p⟩
 have o:ar (E q) t 116=false:=by simpa using o
 have H:=gi (sign:=⟨#[116,114,117,101]⟩) g rfl o;by_cases u:ar (E q) t 102=true;.obtain⟨m,J⟩:=A 102 97 [108,115,101] ⟨#[102,97,108,115,101]⟩ rfl u (by rw[show(102:UInt8).toNat=102 from rfl,Ff de];rfl);exact(Jg▸Jc h G H m).mono λr L p=>⟨_,_,J,by unfold bA;rw[aa (aW g o),ae (dG u)];rfl,ru.word (I (Y rfl)),p⟩
 have u:ar (E q) t 102=false:=by simpa using u
 have M:=gi (sign:=⟨#[102,97,108,115,101]⟩) g rfl u;by_cases z:ar (E q) t 110=true;.obtain⟨m,J⟩:=A 110 117 [108,108] ⟨#[110,117,108,108]⟩ rfl z (by rw[show(110:UInt8).toNat=110 from rfl,Ff de];rfl);exact(Pd▸Pb h G H M m).mono λr L p=>⟨_,_,J,by unfold bA;rw[aa (aW g o),aa (aW g u),ae (dG z)];rfl,ru.word (I (I rfl)),p⟩
 have z:ar (E q) t 110=false:=by simpa using z
 have P:=gi (sign:=⟨#[110,117,108,108]⟩) g rfl z;by_cases B:ar (E q) t 39=true
 .have m:=au F (oO (Y C) B);have K:aK (E q) t 39=aH t:=by unfold aK;rw[ae B]
  unfold fh at m;rw[K]at m;have N:tk q t.p ⟨#[39]⟩=true:=(tZ q g 39).trans B;refine(Jd h G H M P N).mono ?_;rintro r L⟨f,y,p⟩;obtain⟨S,U⟩:=xO (t:=aH t) m.e0 y;rw[U,ae rfl]at p;have W:=Ji S g;rw[S]at m;have XB:=Pe (E q) (t.p+1) f;have ha:(aH t).p=t.p+1:=rfl;rw[US (dD q (t.p+1) f) om]at p;refine⟨_,_,m,?_,ru.str om,p⟩;unfold bA;rw[aa (aW g o),aa (aW g u),aa (aW g z),ae (dG B),y.eq de]
 have B:ar (E q) t 39=false:=by simpa using B
 have N:=gi (sign:=⟨#[39]⟩) g rfl B;have m:=au F (oP (Y C) B o u z);unfold countP d_ at m;simp only[if_true,Bool.true_and]at m;by_cases D:ar (E q) t 45=true
 .have K:has (E q) t 45=aH t:=by unfold has;rw[ae D]
  rw[K]at m;have R:tk q t.p ⟨#[45]⟩=true:=(tZ q g 45).trans D;refine(Je h G H M P N R T λf y=>?_).mono ?_;.have:=(k' F (t:=aH t) g m (I (I (I rfl))) y).2;grind[aH]
  rintro r L⟨f,y,p⟩;rw[(k' F (t:=aH t) g m (I (I (I rfl))) y).1]at m;rw[Jh]at p;refine⟨_,_,m,?_,ru.num _,p⟩;unfold bA;rw[aa (aW g o),aa (aW g u),aa (aW g z),aa (aW g B),ae (dG D),y.eq de]
 have D:ar (E q) t 45=false:=by simpa using D
 have K:has (E q) t 45=t:=by unfold has;rw[aa (by rw[D];decide)]
 rw[K]at m;have R:=gi (sign:=⟨#[45]⟩) g rfl D;refine(Jf h G H M P N R T λf y=>?_).mono ?_;.have:=(k' F g m (I (I (I rfl))) y).2;omega
 rintro r L⟨f,y,p⟩;rw[(k' F g m (I (I (I rfl))) y).1]at m;rw[Jh]at p;refine⟨_,_,m,?_,ru.num _,p⟩;unfold bA;rw[aa (aW g o),aa (aW g u),aa (aW g z),aa (aW g B),aa (aW g D),y.eq de]
end Go.Proofs.YtcbadebjpogmlaaGreatDoor
namespace Go.Proofs.YtcbadebjpogmlaaGreatDoor
open Go.RowKit Tr Go.Proofs.Tryz Go.Conc
variable{w:World}
theorem Uv{h d b s r:Nat}{a:Array Value}{i:Bool}(t:Tok)(n:V w h #[.chan (some d)] 171)(m:w.heap[d]?=some (.chan b a false s r i))(f:a.size<b):Calls prog 80 #[bS t,pT h] w λl o=>l=.returned (.tuple #[])/\o=(w.alloc (.cells (cO t) 108)).setChan d b (a.push (bS t)) false (s+1) r i:=by
 refine calls_of_loneTo λp=>?_;have e:Frame.enter prog 80 #[bS t,pT h] .normal=(Conc.base 80).at ⟨#[bS t,pT h,undef,undef,undef],[]⟩ [.code (f80.body.getD .skip)]:=by simp[Frame.enter,Frame.at,func80,Conc.base,f80]
 rw[e];obtain⟨g,c⟩:∃g,g=w.alloc (.cells (cO t) 108):=⟨_,rfl⟩;have c0:g.cell? (aD h 0)=some (.chan (some d)):=by rw[c];exact(n.alloc _).cell 0
 have k:g.heap[d]?=some (.chan b a false s r i):=by rw[c,Below.heap_alloc _ _ _ (bo m)];exact m
 rw[c]at c0;unfold cO at c0;have j:Hid (g=w.alloc (.cells #[.int .i64 (t.k:Nat),.int .i64 (t.of:Nat),.int .i64 (t.af:Nat),.int .i64 (t.to:Nat),.int .i64 t.n,.string (bR (fV t.k t.t))] 108)):=c;unfold bS;refine LoneTo.goes (n:=20) ?_;simp only[f80,Option.getD_some];s_c stepG_seq;s_reg;s_op;s_c stepG_region_end;s_reg;s_op;s_op;s_stop;rw[<-j.o];refine LoneTo.step (step_lone_send_room (c:=d) (cap:=b) (buf:=a) (s:=s) (r:=r) (tm:=i) (stepG_comm (cases:=#[scase d (bS t) (.tuple #[])]) (blocking:=true) (shape:=.send) (w':=g) rfl rfl de (by simp[execOp,scase,Act.eval,bS])) k f) ?_;rw[Frame.finish_at];walk_nrm;refine LoneTo.goes (n:=4) ?_;s_c stepG_region_end;s_c stepG_end;s_stop;rw[c];refine LoneTo.done ⟨.returned (.tuple #[]),_,rfl,⟨rfl,rfl⟩,rfl,rfl,rfl,rfl,_,func80,by simp[results,f80,Frame.at]⟩
theorem EY{d:Goroutine->World->Prop}{c:Code}{R:Exit->Act->World->Prop}{b:Frame}{a:Act}{k:List Item}{i:List Frame}(h:c.wp prog R a w)(p:∀e f g,R e f g->e=.normal/\LoneTo prog d (Conc.G (b.at f k) i) g):LoneTo prog d (Conc.G (b.at a (.code c::k)) i) w:=by obtain⟨e,f,g,l,m⟩:=h b k i;obtain⟨rfl,j,q,n,o⟩:=p e f g l;exact⟨j,q,Steps.trans m n,o⟩
