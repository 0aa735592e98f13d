import Derived.Test.YtcbadebjpogmlaaGreatDoorVvAe
namespace Tr
def jS(a:List Sg):Prop:=∀g∈a,∀x∈g.l,0<x.sort/\x.sort<=5
theorem OB(s:List UInt8)(a:Nat):0<(bO s a).v.sort/\(bO s a).v.sort<=5:=by grind[bO]
theorem xx(s:List UInt8):∀(n a:Nat)(l:List dz),(∀x∈l,0<x.sort/\x.sort<=5)->∀x∈(eD s n a l).v,0<x.sort/\x.sort<=5
 |0,_,_,h=>h|n+1,a,l,h=>by
  have b:∀x∈l++[(bO s a).v],0<x.sort/\x.sort<=5:=λx c=>by grind[OB]
  rw[eD];split;.exact xx s n _ _ b
  exact b
theorem IE(s:List UInt8)(a:Nat):∀x∈(gg s a).v,0<x.sort/\x.sort<=5:=by unfold gg;split<;>simp
theorem OC(s:List UInt8)(a:Nat):∀x∈(fX s a).v.l,0<x.sort/\x.sort<=5:=by grind[xx,IE,zV,fX]
theorem xy(s:List UInt8):∀(n a:Nat)(l:List Sg),jS l->jS (jh s n a l)
 |0,_,_,h=>h|n+1,a,l,h=>by
  rw[jh];split
  .refine xy s n _ _ λg b=>?_;rcases gU.1 b with x|x;.exact h g x
   grind[OC]
  exact h
theorem E9(s:List UInt8):jS (cK s):=xy s _ _ _ λg a=>by cases a
variable{a c l:Tv}
theorem Af{x:dz}(g:0<x.sort/\x.sort<=5)(e:x.late=false)(b L d i:Nat)(f:a.d.name=c.d.name):bn x b L i a=bn x b d i c:=by grind(splits:=30)[dz.late,bn]
theorem IF{l:List dz}(g:∀x∈l,0<x.sort/\x.sort<=5)(e:l.any dz.late=false)(b L d i:Nat)(f:a.d.name=c.d.name):dX l b L i a=dX l b d i c:=by grind[Af,dX,List.map_congr_left]
variable{b:List Sg}{n k:Nat}
theorem xz(a:n<b.length)(h:n<ay b):b[n].l.any dz.late=false:=by grind(splits:=30)[dz.late,Sg.late,ay]
variable{p:List Ct}
theorem vm(r:jS b)(f:p.length=b.length+1)(s:Zh b p)(a L d i:Nat){c c':Tv}(q:c.d.name=c'.d.name):cZ b a L i c p=cZ b a d i c' p:=by
 unfold cZ;congr 1;have t:=kx a L i c b p f;have u:=kx a d i c' b p f;apply List.ext_getElem (by rw[t,u]);intro k m n;have e:k<b.length:=om;have g:=kX a L i c b p f k e;have h:=kX a d i c' b p f k e;have j:aG (jc a L i c b p) k=(jc a L i c b p)[k]:=by unfold aG;rw[List.getD_eq_getElem?_getD,fB m];rfl
 have l:aG (jc a d i c' b p) k=(jc a d i c' b p)[k]:=by unfold aG;rw[List.getD_eq_getElem?_getD,fB n];rfl
 rw[<-j,<-l,g,h];by_cases o:k<ay b;.rw[IF (r _ (bP e)) (xz e o) a L d i q]
 have z:=s om k om;rw[z];simp
def tp(p:Tv×Nat):jt×Nat:=(p.1.d,p.2)
def ky(c:List Sg)(n a:Nat)(b:List Tv)(d:List Ct):List (Tv×Nat):=b.zipIdx.flatMap λp=>b7 c n p.1 (cZ c a b.length p.2 p.1 d)
def OD(b:List Sg)(t:Tv)(a:List Ct):List (Tv×Nat):=if 0<(aG a b.length).eB then[(t,(aG a b.length).eB)]else[]
theorem mg(b:List Sg)(n:Nat)(t:Tv)(a:List Ct):b7 b (n+1) t a=ky b n t.d.kind t.ws a++OD b t a:=rfl
theorem UD(d:List Sg)(h:a.d=c.d)(b:List Ct):(OD d a b).map tp=(OD d c b).map tp:=by grind[OD,tp]
theorem oJ(b:List Sg):∀{n m:Nat}{t:Tv}(a:List Ct),Deep n t->n<=m->b7 b m t a=b7 b n t a
 |0,_,_,_,h,_=>h.elim|n+1,0,_,_,_,h=>absurd h om|n+1,m+1,t,a,h,c=>by
  rw[mg,mg];congr 1;unfold ky;apply fJ;intro p d;have:p.1∈t.ws:=by grind
  exact oJ b _ (h _ this) om
theorem IG(f:jS b)(e:p.length=b.length+1)(g:Zh b p)(n a:Nat)(d:List Tv)(c:Tv):ky b n a (d++[c]) p=ky b n a d p++b7 b n c (cZ b a 0 d.length ⟨c.d,[]⟩ p):=by grind[fJ,vm,ky]
def iu(b:List Sg)(a:List (List Ct))(m:Nat):List Fm->List (jt×Nat)|[]=>[]|f::r=>iu b a m r++(if r.length<m then(ky b (9-r.length) f.d.kind f.ws (a.getD r.length [])).map tp else[])
variable{j m:List (List Ct)}
theorem jT:∀{l:List Fm},(∀i,i<l.length->(i<n↔i<k)/\(i<n->j.getD i []=m.getD i []))->iu b j n l=iu b m k l|[],_=>rfl|f::r,h=>by have a:=h r.length si;rw[iu,iu,jT (l:=r) λi c=>h i (by simp;omega)];grind
def E_(a:Option Nat):List Fm->List Fm->Prop|[],[]=>True|f::r,F::R=>f.d=F.d/\f.ix=F.ix/\(gP a r.length=true->f.ws=F.ws)/\E_ a r R|_,_=>False
variable{r A:Option Nat}
theorem E_.len:∀{a b:List Fm},E_ r a b->a.length=b.length|[],[],_=>rfl|_::_,_::_,h=>by simp[E_.len h.2.2.2]|[],_::_,h=>h.elim|_::_,[],h=>h.elim
theorem E_.o:∀{a b:List Fm},(∀m,m<a.length->gP A m=false)->E_ r a b->E_ A a b|[],[],_,_=>trivial|f::c,F::R,h,⟨d,g,_,i⟩=>⟨d,g,λe=>(by rw[h c.length si]at e;cases e),E_.o (λm j=>h m (by simp;omega)) i⟩|[],_::_,_,h=>h.elim|_::_,[],_,h=>h.elim
def vn(b:List Sg)(a:List (List Ct)):List Fm->Prop|[]=>True|f::r=>(r.length<a.length->a.getD r.length []=(match r with|[]=>b8 b.length|p::q=>cZ b p.d.kind 0 f.ix ⟨f.d,[]⟩ (a.getD q.length [])))/\vn b a r
theorem vn.congr(c:m.length<=j.length):∀{l:List Fm},(∀i,i<l.length->i<m.length->m.getD i []=j.getD i [])->vn b j l->vn b m l|[],_,_=>trivial|f::r,h,⟨d,a⟩=>by refine⟨λg=>?_,vn.congr c (λi e=>h i (by simp;omega)) a⟩;grind
def lvl(s:Fw):Nat:=match s.hd with|none=>s.g.st.length|some h=>h
theorem vn.app(T:List Ct):∀{l:List Fm},l.length<=j.length->vn b j l->vn b (j++[T]) l
 |[],_,_=>trivial|f::r,a,⟨d,c⟩=>by
  have g:∀i,i<j.length->(j++[T]).getD i []=j.getD i []:=λi e=>by grind
  have a:r.length<j.length:=by simp only[List.length_cons]at a;omega
  refine⟨λ_=>?_,vn.app T om c⟩;grind
structure TW(xs:List Sg)(s:Fw)(G:Gs):Prop where
 ok:wW xs s
 nm:s.g.nm=G.nm
 ix:s.g.ix=G.ix
 bd:s.g.bd=G.bd
 st:E_ s.hd s.g.st G.st
 tl:vn xs s.tl G.st
 told:s.told.map tp=if G.st=[]then(match G.last with|none=>[]|some t=>(b7 xs 10 t (b8 xs.length)).map tp)else iu xs s.tl (lvl s) G.st
theorem xA(c:List Sg)(n a:Nat)(b:List Ct):ky c n a [] b=[]:=rfl
variable{g:Fw}{i:Gs}
theorem CF{l:List Sg}(J:∀c∈l,0<c.l.length)(h:TW l g i)(d:jt){b:Nat}(F:g.g.bd<=b)(D:i.st=[]->i.last=none):TW l (gQ l g d b) ⟨⟨d,i.ix,true,[]⟩::i.st,[],0,b+1,i.last⟩:=by
 have w:=nw J h.ok d F;have r:=h.st.len;have j:=h.ok.tl;have M:g.told.map tp=iu l g.tl (lvl g) i.st:=by
  rw[h.told];by_cases e:i.st=[];.rw[ae e,D e,e];rfl
  rw[aa e]
 cases s:g.hd with|some k=>
  have R:=h.ok.hd k s;have e:gQ l g d b={g with g:=⟨⟨d,g.g.ix,true,[]⟩::g.g.st,[],0,b+1,g.g.last⟩}:=by unfold gQ jk;rw[s];simp[s]
  rw[e]at w⊢;rw[s]at j;simp only at j;refine⟨w,rfl,rfl,rfl,⟨rfl,h.ix,λ_=>rfl,h.st⟩,⟨λy=>absurd y (by rw[<-r];simp only;omega),h.tl⟩,?_⟩;grind[xA,lvl,iu,tp]|none=>
  rw[s]at j;simp only at j;obtain⟨n,u⟩:∃n,n=if ay l<l.length/\0<(aG (eO l g d) (ay l)).eB then some g.g.st.length else none:=⟨_,rfl⟩;have e:gQ l g d b=⟨⟨⟨d,g.g.ix,false,[]⟩::g.g.st,[],0,b+1,g.g.last⟩,g.tl++[eO l g d],n,g.told⟩:=by unfold gQ jk;rw[s,u];simp
  have C:n=some g.g.st.length\/n=none:=by grind
  clear u;rw[e]at w⊢;have x:∀m,m<g.g.st.length->gP n m=false:=λm S=>by grind(splits:=30)[gP]
  have B:∀f,f<g.tl.length->g.tl.getD f []=(g.tl++[eO l g d]).getD f []:=λf N=>by grind
  refine⟨w,rfl,rfl,rfl,⟨rfl,h.ix,λ_=>rfl,h.st.o x⟩,⟨λ_=>?_,vn.app _ om h.tl⟩,?_⟩
  .simp only;rw[<-r,<-j];have:(g.tl++[eO l g d]).getD g.tl.length []=eO l g d:=by rw[List.getD_eq_getElem?_getD];simp
   rw[this];have o:=h.st;cases v:g.g.st with|nil=>grind[eO]|cons p q=>
    rw[v]at o;cases A:i.st with|nil=>rw[A]at o;exact o.elim|cons P a=>
     rw[A]at o;obtain⟨K,T,U,L⟩:=o;have t:=h.ok.fr;rw[v,s]at t;have H:p.ws=[]:=t.2.2.1 rfl;simp only;have z:g.tl≠[]:=λy=>by rw[y,v]at j;simp at j
     have G:a.length<g.tl.length:=by rw[j,v,<-L.len];simp
     rw[<-B _ G];unfold eO;rw[v];simp only;rw[H,qw g.tl [] z,K,h.ix];grind
  grind[xA,jT,eO,lvl,iu,tp]
theorem IH(hs:jS b)(h:TW b g i){f F:Fm}{r R:List Fm}(z:g.g.st=f::r)(K:i.st=F::R)(C:iO i.st i.ix)(hl:R.length<=8)(A:np i.st)(d:Nat):TW b {im b g (f.tv d) r.length with g:=aE g.g f r d} (aE i F R d):=by
 have w:=vh h.ok z d;have D:=h.st;rw[z,K]at D;rw[K]at C A;obtain⟨d1,d2,d3,H⟩:=D;obtain⟨i1,i2,i3⟩:=C;have j:=H.len;have T0:g.told.map tp=iu b g.tl (lvl g) (F::R):=by rw[h.told,K,aa si]
 have v:vn b g.tl (F::R):=by have:=h.tl;rw[K]at this;exact this
 have B:=h.ok.fr;rw[z]at B;obtain⟨f1,f2,f3,f4⟩:=B;by_cases U:g.hd.isSome=true/\g.hd≠some r.length
 .obtain⟨k,s⟩:∃k,g.hd=some k:=Option.isSome_iff_exists.1 U.1;have oH:=h.ok.hd k s;rw[z]at oH;have u:k<r.length:=by grind
  have M:f.kp=true:=by rw[f1,s];simp[mK,u]
  have e:{im b g (f.tv d) r.length with g:=aE g.g f r d}={g with g:=aE g.g f r d}:=by unfold im;rw[ae U]
  rw[e]at w⊢;have ew:f.ws=F.ws:=d3 (by rw[s];simp[gP];omega);have et:f.tv d=F.tv d:=by unfold Fm.tv;rw[d1,ew]
  cases r with|nil=>simp at u|cons p q=>
   cases R with|nil=>exact H.elim|cons P a=>
    obtain⟨p1,p2,p3,p4⟩:=H;have Xy:=p4.len;have SW:k<=q.length:=by simp at u;omega
    have pw:p.ws=P.ws:=p3 (by rw[s];simp[gP];omega);have L:(aE g.g f (p::q) d).st={p with ws:=p.ws++[f.tv d]}::q:=by simp[aE,ku,dS,M]
    have l:(aE i F (P::a) d).st={P with ws:=P.ws++[F.tv d]}::a:=by simp[aE,ku,dS,i2]
    refine⟨w,h.nm,?_,h.bd,?_,?_,?_⟩;.show f.ix+1=F.ix+1;rw[d2]
    .grind[E_,aE]
    .simp_all[vn,aE]
    grind[aE,lvl,iu,tp]
 have s:g.hd=none\/g.hd=some r.length:=by cases hh:g.hd with|none=>exact Y rfl|some k=>grind
 have hkp:f.kp=false:=by rcases s with y|y<;>rw[f1,y]<;>simp[mK]
 have G:g.tl.length=r.length+1:=by have:=h.ok.tl;grind
 have e:{im b g (f.tv d) r.length with g:=aE g.g f r d}=⟨aE g.g f r d,g.tl.dropLast,none,g.told++b7 b 10 (f.tv d) (g.tl.getLastD [])⟩:=by unfold im;rw[aa U]
 rw[e]at w⊢;have hne:g.tl≠[]:=λy=>by rw[y]at G;simp at G
 obtain⟨T,hT⟩:∃T,T=g.tl.getLastD []:=⟨_,rfl⟩;have m:g.tl.getD R.length []=T:=by grind
 rw[<-hT]at w⊢;have hD:Deep (9-R.length+1) (F.tv d):=A.1;have TT:(g.told++b7 b 10 (f.tv d) T).map tp=iu b g.tl R.length R++(b7 b (9-R.length+1) (F.tv d) T).map tp:=by
  rw[fC,T0,iu,m];rcases s with y|y
  .have fw:f.ws=[]:=f3 (by rw[y];rfl);have lv:lvl g=R.length+1:=by unfold lvl;simp only[y,z,List.length_cons];omega
   rw[lv,ae om,mg b 9,mg];have k0:ky b 9 (f.tv d).d.kind (f.tv d).ws T=[]:=by show ky b 9 _ f.ws T=[];rw[fw];rfl
   grind[UD,jT,Fm.tv]
  grind[oJ,Fm.tv,gP,lvl]
 have L:(aE g.g f r d).st=r:=by simp[aE,hkp,tN]
 have gd:∀c,c<g.tl.dropLast.length->g.tl.dropLast.getD c []=g.tl.getD c []:=λc C=>by grind
 have W:g.tl.dropLast.length=R.length:=by rw[List.length_dropLast];omega
 have J:E_ none r R:=H.o λ_ _=>rfl;have x:(aE g.g f r d).ix=(aE i F R d).ix:=by show f.ix+1=F.ix+1;rw[d2]
 cases R with
 |nil=>
  have r0:r=[]:=CG (by simpa using j);refine⟨w,h.nm,x,h.bd,?_,trivial,?_⟩;.show E_ none (aE g.g f r d).st [];rw[L,r0];trivial
  show(g.told++b7 b 10 (f.tv d) T).map tp=if(aE i F [] d).st=[]then(match(aE i F [] d).last with|none=>[]|some t=>(b7 b 10 t (b8 b.length)).map tp)else _;have:(aE i F [] d).st=[]:=rfl;rw[ae this,TT];have n:T=b8 b.length:=by rw[<-m];exact v.1 (by simp;omega)
  rw[n];rfl|cons P a=>
  have l:(aE i F (P::a) d).st={P with ws:=P.ws++[F.tv d]}::a:=by simp[aE,ku,dS,i2]
  have N:a.length<g.tl.length:=by simp at j;omega
  have S:a.length+1<g.tl.length:=by simp at j;omega
  have n:T=cZ b P.d.kind 0 F.ix ⟨F.d,[]⟩ (g.tl.getD a.length []):=by rw[<-m];exact v.1 om
  refine⟨w,h.nm,x,h.bd,?_,?_,?_⟩;.show E_ none (aE g.g f r d).st (aE i F (P::a) d).st;rw[L,l];cases r with|nil=>exact J.elim|cons p q=>exact⟨J.1,J.2.1,λy=>(by cases y),J.2.2.2⟩
  .show vn b g.tl.dropLast (aE i F (P::a) d).st;rw[l];exact vn.congr (l:={P with ws:=P.ws++[F.tv d]}::a) (by rw[List.length_dropLast];omega) (λc _ C=>gd c C) v.2
  show(g.told++b7 b 10 (f.tv d) T).map tp=if(aE i F (P::a) d).st=[]then _ else iu b g.tl.dropLast (lvl ⟨aE g.g f r d,g.tl.dropLast,none,g.told++b7 b 10 (f.tv d) T⟩) (aE i F (P::a) d).st;have lv:lvl ⟨aE g.g f r d,g.tl.dropLast,none,g.told++b7 b 10 (f.tv d) T⟩=a.length+1:=by grind[lvl]
  have hz:=h.ok.z a.length N (I S);have o:=(h.ok.ct a.length N).len;have eP:g.tl.getD a.length []=g.tl[a.length]:=by rw[List.getD_eq_getElem?_getD,fB N];rfl
  rw[<-eP]at hz o;rw[l,aa si,TT,lv,iu,iu,ae si,ae si,gd a.length (by rw[W];simp)];rw[IG hs o hz,fC,<-gh];congr 1;.congr 1;grind[jT]
  have i4:F.ix=P.ws.length:=i3.1;rw[n,i4,vm hs o hz P.d.kind 0 0 P.ws.length (c:=⟨F.d,[]⟩) (c':=⟨(F.tv d).d,[]⟩) rfl];grind
theorem OE(h:TW b g i)(t:Tok):bK g.g t=bK i t:=by
 unfold bK;rw[h.nm,h.ix];have:iv g.g.st i.ix i.nm=iv i.st i.ix i.nm:=by have c:=h.st;cases e:g.g.st with
  |nil=>cases d:i.st with
   |nil=>rfl|cons P a=>rw[e,d]at c;exact c.elim
  |cons p q=>cases d:i.st with
   |nil=>rw[e,d]at c;exact c.elim|cons P a=>rw[e,d]at c;show ji p.d.kind p.d.path _ _=ji P.d.kind P.d.path _ _;rw[c.1]
 rw[this]
theorem OF(B:∀d∈b,0<d.l.length)(o:jS b)(h:TW b g i)(p:GF i)(z:iO i.st i.ix){t:Tok}(q:eN i.sh t)(w:t.k=0\/t.k=3->i.st=[]->i.last=none):TW b (dE b g t) (aA i t true):=by
 have y:=OE h t;have G:i.sh.bd=i.bd:=rfl;have k:=h.st.len;unfold dE;by_cases j:t.k=0
 .rw[ae j];have P:=CF B h (bK g.g t) (b:=t.af) (by rw[h.bd];exact(q.k0 j).2.2.2.2) (w (Y j));have s:aA g.g t g.hd.isSome=⟨⟨bK g.g t,g.g.ix,g.hd.isSome,[]⟩::g.g.st,[],0,t.af+1,g.g.last⟩:=by unfold aA;rw[ae j];rfl
  have n:aA i t true=⟨⟨bK g.g t,i.ix,true,[]⟩::i.st,[],0,t.af+1,i.last⟩:=by unfold aA;rw[ae j,y];rfl
  rw[s,n];exact P
 rw[aa j];by_cases l:t.k=1;.rw[ae l];cases A:g.g.st with|nil=>grind[aA]|cons f r=>cases u:i.st with|nil=>rw[A,u]at k;simp at k|cons F R=>have x:=p.len;have C:=IH o h A u z (by rw[u]at x;simp at x;omega) p.d t.to;grind[aE,aA]
 rw[aa l];by_cases m:t.k=2
 .rw[ae m];have s:aA g.g t true={g.g with nm:=t.t}:=by unfold aA;rw[aa j,aa l,ae m]
  have n:aA i t true={i with nm:=t.t}:=by unfold aA;rw[aa j,aa l,ae m]
  rw[s,n];exact⟨⟨h.ok.n,h.ok.fr,h.ok.tl,h.ok.hd,h.ok.ct,h.ok.z⟩,rfl,h.ix,h.bd,h.st,h.tl,h.told⟩
 rw[aa m];have J:=q.k3 (by have:=q.k;omega);have P:=CF B h (bK g.g t) (b:=t.af) (by rw[h.bd];exact J.2.2.2.2) (w (I (by have:=q.k;omega)));have v:np (⟨bK g.g t,i.ix,true,[]⟩::i.st):=⟨λc H=>(by cases H),p.d⟩;have a:=IH o P (f:=⟨bK g.g t,g.g.ix,g.hd.isSome,[]⟩) (r:=g.g.st) (F:=⟨bK g.g t,i.ix,true,[]⟩) (R:=i.st) rfl rfl ⟨rfl,rfl,z⟩ p.len v t.to;have e:aA g.g t g.hd.isSome=aE {g.g with nm:=[],bd:=t.af+1} (aB g.g t g.hd.isSome) g.g.st t.to:=by unfold aA;rw[aa j,aa l,aa m]
 have n:aA i t true=aE ⟨⟨bK g.g t,i.ix,true,[]⟩::i.st,[],0,t.af+1,i.last⟩ ⟨bK g.g t,i.ix,true,[]⟩ i.st t.to:=by unfold aA;rw[aa j,aa l,aa m];unfold aB;rw[y];rfl
 rw[e,n];have D:({im b (jk b g (bK g.g t)) ((aB g.g t true).tv t.to) g.g.st.length with g:=aE {g.g with nm:=[],bd:=t.af+1} (aB g.g t g.hd.isSome) g.g.st t.to}:Fw)={im b (gQ b g (bK g.g t) t.af) ((⟨bK g.g t,g.g.ix,g.hd.isSome,[]⟩:Fm).tv t.to) g.g.st.length with g:=aE (gQ b g (bK g.g t) t.af).g ⟨bK g.g t,g.g.ix,g.hd.isSome,[]⟩ g.g.st t.to}:=by
  unfold gQ im;simp only;split;.rfl
  rfl
 rw[D];exact a
def xB:Gs->List Tok->Prop|_,[]=>True|G,t::r=>(t.k=0\/t.k=3->G.st=[]->G.last=none)/\xB (aA G t true) r
theorem Ah(i:∀g∈b,0<g.l.length)(a:jS b):∀{ts:List Tok}{s:Fw}{G:Gs},TW b s G->GF G->iO G.st G.ix->kU G.sh ts->xB G ts->TW b (bU b s ts) (cT G ts)|[],_,_,h,_,_,_,_=>h|t::r,s,G,h,f,d,c,e=>by have:=Ah i a (ts:=r) (OF i a h f d c.1 e.1) (Cj f d c.1) (qv d) (by rw[jj G t true c.1];exact c.2) e.2;exact this
structure Nx(z:Sn)(x:Sx):Prop where a:x.ts=[]\/(∃t,x.ts=[t])\/(z.op≠[]/\∃t t',x.ts=[t,t']/\t'.k=1)b:z.op=[]->z.st=5->x.ts=[]c:x.z.op=[]->x.z.st≠5->x.z.st<=10->z.op=[]/\z.st≠5/\x.ts=[]
variable{t B:Sn}
theorem iR(a:11<=n):Nx t ⟨{B with st:=n},[]⟩:=⟨Y rfl,λ_ _=>rfl,λ_ _ h=>absurd h (by simp only;omega)⟩
theorem OG{s:Sh}(l:jm t)(p:Lk t s)(r:t.st<=10)(o:t.at'<4000000)(b:Nat):Nx t (an t b):=by
 have S:=gY l p r o b;have f:=S.ok;have v:t.op≠[]->Nx t (cN t):=λh=>⟨I (Y ⟨_,rfl⟩),λe _=>absurd e h,λ_ e _=>absurd rfl e⟩;have u:∀b,Nx t (aC t b)/\((aC t b).ts=[]\/(t.op≠[]/\∃a,(aC t b).ts=[a]/\a.k=1))/\((aC t b).z.op=[]->(aC t b).z.st≠5->(aC t b).z.st<=10->False):=λb=>by
  unfold aC;by_cases m:gu t.op b=false;.grind[iR,Sn.to]
  rw[aa m];by_cases i:cm b=true;.rw[ae i];exact⟨⟨Y rfl,λ_ _=>rfl,λ_ h _=>absurd rfl h⟩,Y rfl,λ_ h _=>absurd rfl h⟩
  rw[aa i];have g:=CH (by simpa using m) (by simpa using i);by_cases w:b≠44;.rw[ae w];exact⟨v g,I ⟨g,_,rfl,rfl⟩,λ_ h _=>absurd rfl h⟩
  rw[aa w];split;.exact⟨⟨Y rfl,λ_ _=>rfl,λh _ _=>absurd h g⟩,Y rfl,λh _ _=>g h⟩
  exact⟨⟨Y rfl,λ_ _=>rfl,λh _ _=>absurd h g⟩,Y rfl,λh _ _=>g h⟩
 have B:t.st≠5->Nx t (bm t b):=λd=>by
  have LT:∀k c,Nx t (jb t k c):=λk c=>by
   unfold jb;split;.exact iR om
   exact⟨I (Y ⟨_,rfl⟩),λ_ e=>absurd e d,λe _ _=>absurd e si⟩
  unfold bm;split;.exact LT _ _
  split;.exact LT _ _
  split;.exact⟨Y rfl,λ_ _=>rfl,λe _ _=>⟨e,d,rfl⟩⟩
  split;.exact⟨Y rfl,λ_ _=>rfl,λe _ _=>⟨e,d,rfl⟩⟩
  split;.exact⟨Y rfl,λ_ _=>rfl,λe _ _=>⟨e,d,rfl⟩⟩
  split;.exact⟨Y rfl,λ_ _=>rfl,λe _ _=>⟨e,d,rfl⟩⟩
  unfold fL;split;.exact⟨Y rfl,λ_ _=>rfl,λe _ _=>⟨e,d,rfl⟩⟩
  split;.exact⟨Y rfl,λ_ _=>rfl,λe _ _=>⟨e,d,rfl⟩⟩
  exact⟨Y rfl,λ_ _=>rfl,λ_ _ h=>absurd h si⟩
 unfold an at f⊢;by_cases x:t.st=6
 .rw[ae x]at f⊢;have d:t.st≠5:=om;unfold iQ at f⊢;split;.exact iR om
  rename_i H;rw[aa H]at f;split;.exact⟨Y rfl,λ_ _=>rfl,λe _ _=>⟨e,d,rfl⟩⟩
  rename_i J;rw[aa J]at f;split
  .rename_i K;rw[ae K]at f;unfold gf at f⊢;split;.exact⟨I (Y ⟨_,rfl⟩),λ_ e=>absurd e d,λ_ e _=>absurd rfl e⟩
   rename_i L;rw[aa L]at f;exact⟨I (Y ⟨_,rfl⟩),λ_ e=>absurd e d,λe _ _=>absurd e ((f si).ne si)⟩
  exact⟨Y rfl,λ_ _=>rfl,λe _ _=>⟨e,d,rfl⟩⟩
 rw[aa x]at f⊢;by_cases z:t.st=7
 .rw[ae z];have d:t.st≠5:=om;unfold kV;split;.exact iR om
  exact⟨Y rfl,λ_ _=>rfl,λe _ _=>⟨e,d,rfl⟩⟩
 rw[aa z]at f⊢;by_cases A:t.st=8\/t.st=9
 .rw[ae A];have d:t.st≠5:=om;unfold gG;split;.exact iR om
  split;.exact⟨Y rfl,λ_ _=>rfl,λe _ _=>⟨e,d,rfl⟩⟩
  split;.exact iR om
  obtain⟨_,C,D⟩:=u b;refine⟨?_,λ_ e=>absurd e d,λF n G=>(D F n G).elim⟩;rcases C with y|⟨M,a,y,N⟩;.simp_all
  grind
 rw[aa A]at f⊢;by_cases j:t.st=10
 .rw[ae j];have d:t.st≠5:=om;unfold fA;split;.exact iR om
  split;.exact⟨I (Y ⟨_,rfl⟩),λ_ e=>absurd e d,λ_ e _=>absurd rfl e⟩
  exact⟨Y rfl,λ_ _=>rfl,λe _ _=>⟨e,d,rfl⟩⟩
 rw[aa j]at f⊢;by_cases i:cm b=true;.rw[ae i];exact⟨Y rfl,λ_ _=>rfl,λe n _=>⟨e,n,rfl⟩⟩
 rw[aa i]at f⊢;unfold bT at f⊢;by_cases d:t.st=5;.rw[ae d];exact(u b).1
 rw[aa d]at f⊢;split;.exact⟨Y rfl,λ_ _=>rfl,λe _ _=>⟨e,d,rfl⟩⟩
 split;.rename_i q;exact v (l.ne om)
 split;.exact B d
 split;.exact⟨Y rfl,λ_ _=>rfl,λe _ _=>⟨e,d,rfl⟩⟩
 exact iR om
theorem qD:∀(l:List UInt8){z:Sn}{G:Gs},jm z->Lk z G.sh->z.st<=10->z.at'+l.length<=4000000->(z.op=[]->z.st≠5->G.last=none)->xB G (aj z l).ts/\((aj z l).e=0->(aj z l).z.op=[]->(aj z l).z.st≠5->(cT G (aj z l).ts).last=none)
 |[],z,G,_,_,_,_,h=>⟨trivial,λ_ p q=>h p q⟩|b::l,z,G,k,i,s,y,h=>by
  have J:z.at'+(l.length+1)<=4000000:=by simpa using y
  have S:=gY k i s om b.toNat;have N:=OG k i s om b.toNat;have j:z.op=[]↔G.st=[]:=by rw[<-i.op];show((G.st.map fk).reverse)=[]↔_;simp
  have hone:∀t:Tok,(t.k=0\/t.k=3->z.op=[]->z.st≠5)->(t.k=0\/t.k=3->G.st=[]->G.last=none):=λt A v u=>h (j.2 u) (A v (j.2 u));have w:xB G (an z b.toNat).ts:=by
   rcases N.a with e|⟨t,e⟩|⟨F,t,K,e,H⟩;.rw[e];trivial
   .rw[e];refine⟨hone t λ_ o x=>?_,trivial⟩;have:=N.b o x;rw[e]at this;cases this
   rw[e];exact⟨hone t λ_ o=>absurd o F,λv=>om,trivial⟩
  rw[aj];by_cases n:(an z b.toNat).z.st=12;.grind
  rw[aa n];by_cases m:(an z b.toNat).z.st=11;.grind
  rw[aa m];have f:(an z b.toNat).z.st<=10:=by have:=S.st;omega
  have r:=S.at';have g:=S.ok f;have d:jm {(an z b.toNat).z with at':=(an z b.toNat).z.at'+1}:=⟨g.op,g.ne,g.tk,g.st,g.w,g.n,g.m,g.x⟩;have c:=qD l (G:=cT G (an z b.toNat).ts) d (by rw[jU S.tok];exact S.lk f) f (by simp only[r];omega) (λp q=>by obtain⟨B,C,D⟩:=N.c p q f;rw[D];exact h B C);simp only;rw[kC];refine⟨?_,c.2⟩;exact ri w c.1 where ri:∀{a b:List Tok}{G:Gs},xB G a->xB (cT G a) b->xB G (a++b)|[],_,_,_,h=>h|_::_,_,_,⟨k,i⟩,h=>⟨k,ri i h⟩
theorem xC(a:List Sg):TW a cJ a_:=⟨nu a,rfl,rfl,rfl,trivial,trivial,rfl⟩
theorem Fa(q:∀g∈b,0<g.l.length)(d:jS b){l:List UInt8}(p:l.length<=4000000)(h:bD l=0)(i:jA l=some a):(bU b cJ (iP l)).told.map tp=(b7 b 10 a (b8 b.length)).map tp:=by
 obtain⟨m,n,_⟩:=Ck p h;have R:=fW l aX.1 aX.2 (by simp[ah]) (by simp[ah];omega);have f:(aj ah l).e=0:=by grind(splits:=30)[ah,aj,bD]
 have c:=qD l (G:=a_) aX.1 aX.2 (by simp[ah]) (by simp[ah];omega) λ_ _=>rfl;have k:xB a_ (iP l):=by
  unfold iP;refine qD.ri c.1 ?_;unfold fF;by_cases e:(aj ah l).z.st=9
  .rw[ae e];refine⟨λ_ o=>c.2 f ?_ om,trivial⟩;have j:=(R.ok f).2.2.2;have r:=jU (g:=a_) R.tok;rw[show bC ⟨[],0⟩ (aj ah l).ts=(cT a_ (aj ah l).ts).sh from r.symm]at j;have:(cT a_ (aj ah l).ts).sh.op=[]:=by simp[Gs.sh,o]
   rw[<-j.op];exact this
  rw[aa e];trivial
 have W:=Ah q d (xC b) lK (show iO a_.st a_.ix from trivial) m k;rw[W.told,ae n];unfold jA at i;rw[i]
theorem lN{b c:Type}(g:c->Nat)(f:b->List c):∀(l:List b),((l.flatMap f).map g).sum=(l.map λa=>((f a).map g).sum).sum|[]=>rfl|a::l=>by rw[kD,fC,List.sum_append,lN g f l];simp
theorem CI{b:Type}(G:b×Nat->Nat)(H:b->Nat):∀(l:List b)(m:Nat),(∀p∈l.zipIdx m,G p=H p.1)->((l.zipIdx m).map G).sum=(l.map H).sum|[],_,_=>rfl|a::l,m,h=>by rw[List.zipIdx_cons]at h⊢;rw[List.map_cons,List.sum_cons,List.map_cons,List.sum_cons,h _ (dT),CI G H l (m+1) λp c=>h p (f_ _ c)]
theorem II{b:Type}(G:b×Nat->Nat)(H:b->Nat):∀(l:List b)(m:Nat),(∀p∈l.zipIdx m,G p<=H p.1)->((l.zipIdx m).map G).sum<=(l.map H).sum|[],_,_=>aP _|a::l,m,h=>by rw[List.zipIdx_cons]at h⊢;rw[List.map_cons,List.sum_cons,List.map_cons,List.sum_cons];have d:G (a,m)<=H a:=h _ (dT);have e:=II G H l (m+1) λp c=>h p (f_ _ c);omega
structure CnO(t:Tv)(N:List Tv)(v:Tv)(n:Nat)(T:List (Tv×Nat)):Prop where
 m:∀p∈T,p.1∈ai n v/\p.2=ju p.1 N/\0<p.2
 s:(T.map (·.2)).sum=((ai n v).map λu=>ju u N).sum
 c:∀c,T.countP λp=>fr p.1==c<=(ai n v).countP λx=>fr x==c
theorem IJ(h:Tree a)(b:List Sg):∀(n:Nat)(v:Tv)(f:List Ct),Deep n v->v∈ai 10 a->xD b a v f->CnO a (aq b [a]) v n (b7 b n v f)
 |0,v,f,k,_,_=>⟨λp d=>(by cases d),rfl,λc=>aP _⟩|n+1,v,f,k,r,m=>by
  have own:(aG f b.length).eB=ju v (aq b [a]):=by have:=(m.c b.length lr).1;grind
  have K:∀p∈v.ws.zipIdx,p.1∈v.ws/\CnO a (aq b [a]) p.1 n (b7 b n p.1 (cZ b v.d.kind v.ws.length p.2 p.1 f)):=λp d=>by obtain⟨c,j⟩:=p;have e:=List.mk_mem_zipIdx_iff_getElem?.1 d;obtain⟨l,e⟩:=List.getElem?_eq_some_iff.1 e;have g:c∈v.ws:=e▸bP l;refine⟨g,IJ h b n c _ (k c g) (gZ h.d r g) ?_⟩;grind[vo]
  rw[b7];refine⟨λp d=>?_,?_,λc=>?_⟩
  .rcases gU.1 d with y|y;.obtain⟨q,o,i⟩:=fE.1 y;obtain⟨B,s⟩:=K q o;obtain⟨t,w,z⟩:=s.m p i;grind[mi]
   grind[ai]
  .rw[fC,List.sum_append,lN,CI _ (λu=>((ai n u).map λu=>ju u (aq b [a])).sum) _ _ λp d=>(K p d).2.s,ai,List.map_cons,List.sum_cons,lN];grind
  rw[List.countP_append,countP_flatMap,ai,List.countP_cons,countP_flatMap];have A:=II (λp:Tv×Nat=>(b7 b n p.1 (cZ b v.d.kind v.ws.length p.2 p.1 f)).countP λp=>fr p.1==c) (λu=>(ai n u).countP λx=>fr x==c) v.ws 0 λp d=>(K p d).2.c c;grind
theorem rj.mem{o:Prop}:∀{j:List Tv}{a:Nat},rj (fI n) k o a j->∀c∈j,∃f g,a<=f/\g<=k/\fI n f g c/\(o\/0<=c.d.cl)
 |[],_,_,c,i=>by cases i|d::r,a,h,c,i=>by
  have h:(if 0<=d.d.cl then fI n a d.d.to d/\d.d.to<=k/\rj (fI n) k o d.d.to r else r=[]/\o/\fI n a k d):=h;by_cases b:0<=d.d.cl
  .rw[ae b]at h;rcases fU.1 i with e|e;.grind
   obtain⟨f,g,l,m⟩:=h.2.2.mem c e;exact⟨f,g,az (h.1.mid b) l,m⟩
  grind
theorem fI.af:∀{n a b:Nat}{v:Tv},fI n a b v->a<=v.d.af/\v.d.af<b|0,_,_,_,h=>h.elim|_+1,_,_,_,⟨c,d,_⟩=>⟨c,d⟩
theorem rj.two{o:Prop}:∀{e:List Tv}{a:Nat},rj (fI n) k o a e->e.Pairwise λc f=>0<=c.d.cl/\c.d.to<=f.d.af
 |[],_,_=>List.Pairwise.nil|d::r,a,h=>by
  have h:(if 0<=d.d.cl then fI n a d.d.to d/\d.d.to<=k/\rj (fI n) k o d.d.to r else r=[]/\o/\fI n a k d):=h;by_cases b:0<=d.d.cl;.rw[ae b]at h;refine List.Pairwise.cons (λc g=>⟨b,?_⟩) h.2.2.two;obtain⟨l,m,i,_,j,_⟩:=h.2.2.mem c g;exact az i j.af.1
  grind
theorem fI.all:∀{n a b:Nat}{v:Tv},fI n a b v->∀x∈ai n v,a<=x.d.af/\x.d.af<b/\v.d.af<=x.d.af/\(0<=v.d.cl->0<=x.d.cl/\x.d.af<x.d.to/\x.d.to<=v.d.to)/\(0<=x.d.cl->x.d.to<=b/\x.d.cl=if x.d.kind=1 then(x.d.to:Int)else(x.d.to:Int)-1)
 |0,_,_,_,h,_,_=>h.elim|n+1,a,b,v,⟨m,o,p,g⟩,x,d=>by
  have d:x∈v::v.ws.flatMap (ai n):=d;rcases fU.1 d with e|e;.grind
  obtain⟨c,i,f⟩:=fE.1 e;obtain⟨k,l,q,r,j,s⟩:=g.mem c i;obtain⟨t,u,w,y,z⟩:=j.all x f;grind
theorem fI.deep:∀{n a b:Nat}{v:Tv},fI n a b v->Deep n v|0,_,_,_,h=>h.elim|_+1,_,_,_,⟨_,_,_,d⟩=>λc e=>by obtain⟨_,_,_,_,f,_⟩:=d.mem c e;exact f.deep
theorem fI.Yx:∀{n a b:Nat}{v:Tv},fI n a b v->Fb n v
 |0,_,_,_,h=>h.elim|n+1,a,b,v,⟨_,_,_,d⟩=>by
  refine List.Pairwise.cons (λx i=>?_) (List.pairwise_flatMap.2 ⟨λc e=>?_,d.two.imp_of_mem λ{c k}e g h x i y hy=>?_⟩);.obtain⟨c,e,j⟩:=fE.1 i;obtain⟨m,q,r,_,f,_⟩:=d.mem c e;have:=(f.all x j).1;show v.d.af<x.d.af;omega
  .obtain⟨_,_,_,_,f,_⟩:=d.mem c e;exact f.Yx
  obtain⟨_,_,_,_,f,_⟩:=d.mem c e;obtain⟨_,_,_,_,l,_⟩:=d.mem k g;have o:=(f.all x i).2.2.2.1 h.1;have p:=(l.all y hy).2.2.1;show x.d.af<y.d.af;omega
theorem fI.tri:∀{n a b:Nat}{v:Tv},fI n a b v->n<=10->∀x∈ai n v,∀y∈ai n v,x∈ai 10 y\/y∈ai 10 x\/x.d.to<=y.d.af\/y.d.to<=x.d.af
 |0,_,_,_,h,_,_,_,_,_=>h.elim|n+1,a,b,v,⟨C,D,F,g⟩,H,x,t,y,hy=>by
  have G:Deep (n+1) v:=fI.deep (a:=a) (b:=b) ⟨C,D,F,g⟩;have K:∀{z},z∈ai (n+1) v->z∈ai 10 v:=λ{z}J=>by rw[du G H];exact J
  have m:x∈v::v.ws.flatMap (ai n):=t;have hy':y∈v::v.ws.flatMap (ai n):=hy;rcases fU.1 m with e|e;.grind
  rcases fU.1 hy' with l|l;.subst l;exact Y (K t)
  obtain⟨c,p,d⟩:=fE.1 e;obtain⟨B,f,Yy⟩:=fE.1 l;obtain⟨_,_,_,_,o,_⟩:=g.mem c p;obtain⟨_,_,_,_,u,_⟩:=g.mem B f;obtain⟨i,q,rfl⟩:=gR.1 p;obtain⟨j,r,rfl⟩:=gR.1 f;have s:=List.pairwise_iff_getElem.1 g.two;rcases Nat.lt_trichotomy i j with z|z|z;.have k:=s i j q r z;have w:=(o.all x d).2.2.2.1 k.1;have A:=(u.all y Yy).2.2.1;grind
  .subst z;exact o.tri om x d y Yy
  have k:=s j i r q z;have w:=(u.all y Yy).2.2.2.1 k.1;have A:=(o.all x d).2.2.1;grind
theorem fI.sub:∀{n a b:Nat}{v:Tv},fI n a b v->∀y∈ai n v,∃m a b,m<=n/\fI m a b y
 |0,_,_,_,h,_,_=>h.elim|n+1,a,b,v,h,y,hy=>by
  have hy':y∈v::v.ws.flatMap (ai n):=hy;rcases fU.1 hy' with e|e;.grind
  obtain⟨c,d,Yy⟩:=fE.1 e;obtain⟨_,_,_,_,k,_⟩:=h.2.2.2.mem c d;obtain⟨m,f,g,i,j⟩:=k.sub y Yy;grind
theorem fI.in(h:fI 10 n k a)(hy:c∈ai 10 a)(q:0<=c.d.cl)(g:l∈ai 10 c):c.d.af<=l.d.af/\l.d.af<l.d.to/\l.d.to<=c.d.to/\(l=c\/l.d.to<c.d.to):=by
 obtain⟨m,t,v,r,d⟩:=h.sub c hy;rw[du d.deep r]at g;have z:=d.all l g;have o:=z.2.2.2.1 q;refine⟨z.2.2.1,o.2.1,o.2.2,?_⟩;cases m with|zero=>exact d.elim|succ m=>
  obtain⟨_,_,w,p⟩:=d;rw[ae q]at p;have i:l∈c::c.ws.flatMap (ai m):=g;rcases fU.1 i with e|e;.exact Y e
  obtain⟨b,f,j⟩:=fE.1 e;obtain⟨_,_,_,x,s,_⟩:=p.mem b f;have u:=((s.all l j).2.2.2.2 o.1).1;grind
theorem fI.UE(h:fI 10 n k a)(d:c∈ai 10 a)(hy:l∈ai 10 a)(f:0<=c.d.cl)(g:0<=l.d.cl)(e:c.d.to=l.d.to):c=l:=by
 have s:∀z∈ai 10 a,0<=z.d.cl->z.d.af<z.d.to:=λz i j=>(h.in i j (bq (vp h.deep h.Yx i lr).2)).2.1;rcases h.tri lr c d l hy with b|b|b|b
 .rcases(h.in hy g b).2.2.2 with z|z;.exact z
  omega
 .rcases(h.in d f b).2.2.2 with z|z;.exact z.symm
  omega
 .have:=s l hy g;omega
 have:=s c d f;omega
theorem nest:∀{n:Nat}{t u v x:Tv},Deep n t->Fb n t->n<=10->u∈ai n t->v∈ai n t->x∈ai 10 u->x∈ai 10 v->u∈ai 10 v\/v∈ai 10 u
 |0,_,_,_,_,h,_,_,_,_,_,_=>h.elim|n+1,t,u,v,x,j,A,B,q,r,f,g=>by
  have s:∀{z},z∈ai (n+1) t->z∈ai 10 t:=λ{z}C=>by rw[du j B];exact C
  have l:u∈t::t.ws.flatMap (ai n):=q;have m:v∈t::t.ws.flatMap (ai n):=r;rcases fU.1 l with e|e;.subst e;exact I (s r)
  rcases fU.1 m with k|k;.subst k;exact Y (s q)
  have p:=(List.pairwise_cons.1 (show(t::t.ws.flatMap (ai n)).Pairwise _ from A)).2;obtain⟨c,i,b⟩:=fE.1 e;obtain⟨o,a,d⟩:=fE.1 k;have w:=mj (j c i) b f om;have y:=mj (j o a) d g om;have:c=o:=UF p i a w y rfl;subst this;exact nest (j c i) ((List.pairwise_flatMap.1 p).1 c i) om b d f g
def tT(a:List Sg):Nat->Tv->List Ct->List (Tv×Nat)|0,_,_=>[]|n+1,v,b=>if 0<=v.d.cl then b7 a (n+1) v b else if ay a<a.length/\0<(aG b (ay a)).eB then[]else v.ws.zipIdx.flatMap λp=>tT a n p.1 (cZ a v.d.kind v.ws.length p.2 p.1 b)
def UG(p q:Tv×Nat):Prop:=p.1.d.to<q.1.d.to
variable{f:List Tv}
theorem kY{p:Tv×Nat}(a:p∈f.zipIdx):∃h:p.2<f.length,f[p.2]=p.1:=by grind
theorem CJ{R:Tv->Tv->Prop}(h:f.Pairwise R):f.zipIdx.Pairwise λp q=>R p.1 q.1:=by have e:f.zipIdx.map Prod.fst=f:=si;grind
theorem nC(d:List Sg):∀(n:Nat)(v:Tv)(c:List Ct),∀p∈b7 d n v c,p.1∈ai n v
 |0,_,_,p,a=>by cases a|n+1,v,c,p,a=>by
  rw[b7]at a;show p.1∈v::v.ws.flatMap (ai n);rcases gU.1 a with y|y;.obtain⟨q,g,b⟩:=fE.1 y;obtain⟨f,e⟩:=kY g;exact f_ _ (fE.2 ⟨q.1,e▸bP f,nC d n _ _ p b⟩)
  grind
theorem vq(i:List Sg):∀{n a b:Nat}{v:Tv}(g:List Ct),fI n a b v->∀p∈tT i n v g,p.1∈ai n v/\0<=p.1.d.cl/\p.1.d.af<p.1.d.to
 |0,_,_,_,_,h,_,_=>h.elim|n+1,a,b,v,g,h,p,c=>by
  rw[tT]at c;by_cases d:0<=v.d.cl;.rw[ae d]at c;have k:=nC i (n+1) v g p c;have:=(h.all _ k).2.2.2.1 d;exact⟨k,this.1,this.2.1⟩
  rw[aa d]at c;split at c;.cases c
  obtain⟨q,m,f⟩:=fE.1 c;obtain⟨j,e⟩:=kY m;have l:q.1∈v.ws:=e▸bP j;obtain⟨_,_,_,_,o,_⟩:=h.2.2.2.mem _ l;obtain⟨r,s⟩:=vq i _ o p f;grind[mi]
theorem CK(i:List Sg):∀{n a b:Nat}{v:Tv}(u:List Ct),fI n a b v->0<=v.d.cl->(b7 i n v u).Pairwise UG
 |0,_,_,_,_,h,_=>h.elim|n+1,a,b,v,u,h,t=>by
  obtain⟨F,G,A,c⟩:=h;rw[ae t]at c;rw[b7];refine List.pairwise_append.2 ⟨List.pairwise_flatMap.2 ⟨λq f=>?_,(CJ c.two).imp_of_mem λ{q H}f o k x p y hy=>?_⟩,?_,λx p y hy=>?_⟩;.obtain⟨d,e⟩:=kY f;obtain⟨_,_,_,_,g,s⟩:=c.mem _ (e▸bP d);exact CK i _ g (s.resolve_left om)
  .obtain⟨d,e⟩:=kY f;obtain⟨m,z⟩:=kY o;obtain⟨_,_,_,_,g,_⟩:=c.mem _ (e▸bP d);obtain⟨_,_,_,_,B,C⟩:=c.mem _ (z▸bP m);have j:=(g.all _ (nC i _ _ _ x p)).2.2.2.1 k.1;have l:=B.all _ (nC i _ _ _ y hy);have w:=l.2.2.2.1 (C.resolve_left om);show x.1.d.to<y.1.d.to;omega
  .split;.grind
   exact List.Pairwise.nil
  obtain⟨q,f,r⟩:=fE.1 p;obtain⟨d,e⟩:=kY f;obtain⟨_,_,_,J,g,s⟩:=c.mem _ (e▸bP d);have j:=g.all _ (nC i _ _ _ x r);have l:=j.2.2.2.1 (s.resolve_left om);have w:=(j.2.2.2.2 l.1).1;have D:=A t;split at hy;.rw[dy.1 hy];show x.1.d.to<v.d.to;omega
  cases hy
theorem IK(f:List Sg):∀{n a b:Nat}{v:Tv}(o:List Ct),fI n a b v->(tT f n v o).Pairwise UG
 |0,_,_,_,_,h=>h.elim|n+1,a,b,v,o,h=>by
  rw[tT];by_cases s:0<=v.d.cl;.grind[CK]
  rw[aa s];split;.exact List.Pairwise.nil
  obtain⟨B,C,D,c⟩:=h;refine List.pairwise_flatMap.2 ⟨λq j=>?_,(CJ c.two).imp_of_mem λ{q F}j l k x t y hy=>?_⟩;.obtain⟨g,e⟩:=kY j;obtain⟨_,_,_,_,d,_⟩:=c.mem _ (e▸bP g);exact IK f _ d
  obtain⟨g,e⟩:=kY j;obtain⟨i,r⟩:=kY l;obtain⟨_,_,_,_,d,_⟩:=c.mem _ (e▸bP g);obtain⟨_,_,_,_,m,_⟩:=c.mem _ (r▸bP i);have u:=(d.all _ (vq f _ d x t).1).2.2.2.1 k.1;obtain⟨p,z,A⟩:=vq f _ m y hy;have w:=(m.all _ p).2.2.1;show x.1.d.to<y.1.d.to;omega
theorem CP(h:Tree a)(b:List Sg):∀(n:Nat)(v:Tv)(d:List Ct),Deep n v->v∈ai 10 a->xD b a v d->∀u∈ai n v,0<ju u (aq b [a])->(u,ju u (aq b [a]))∈b7 b n v d
 |0,_,_,g,_,_,_,_,_=>g.elim|n+1,v,d,g,o,m,u,i,p=>by
  rw[b7];have i:u∈v::v.ws.flatMap (ai n):=i;rcases fU.1 i with e|e
  .subst e;have own:(aG d b.length).eB=ju u (aq b [a]):=by have:=(m.c b.length lr).1;grind
   grind
  obtain⟨c,f,k⟩:=fE.1 e;obtain⟨j,l,rfl⟩:=gR.1 f;refine List.mem_append_left _ (fE.2 ⟨(v.ws[j],j),List.mk_mem_zipIdx_iff_getElem?.2 (fB l),?_⟩);exact CP h b n _ _ (g _ f) (gZ h.d o f) (vo h o m l) u k p
theorem nD(h:Tree a)(d:∀u∈f,u∈ai 10 a)(g:c∈ai 10 a):0<ju c f↔c∈f:=by
 unfold ju;rw[List.countP_pos_iff];constructor;.rintro⟨u,b,e⟩;have:u=c:=gD h.a (d u b) g (by simpa using e);rw[<-this];exact b
 grind
structure HoA(xs:List Sg)(t:Tv)(h:Tv->Tv):Prop where
 no:¬ay xs<xs.length->∀v,h v=v
 is:ay xs<xs.length->∀v∈aq xs [t],h v∈aq (xs.take (ay xs)) [t]/\v∈ai 10 (h v)/\∀u∈aq (xs.take (ay xs)) [t],v∈ai 10 u->(h v).d.af<=u.d.af
def NA(a:List Sg)(t v:Tv):Prop:=ay a<a.length->∀u∈aq (a.take (ay a)) [t],v∈ai 10 u->v=u
theorem ke(h:Tree a)(b:List Sg):∀x∈aq b [a],x∈ai 10 a:=jv h b [a] λu c=>by rw[dy.1 c];exact bq h.d
theorem IL {t:Tv} {xs:List Sg} {h:Tv->Tv} (ht:Tree t) (hh:HoA xs t h):∀{n a b:Nat} {v:Tv} {tl:List Ct},fI n a b v->n<=10->v ∈ ai 10 t->xD xs t v tl->NA xs t v->∀p:Tv×Nat,p ∈ tT xs n v tl↔p.1 ∈ ai n v/\p.1 ∈ aq xs [t]/\p.2=ju p.1 (aq xs [t])/\0<=(h p.1).d.cl
 | 0,_,_,_,_,hs,_,_,_,_,_=>hs.elim
 | n+1,a,b,v,tl,hs,hn,hv,hk,hna,p=>by
  have up:∀{z},z ∈ ai (n+1) v->z ∈ ai 10 v:=λ{z} hz=>by rw [du hs.deep hn]; exact hz
  have upt:∀{z},z ∈ ai (n+1) v->z ∈ ai 10 t:=λ{z} hz=>ht.mem hv (up hz)
  have hN:=ke ht xs
  have hH:=ke ht (xs.take (ay xs))
  have dn:∀{z},z ∈ ai 10 v->z ∈ ai (n+1) v:=λ{z} hz=>by rw [<-du hs.deep hn]; exact hz
  have hd:(aG tl (ay xs)).eB=ju v (aq (xs.take (ay xs)) [t]):=by
   by_cases y:ay xs<=xs.length
   ·exact (hk.c _ y).1
   exact absurd List.findIdx_le_length y
  -- the holder of a node within this value is this value, or within it
  have key:ay xs<xs.length->∀x ∈ ai (n+1) v,x ∈ aq xs [t]->h x ∈ ai (n+1) v:=λhl x hx hxN=>by
   obtain ⟨k1,k2,_⟩:=hh.is hl x hxN
   rcases nest ht.d ht.a lr (hH _ k1) hv k2 (up hx) with y | y
   ·exact dn y
   rw [<-hna hl _ k1 y]; exact bq hs.deep
  rw [tT]
  by_cases hc:0<=v.d.cl
  ·rw [ae hc]
   constructor
   ·intro hp
    obtain ⟨m1,m2,m3⟩:=(IJ ht xs (n+1) v tl hs.deep hv hk).m p hp
    have hp2:p.1 ∈ aq xs [t]:=(nD ht hN (upt m1)).1 (m2▸m3)
    refine ⟨m1,hp2,m2,?_⟩
    by_cases hl:ay xs<xs.length
    ·exact ((hs.all _ (key hl _ m1 hp2)).2.2.2.1 hc).1
    rw [hh.no hl]; exact ((hs.all _ m1).2.2.2.1 hc).1
   rintro ⟨m1,m2,m3,_⟩
   obtain ⟨u,k⟩:=p
   simp only at m1 m2 m3
   rw [m3]
   exact CP ht xs (n+1) v tl hs.deep hv hk u m1 ((nD ht hN (upt m1)).2 m2)
  rw [aa hc]
  by_cases hq:ay xs<xs.length/\0<(aG tl (ay xs)).eB
  ·rw [ae hq]
   refine ⟨λy=>(by cases y),?_⟩
   rintro ⟨m1,m2,_,m4⟩
   have hvH:v ∈ aq (xs.take (ay xs)) [t]:=(nD ht hH hv).1 (hd▸hq.2)
   have k1:=key hq.1 _ m1 m2
   have k2:=(hh.is hq.1 _ m2).2.2 v hvH (up m1)
   have k3:=(hs.all _ k1).2.2.1
   have:h p.1=v:=gD ht.a (upt k1) hv (by show (h p.1).d.af=v.d.af; omega)
   grind
  rw [aa hq]
  have nv:ay xs<xs.length->v ∉ aq (xs.take (ay xs)) [t]:=λhl hm=>hq ⟨hl,by rw [hd]; exact (nD ht hH hv).2 hm⟩
  obtain ⟨_,_,_,h4⟩:=id hs
  have K:∀j (hj:j<v.ws.length),(∀p:Tv×Nat,p ∈ tT xs n v.ws[j] (cZ xs v.d.kind v.ws.length j v.ws[j] tl)↔p.1 ∈ ai n v.ws[j]/\p.1 ∈ aq xs [t]/\p.2=ju p.1 (aq xs [t])/\0<=(h p.1).d.cl):=λj hj=>by
   have hm:=bP hj
   obtain ⟨_,_,_,_,q3,_⟩:=h4.mem _ hm
   have hct:=gZ ht.d hv hm
   refine IL ht hh q3 om hct (vo ht hv hk hj) (λhl u hu hcu=>?_)
   rcases vr hcu with y | ⟨r,hr,hcr⟩
   ·exact y
   have Yz:=ht.mem (hH u hu) hr
   have:r=v:=gD ht.a Yz hv (nF ht.d ht.a Yz hv hcr hm rfl)
   subst this
   have:=hna hl u hu hr
   grind
  constructor
  ·grind (splits:=30) [NA,dz.late,Sg.late,rj,fI,ai,dX,b7,aG,fM,fr,ay,aq,ju,tT,dB,cq,bn,jc,cZ]
  rintro ⟨m1,m2,m3,m4⟩
  have m1':p.1 ∈ v::v.ws.flatMap (ai n):=m1
  rcases fU.1 m1' with e | e
  ·exfalso
   by_cases hl:ay xs<xs.length
   ·obtain ⟨k1,k2,_⟩:=hh.is hl _ m2
    have k3:=hna hl _ k1 (e▸k2)
    exact nv hl (k3▸k1)
   rw [hh.no hl,e] at m4; exact hc m4
  obtain ⟨c,hcm,hxc⟩:=fE.1 e
  obtain ⟨j,hj,rfl⟩:=gR.1 hcm
  exact fE.2 ⟨(v.ws[j],j),List.mk_mem_zipIdx_iff_getElem?.2 (fB hj),(K j hj p).2 ⟨hxc,m2,m3,m4⟩⟩
theorem tU{c:Type}{R:c->c->Prop}(j:∀a,¬R a a)(k:∀a b,R a b->¬R b a):∀{l m:List c},l.Pairwise R->m.Pairwise R->(∀x,x∈l↔x∈m)->l=m
 |[],[],_,_,_=>rfl|[],b::m,_,_,h=>absurd ((h b).2 dT) si|a::l,[],_,_,h=>absurd ((h a).1 dT) si|a::l,b::m,g,i,h=>by
  obtain⟨n,d⟩:=List.pairwise_cons.1 g;obtain⟨o,f⟩:=List.pairwise_cons.1 i;have e:a=b:=by
   rcases fU.1 ((h a).1 dT)with x|x;.exact x
   rcases fU.1 ((h b).2 dT)with y|y;.exact y.symm
   grind
  subst e;rw[tU j k d f λx=>?_];grind
variable{z:Tv->Tv}
theorem YA(j:fI 10 n k a)(o:HoA b a z)(D:c∈aq b [a])(C:l∈aq b [a])(m:0<=(z c).d.cl)(i:0<=(z l).d.cl)(B:c.d.to<l.d.to):(z c).d.cl<=(z l).d.cl:=by
 have h:Tree a:=⟨j.deep,j.Yx⟩;have H:=ke h b;have e:=ke h (b.take (ay b));have s:∀x∈ai 10 a,0<=x.d.cl->x.d.cl=if x.d.kind=1 then(x.d.to:Int)else(x.d.to:Int)-1:=λx r q=>((j.all x r).2.2.2.2 q).2;by_cases p:ay b<b.length
 .obtain⟨g,t,F⟩:=o.is p c D;obtain⟨f,u,v⟩:=o.is p l C;have sub:∀{y x},y∈ai 10 a->0<=y.d.cl->x∈ai 10 y->y.d.af<=x.d.af/\x.d.af<x.d.to/\x.d.to<=y.d.to:=λhy q r=>have d:=j.in hy q r;⟨d.1,d.2.1,d.2.2.1⟩;have J:=sub (e _ g) m t;have K:=sub (e _ f) i u;have L:=sub (e _ f) i (bq (h.of (e _ f)).d);have c1:=s _ (e _ g) m;have c2:=s _ (e _ f) i;rcases j.tri lr _ (e _ g) _ (e _ f)with y|y|y|y;.have G:=v _ g;have w:=F _ f ((h.of (e _ f)).mem y t);have A:=(sub (e _ f) i y).1;have:z c=z l:=gD h.a (e _ g) (e _ f) (by show(z c).d.af=(z l).d.af;omega);rw[this];exact Int.le_refl _
  .have w:=v _ g ((h.of (e _ g)).mem y u);have A:=(sub (e _ g) m y).1;have:z c=z l:=gD h.a (e _ g) (e _ f) (by show(z c).d.af=(z l).d.af;omega);rw[this];exact Int.le_refl _
  .grind
  omega
 rw[o.no p]at m i⊢;rw[o.no p];grind
def jV(a:List Sg):Int:=if ay a<a.length then(ay a:Nat)else-1
def c_(A:Nat->Nat)(u v:Tv):Bool:=A v.d.af==A u.d.af
def cP(A:Nat->Nat)(L:List Tv):List Tv:=L.foldl (λout u=>if out.any (c_ A u)=true then out else out++[u]) []
theorem Ai(A:Nat->Nat)(L:List Tv)(u:Tv):cP A (L++[u])=if(cP A L).any (c_ A u)=true then cP A L else cP A L++[u]:=by grind[cP]
theorem kZ(A:Nat->Nat)(h:n<f.length):cP A (f.take (n+1))=if(cP A (f.take n)).any (c_ A f[n])=true then cP A (f.take n)else cP A (f.take n)++[f[n]]:=by rw[eC h,Ai]
theorem oK(A:Nat->Nat)(L:List Tv):∀j,j<=L.length->(cP A (L.take j)).length<=j|0,_=>aP _|j+1,h=>by have:=oK A L j om;grind[kZ]
theorem kE(A:Nat->Nat)(L:List Tv):∀j,j<=L.length->∀u∈cP A (L.take j),u∈L
 |0,_,_,a=>by cases a|j+1,h,u,a=>by
  rw[kZ A h]at a;split at a;.exact kE A L j om u a
  rcases gU.1 a with x|x;.exact kE A L j om u x
  grind
def jn(u:Tv)(b:Option Tv)(a:Bool):Option Tv:=if a=true/\(∀x,b=some x->u.d.af<x.d.af)then some u else b
def kg(A:Nat->Nat)(v:Tv)(L:List Tv):Option Tv:=L.foldl (λb u=>jn u b ((ai 10 u).any (c_ A v))) none
theorem oL(A:Nat->Nat)(v:Tv)(h:n<f.length):kg A v (f.take (n+1))=jn f[n] (kg A v (f.take n)) ((ai 10 f[n]).any (c_ A v)):=by unfold kg;rw[eC h,List.foldl_append];rfl
theorem nG(A:Nat->Nat)(v:Tv)(L:List Tv):∀j,j<=L.length->∀u,kg A v (L.take j)=some u->u∈L
 |0,_,_,a=>by cases a|j+1,h,u,a=>by
  rw[oL A v h]at a;unfold jn at a;split at a;.grind
  exact nG A v L j om u a
theorem Aj(u:Tv)(b:Option Tv)(x:Bool)(a:Bool):jn u (jn u b x) a=jn u b (x||a):=by grind(splits:=30)[jn]
theorem IM(u:Tv)(b:Option Tv):jn u b false=b:=aa λh=>by cases h.1
theorem IN(u:Tv):jn u none true=some u:=ae ⟨rfl,λ_ h=>by cases h⟩
theorem CQ(h:a.d.af<c.d.af):jn a (some c) true=some a:=ae ⟨rfl,λy e=>by cases e;exact h⟩
theorem CT(h:¬a.d.af<c.d.af):jn a (some c) true=some c:=aa λk=>h (k.2 c rfl)
structure Td where
 v:Tv
 n:Nat
 ab:Int
def vs(A:Nat->Nat)(v:Tv)(x:Td):Bool:=A x.v.d.af==A v.d.af
def vt(A:Nat->Nat)(v:Tv)(x:Td):Td:=if vs A v x=true then{x with n:=x.n+1}else x
def UH(A:Nat->Nat)(h:Tv->Tv)(l:List Td)(v:Tv):List Td:=if l.any (vs A v)=true then l.map (vt A v)else if 0<=(h v).d.cl then l++[⟨v,1,(h v).d.cl⟩]else l
def tf(A:Nat->Nat)(h:Tv->Tv)(N:List Tv):List Td:=N.foldl (UH A h) []
def mI(x y:Td):Prop:=x.ab<y.ab\/(x.ab=y.ab/\x.v.d.to<y.v.d.to)
theorem nH(A:Nat->Nat)(h:Tv->Tv)(a:n<f.length):tf A h (f.take (n+1))=UH A h (tf A h (f.take n)) f[n]:=by unfold tf;rw[eC a,List.foldl_append];rfl
theorem OH(A:Nat->Nat)(h:Tv->Tv)(l:List Td)(v:Tv):(UH A h l v).length<=l.length+1:=by grind(splits:=30)[UH]
theorem CV(A:Nat->Nat)(h:Tv->Tv)(N:List Tv):∀j,j<=N.length->(tf A h (N.take j)).length<=j|0,_=>aP _|j+1,a=>by have:=CV A h N j om;grind[OH,nH,tf]
variable{d:List Td}
theorem UI{A:Nat->Nat}{P:Tv->Nat->Int->Prop}(c:∀x∈d,P x.v x.n x.ab)(b:∀x∈d,P x.v (x.n+1) x.ab)(e:0<=(z a).d.cl->P a 1 (z a).d.cl):∀x∈UH A z d a,P x.v x.n x.ab:=by grind(splits:=30)[UH,vt]
theorem IQ{A:Nat->Nat}{h:Tv->Tv}{S:Tv->Prop}{B:Int}(g:∀v∈f,S v)(e:∀v∈f,(h v).d.cl<=B):∀j,j<=f.length->∀x∈tf A h (f.take j),S x.v/\x.n<=j/\0<=x.ab/\x.ab<=B|0,_,x,c=>by cases c|j+1,d,x,c=>by rw[nH A h d]at c;have b:=IQ (A:=A) g e j om;exact UI (P:=λv n a=>S v/\n<=j+1/\0<=a/\a<=B) (λy hy=>⟨(b y hy).1,by have:=(b y hy).2.1;omega,(b y hy).2.2⟩) (λy hy=>⟨(b y hy).1,by have:=(b y hy).2.1;omega,(b y hy).2.2⟩) (λi=>⟨g _ (bP d),om,i,e _ (bP d)⟩) x c
def Ord(l:List Td)(j:Nat):Prop:=∀a b(c:a<l.length)(d:b<l.length),a<j->a<b->¬mI l[b] l[a]
def qj(l:List Td)(j m:Nat):Prop:=∀b(c:j<l.length)(a:b<l.length),j<b->b<m->¬mI l[b] l[j]
theorem IS(h:Ord d n)(a:qj d n d.length):Ord d (n+1):=by grind(splits:=30)[Ord,qj,mI]
theorem IT(b:n<d.length)(c:k<d.length)(a:qj d n k)(h:¬mI d[k] d[n]):qj d n (k+1):=by grind(splits:=30)[qj,mI]
def swp(l:List Td)(j m:Nat)(a:j<l.length)(b:m<l.length):List Td:=(l.set j l[m]).set m l[j]
theorem CW(a:n<d.length)(c:k<d.length)(b:Nat)(e:b<(swp d n k a c).length):(swp d n k a c)[b]=if b=k then d[n]else if b=n then d[k]else d[b]'(by simpa[swp]using e):=by grind(splits:=30)[swp]
theorem CX(l:List Td)(j m:Nat)(a:j<l.length)(b:m<l.length):(swp l j m a b).length=l.length:=by simp[swp]
theorem OI(e:n<d.length)(f:k<d.length)(l:n<k)(h:Ord d n):Ord (swp d n k e f) n:=by
 intro a b c g j m;have i:(swp d n k e f)[a]=d[a]'(by rw[CX]at c;exact c):=by rw[CW e f a c,aa om,aa om]
 rw[i,CW e f b g];rw[CX]at c g;split;.exact h a n c e j om
 grind(splits:=30)[Ord,swp,mI]
theorem IU(a:n<d.length)(c:k<d.length)(b:n<k)(e:qj d n k)(h:mI d[k] d[n]):qj (swp d n k a c) n (k+1):=by grind(splits:=30)[qj,swp,mI]
theorem IW(a:n<d.length)(b:k<d.length):(swp d n k a b).Perm d:=List.set_set_perm a b
