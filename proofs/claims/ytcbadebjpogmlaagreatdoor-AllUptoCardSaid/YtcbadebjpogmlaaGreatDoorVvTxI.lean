import Derived.Test.YtcbadebjpogmlaaGreatDoorVvSa
namespace Tr
variable{c r:List UInt8}{n k i m t z:Nat}
theorem ik(h:bt c n=k)(a:k<256):n<c.length:=cQ om
theorem wM{s:List UInt8}:∀(n i:Nat)(a:List UInt8),i<=s.length->i<=(dP s n i a).p/\(dP s n i a).p<=s.length/\((dP s n i a).e=0->i<(dP s n i a).p)
 |0,i,a,h=>⟨aP _,h,λh=>by cases h⟩|n+1,i,a,h=>by
  unfold dP;split;.grind(splits:=30)[bt,dP]
  split
  .rename_i c;have d:=ik c de;split
   .rename_i b;have e:i+1<s.length:=by rcases b with b|b<;>exact ik b de
    have:=wM (s:=s) n (i+2) (a++[UInt8.ofNat (bt s (i+1))]) om;grind
   grind
  split;.grind
  rename_i c d b;have e:i<s.length:=cQ om;have:=wM (s:=s) n (i+1) (a++[UInt8.ofNat (bt s i)]) om;grind
theorem j_{s:List UInt8}{i:Nat}(h:i<=s.length):i<=(aM s i).p/\(aM s i).p<=s.length/\((aM s i).e=0->i<(aM s i).p):=by
 unfold aM;split;.rename_i a;have b:=ik a de;grind[wM]
 grind
theorem sT:∀(n i:Nat)(a:List UInt8),a.length<=i->i<=c.length->(dP c n i a).t.length<=c.length
 |0,i,a,_,_=>by simp[dP]|n+1,i,a,h,g=>by
  unfold dP;split;.simp;omega
  split
  .rename_i d;split
   .rename_i b;have e:i+1<c.length:=by rcases b with b|b<;>exact ik b de
    exact sT n (i+2) _ (by simp;omega) om
   simp
  split;.simp
  rename_i d f b;have e:i<c.length:=cQ om;exact sT n (i+1) _ (by simp;omega) om
theorem MO{s:List UInt8}{i:Nat}:(aM s i).t.length<=s.length:=by
 unfold aM;split;.rename_i a;have b:=ik a de;grind[sT]
 simp
theorem ED{s:List UInt8}:∀(l:List Nat)(i:Nat),(∀c∈l,c<256)->i<=s.length->i<=dC s l i/\dC s l i<=s.length
 |[],i,_,h=>⟨aP _,h⟩|c::l,i,a,h=>by
  unfold dC;split;.rename_i b;have e:=ik b (a c si);have:=ED (s:=s) l (i+1) (λc d=>a c (by simp[d])) om;omega
  exact⟨aP _,h⟩
theorem zH(h:n<=c.length):n<=dF c n/\dF c n<=c.length:=by grind(splits:=30)[bt,dF]
theorem Cd{s:List UInt8}{i:Nat}(h:i<=s.length)(a:qF s i=true):i<lJ s i/\lJ s i<=s.length:=by grind[cQ,zH,fN,oo,bt,O,dF,qF,lJ,run]
theorem EF{s:List UInt8}{nm pt:List UInt8}{Ca:Nat}(h:n<s.length):n<=(iC s nm pt Ca n).p/\(iC s nm pt Ca n).p<=s.length/\((iC s nm pt Ca n).e=0->n<(iC s nm pt Ca n).p)/\(∀t∈(iC s nm pt Ca n).ws,t.d.af=n/\t.ws=[]/\(iC s nm pt Ca n).e=0):=by
 unfold iC;split;.grind[j_]
 split;.grind(splits:=30)[bt,i_,dC,da,O,dF,qF,lJ,lO,run,iC,dP,aM,sC,sD,bM,su]
 grind[zH,Cd]
def df(s:List UInt8)(n a:Nat)(b:List UInt8)(k i m:Nat):Rs:=if k=4 then rd s n false (a+1) [] (b++[91]++dec m++[93]) 4 i []else if(aM s (sk s i)).e≠0 then⟨[],(aM s (sk s i)).e,(aM s (sk s i)).p⟩else if bt s (sk s (aM s (sk s i)).p)=58 then rd s n false (a+1) (aM s (sk s i)).t (b++[91]++h_ (aM s (sk s i)).t++[93]) 5 (sk s (aM s (sk s i)).p+1) []else⟨[],2,sk s (aM s (sk s i)).p⟩
theorem mF(s:List UInt8)(n b:Nat)(d c:List UInt8)(k i:Nat)(a:List Tv):rd s (n+1) true b d c k i a=if(df s n b c k i a.length).e≠0 then⟨a++(df s n b c k i a.length).ws,(df s n b c k i a.length).e,(df s n b c k i a.length).p⟩else if bt s (sk s (df s n b c k i a.length).p)=44 then rd s n true b [] c k (sk s (df s n b c k i a.length).p+1) (a++(df s n b c k i a.length).ws)else if bt s (sk s (df s n b c k i a.length).p)=bW k then⟨a++(df s n b c k i a.length).ws,0,sk s (df s n b c k i a.length).p+1⟩else⟨a++(df s n b c k i a.length).ws,2,sk s (df s n b c k i a.length).p⟩:=rfl
def oF(s:List UInt8)(n a:Nat)(b:List UInt8)(k i:Nat):Rs:=if bt s (sk s i)=bW k then⟨[],0,sk s i+1⟩else rd s n true a [] b k (sk s i) []
theorem rd_val(s:List UInt8)(n b:Nat)(c a:List UInt8)(k i:Nat)(d:List Tv):rd s (n+1) false b c a k i d=if bt s (sk s i)=256 then⟨[],2,sk s i⟩else if bt s (sk s i)=91\/bt s (sk s i)=123 then(if 8<b then⟨[],3,sk s i⟩else held (if bt s (sk s i)=91 then 4 else 5) c a (sk s i) (oF s n b a (if bt s (sk s i)=91 then 4 else 5) (sk s i+1)))else iC s c a k (sk s i):=rfl
theorem iY(k:Nat):bW k<256:=by unfold bW;split<;>decide
structure Fwd(s:List UInt8)(i:Nat)(R:Rs):Prop where
 ge:i<=R.p
 le:R.p<=s.length
 gt:R.e=0->i<R.p
theorem jM{s:List UInt8}:∀(n:Nat)(b:Bool)(c:Nat)(q a:List UInt8)(k i:Nat)(f:List Tv),i<=s.length->Fwd s i (rd s n b c q a k i f)
 |0,_,_,_,_,_,i,_,h=>⟨aP _,h,λh=>by cases h⟩|n+1,false,c,q,a,k,i,f,h=>by
  have p:=e_ s i;have m:=gB h;rw[rd_val];split;.exact⟨p,m,λh=>by cases h⟩
  rename_i t;have r:sk s i<s.length:=by grind[jC]
  split
  .split;.exact⟨p,m,λh=>by cases h⟩
   have d:Fwd s (sk s i+1) (oF s n c a (if bt s (sk s i)=91 then 4 else 5) (sk s i+1)):=by
    have g:=e_ s (sk s i+1);have o:=gB (s:=s) (i:=sk s i+1) om;generalize(if bt s (sk s i)=91 then 4 else 5)=x;unfold oF;split;.rename_i u;have:=ik u (iY _);exact⟨by simp;omega,this,λ_=>by simp;omega⟩
    have:=jM n true c [] a x (sk s (sk s i+1)) [] o;exact⟨az g this.ge,this.le,λe=>Nat.lt_of_le_of_lt g (this.gt e)⟩
   exact⟨by have:=d.ge;show i<=_;unfold held;simp;omega,d.le,λ_=>by have:=d.ge;show i<_;unfold held;simp;omega⟩
  have:=EF (s:=s) (nm:=q) (pt:=a) (Ca:=k) r;exact⟨om,this.2.1,λe=>by have:=this.2.2.1 e;omega⟩|n+1,true,c,q,a,k,i,f,h=>by
  have d:Fwd s i (df s n c a k i f.length):=by
   unfold df;split;.exact jM n false _ _ _ _ _ _ h
   have p:=e_ s i;have m:=gB h;have g:=j_ m;split;.rename_i l;exact⟨by simp;omega,g.2.1,λe=>absurd e l⟩
   rename_i l;have o:=g.2.2 (by simpa using l);have u:=e_ s (aM s (sk s i)).p;have v:=gB g.2.1;split;.rename_i w;have:=ik w de;have j:=jM (s:=s) n false (c+1) (aM s (sk s i)).t (a++[91]++h_ (aM s (sk s i)).t++[93]) 5 (sk s (aM s (sk s i)).p+1) [] om;exact⟨by have:=j.ge;omega,j.le,λ_=>by have:=j.ge;omega⟩
   exact⟨by simp;omega,v,λh=>by cases h⟩
  rw[mF];have p:=e_ s (df s n c a k i f.length).p;have m:=gB d.le;split;.rename_i l;exact⟨d.ge,d.le,λe=>absurd e l⟩
  rename_i l;have g:=d.gt (by simpa using l);split;.rename_i o;have:=ik o de;have j:=jM (s:=s) n true c [] a k (sk s (df s n c a k i f.length).p+1) (f++(df s n c a k i f.length).ws) om;exact⟨by have:=j.ge;omega,j.le,λ_=>by have:=j.ge;omega⟩
  split;.rename_i o;have:=ik o (iY _);exact⟨by simp;omega,this,λ_=>by simp;omega⟩
  exact⟨by simp;omega,m,λh=>by cases h⟩
theorem Cc{s:List UInt8}(n a:Nat)(b c:List UInt8)(k i:Nat)(d:List Tv):(rd s (n+1) false a b c k i d).ws=[]\/∃t,(rd s (n+1) false a b c k i d).ws=[t]/\t.d.af=sk s i:=by grind(splits:=30)[bt,dec,qk,i_,bW,dC,hJ,da,held,cm,O,dF,qF,lJ,lO,h_,rd,run,iC,sk,dP,aM,sC,sD,bM,su]
theorem vr:∀{n:Nat}{u x:Tv},x∈ai n u->x=u\/∃p∈ai n u,x∈p.ws
 |0,_,_,h=>by cases h|n+1,u,x,h=>by
  have h:x∈u::u.ws.flatMap (ai n):=h;rcases fU.1 h with e|e;.exact Y e
  obtain⟨k,d,a⟩:=fE.1 e;right;rcases vr a with c|⟨p,f,b⟩;.grind(splits:=30)[ai]
  grind[mi]
variable{a b f:Tv}
theorem Rx{l:List dz}(h:b∈fM l a):b∈a.ws:=by grind(splits:=30)[fM,cq]
variable{l:Sg}
theorem Ry(c:Deep 10 a)(h:b∈dB l a):∃p∈ai 10 a,b∈p.ws:=by grind[Rx,bq,dB]
structure Tree(t:Tv):Prop where
 d:Deep 10 t
 a:Fb 10 t
theorem Tree.of(h:Tree a)(c:b∈ai 10 a):Tree b:=⟨(vp h.d h.a c lr).2,(vp h.d h.a c lr).1⟩
theorem Tree.mem(h:Tree a)(c:b∈ai 10 a)(d:f∈ai 10 b):f∈ai 10 a:=mj h.d c d lr
theorem qM(h:Tree a)(e:b∈ai 10 a)(i:f∈dB l b):f∈ai 10 a/\fr b<fr f:=by obtain⟨p,g,d⟩:=Ry (h.of e).d i;have c:=h.mem e g;refine⟨gZ h.d c d,?_⟩;have j:=wC h.d h.a c d;have k:=j8 (h.of e).a g;omega
theorem qS(h:Tree a)(d:b∈ai 10 a)(g:f∈ai 10 a):Mq b f=true↔f∈ai 10 b:=by
 unfold Mq;rw[List.any_eq_true];constructor;.rintro⟨x,c,e⟩;have:x=f:=gD h.a (h.mem d c) g (by simpa using e);rw[<-this];exact c
 grind
theorem count_one(h:Tree a)(v:Tv)(g:b∈ai 10 a):(ai 10 b).countP λx=>fr x==fr v=if Mq b v=true then 1 else 0:=by
 have e:∀(l:List Tv),l.Pairwise (λc d=>fr c<fr d)->l.countP λx=>fr x==fr v=if l.any λx=>fr x==fr v=true then 1 else 0:=by intro l;induction l with|nil=>intro _;rfl|cons c l k=>intro f;obtain⟨i,j⟩:=List.pairwise_cons.1 f;grind
 exact e _ (h.of g).a
theorem Rz(h:Tree a)(d:b∈ai 10 a)(j:f∈ai 10 a)(i:n<f.ws.length)(g:Sg):ju f.ws[n] (dB g b)=if(if g.deep=true then Mq b f else fr b==fr f)=true then dX g.l f.d.kind f.ws.length n f.ws[n]else 0:=by
 unfold dB;by_cases c:g.deep=true;.rw[ae c,ae c];have e:ju f.ws[n] ((ai 10 b).flatMap (fM g.l))=((ai 10 b).map λx=>ju f.ws[n] (fM g.l x)).sum:=countP_flatMap _ _ _;rw[e,BQ (λx=>fr x==fr f) (dX g.l f.d.kind f.ws.length n f.ws[n]) _ (ai 10 b) λx k=>Et h.d h.a (h.mem d k) j i g.l,count_one h f d];split<;>simp
 rw[aa c,aa c];exact Et h.d h.a d j i g.l
theorem MP(h:Tree a){N:List Tv}(c:∀u∈N,u∈ai 10 a)(f:b∈ai 10 a)(d:n<b.ws.length)(g:Sg):ju b.ws[n] (N.flatMap (dB g))=(if g.deep=true then tJ b N else ju b N)*dX g.l b.d.kind b.ws.length n b.ws[n]:=by have e:ju b.ws[n] (N.flatMap (dB g))=(N.map λx=>ju b.ws[n] (dB g x)).sum:=countP_flatMap _ _ _;grind[Rz,BQ,dX,fr,Mq,ju,tJ]
theorem zI(h:Tree a){N:List Tv}(o:∀u∈N,u∈ai 10 a)(f:b∈ai 10 a)(t:n<b.ws.length):tJ b.ws[n] N=tJ b N+ju b.ws[n] N:=by
 have k:b.ws[n]∈b.ws:=bP t;have i:=gZ h.d f k;have m:∀u∈N,Mq u b.ws[n]=(Mq u b||fr u==fr b.ws[n])/\¬(Mq u b=true/\(fr u==fr b.ws[n])=true):=by
  intro u v;have c:=o u v;have g:¬(Mq u b=true/\(fr u==fr b.ws[n])=true):=by rintro⟨s,z⟩;have w:=j8 (h.of c).a ((qS h c f).1 s);have y:=wC h.d h.a f k;grind
  refine⟨?_,g⟩;rw[Bool.eq_iff_iff,Bool.or_eq_true,qS h c i,qS h c f];constructor
  .intro d;rcases vr d with e|⟨p,q,l⟩;.right;rw[<-e];simp
   left;have j:=h.mem c q;have:fr p=fr b:=nF h.d h.a j f l k rfl;rw[<-gD h.a j f this];exact q
  rintro(d|d);.exact gZ (h.of c).d d k
  have:u=b.ws[n]:=gD h.a c i (by simpa using d);rw[<-this];exact bq (h.of c).d
 unfold tJ ju;clear o;induction N with|nil=>rfl|cons u N r=>have r:=r λx d=>m x (f_ _ d);grind
theorem pE:∀(a b:List Sg)(l:List Tv),aq (a++b) l=aq b (aq a l)|[],_,_=>rfl|_::a,b,_=>pE a b _
variable{d:List Sg}
theorem rD(a:n<d.length)(l:List Tv):aq (d.take (n+1)) l=(aq (d.take n) l).flatMap (dB d[n]):=by rw[eC a,pE];rfl
theorem jv(h:Tree a)(e:List Sg):∀(N:List Tv),(∀u∈N,u∈ai 10 a)->∀x∈aq e N,x∈ai 10 a:=by induction e with|nil=>intro N b x d;exact b x d|cons g r i=>intro N b x d;refine i _ (λu f=>?_) x d;obtain⟨y,hy,c⟩:=fE.1 f;exact(qM h (b y hy) c).1
structure xD(xs:List Sg)(t v:Tv)(tl:List Ct):Prop where
 len:tl.length=xs.length+1
 c:∀i,i<=xs.length->(aG tl i).eB=ju v (aq (xs.take i) [t])/\(aG tl i).al=tJ v (aq (xs.take i) [t])
theorem kx(d L i:Nat)(c:Tv):∀(b:List Sg)(a:List Ct),a.length=b.length+1->(jc d L i c b a).length=b.length|[],_,_=>by simp[jc]|s::r,[],h=>by simp at h|s::r,[_],h=>by simp at h|s::r,f::e::a,h=>by rw[jc,nI,kx d L i c r (e::a) (by simpa using h),nI]
theorem kX(e L i:Nat)(c:Tv):∀(b:List Sg)(a:List Ct),a.length=b.length+1->∀k(d:k<b.length),aG (jc e L i c b a) k=⟨(if b[k].deep=true then(aG a k).al else(aG a k).eB)*dX b[k].l e L i c,(aG a (k+1)).al+(if b[k].deep=true then(aG a k).al else(aG a k).eB)*dX b[k].l e L i c⟩|[],_,_,k,d=>absurd d (Nat.not_lt_zero _)|s::r,[],h,_,_=>by simp at h|s::r,[_],h,_,_=>by simp at h|s::r,g::f::a,h,0,d=>by rw[jc];rfl|s::r,g::f::a,h,k+1,d=>by rw[jc];exact kX e L i c r (f::a) (by simpa using h) k (by simpa using d)
variable{g:List Ct}
theorem vo(h:Tree a)(j:b∈ai 10 a)(k:xD d a b g)(l:n<b.ws.length):xD d a b.ws[n] (cZ d b.d.kind b.ws.length n b.ws[n] g):=by
 have v:∀i,∀u∈aq (d.take i) [a],u∈ai 10 a:=λi=>jv h _ [a] (λu f=>by rw[dy.1 f];exact bq h.d);have o:b.ws[n]∈b.ws:=bP l;refine⟨by rw[cZ,nI,kx _ _ _ _ _ _ k.len],λi p=>?_⟩;have m:(g.headD ⟨0,0⟩)=aG g 0:=by cases g<;>rfl
 cases i with|zero=>
  have q:=(k.c 0 zl).2;have z:ju b.ws[n] [a]=0:=by have s:=wC h.d h.a j o;have t:=j8 h.a j;grind[fr,ju]
  have:=zI h (N:=[a]) (λu f=>by rw[dy.1 f];exact bq h.d) j l;rw[z]at this;refine⟨?_,?_⟩;.show 0=ju b.ws[n] [a];rw[z]
  show(g.headD ⟨0,0⟩).al=tJ b.ws[n] [a];rw[m,q,this];rfl|succ i=>have c:i<d.length:=om;have w:=k.c i om;have r:=k.c (i+1) p;have e:aG (cZ d b.d.kind b.ws.length n b.ws[n] g) (i+1)=aG (jc b.d.kind b.ws.length n b.ws[n] d g) i:=rfl;rw[e,kX _ _ _ _ _ _ k.len i c];grind[rD,zI,MP]
theorem zJ(s:List UInt8):∀(n a:Nat)(l:List dz),l.length<(eD s (n+1) a l).v.length
 |0,a,l=>by rw[eD];split<;>simp[eD]|n+1,a,l=>by
  rw[eD];split;.have:=zJ s n ((bO s a).p+1) (l++[(bO s a).v]);simp at this⊢;omega
  simp
theorem RC(s:List UInt8)(a:Nat):0<(fX s a).v.l.length:=by grind[zJ,zV,fX,gg]
theorem zK(s:List UInt8):∀(n a:Nat)(l:List Sg),(∀g∈l,0<g.l.length)->∀g∈jh s n a l,0<g.l.length
 |0,_,_,h=>h|n+1,a,l,h=>by
  rw[jh];split;.refine zK s n _ _ λg b=>?_;grind[RC]
  exact h
theorem eh(s:List UInt8):∀g∈cK s,0<g.l.length:=zK s _ _ _ si
theorem lh:∀(a:List Sg),(∀g∈a,0<g.l.length)->a.length<=cD a|[],_=>aT _|g::a,h=>by have:=lh a λx b=>h x (f_ _ b);grind[cD]
def kr:List Sg->Nat|[]=>1|g::r=>g.l.length*kr r
theorem zL:∀(b:List Sg),kr b<=2^cD b|[]=>by simp[kr,cD]|g::r=>by have a:=zL r;have h:g.l.length<=2^g.l.length:=mR Nat.lt_two_pow_self;simp only[kr,cD,List.map_cons,List.sum_cons,Nat.pow_add]at a⊢;exact Nat.mul_le_mul h a
theorem zM:∀(a b:List Sg),kr (a++b)=kr a*kr b|[],b=>by simp[kr]|g::a,b=>by simp[kr,zM a b,Nat.mul_assoc]
theorem Hl(a:List Sg)(i:Nat):cD (a.take i)<=cD a:=by
 have:cD a=cD (a.take i)+cD (a.drop i):=by
  have e:cD (a.take i++a.drop i)=cD (a.take i)+cD (a.drop i):=by simp only[cD,List.map_append,List.sum_append]
  rw[iU]at e;exact e
 omega
structure xp(xs:List Sg)(d:Nat)(tl:List Ct):Prop where
 len:tl.length=xs.length+1
 c:∀i,i<=xs.length->(aG tl i).eB<=2^d*kr (xs.take i)/\(aG tl i).al<=2^d*kr (xs.take i)
theorem EG:∀(a:List dz)(b L i:Nat)(c:Tv),dX a b L i c<=a.length|[],_,_,_,_=>aP _|x::a,b,L,i,c=>by have:=EG a b L i c;grind[dX]
theorem Cq(b:List Sg)(h:∀g∈b,0<g.l.length):xp b 0 (b8 b.length):=by
 refine⟨by simp[b8],λi f=>?_⟩;have e:∀a:List Sg,(∀g∈a,0<g.l.length)->0<kr a:=by intro a;induction a with|nil=>intro _;simp[kr]|cons g r d=>intro hy;exact Nat.mul_pos (hy g (dT)) (d λx c=>hy x (f_ _ c))
 grind[aG,kr,b8]
theorem qy(h:xp d n g)(j L i:Nat)(c:Tv):xp d (n+1) (cZ d j L i c g):=by
 refine⟨by rw[cZ,nI,kx _ _ _ _ _ _ h.len],λk m=>?_⟩;cases k with|zero=>
  have o:(g.headD ⟨0,0⟩)=aG g 0:=by cases g<;>rfl
  have p:=(h.c 0 zl).2;show 0<=_/\(g.headD ⟨0,0⟩).al<=_;grind[kr]|succ k=>
  have f:k<d.length:=om;have a:=h.c k om;have b:=(h.c (k+1) m).2;have e:aG (cZ d j L i c g) (k+1)=aG (jc j L i c d g) k:=rfl;rw[e,kX _ _ _ _ _ _ h.len k f];have l:kr (d.take (k+1))=kr (d.take k)*(d[k].l.length):=by rw[eC f,zM];simp[kr]
  have t:(if d[k].deep=true then(aG g k).al else(aG g k).eB)*dX d[k].l j L i c<=2^n*kr (d.take k)*d[k].l.length:=by refine Nat.mul_le_mul ?_ (EG _ _ _ _ _);grind
  rw[l]at b⊢;rw[Nat.mul_assoc]at t;rw[Nat.pow_succ];grind
theorem xp.lt(h:xp d n g)(c:n<=9)(k:cD d<=10)(i:Nat):(aG g i).eB<=524288/\(aG g i).al<=524288:=by
 by_cases e:i<=d.length;.have a:=h.c i e;have p:=zL (d.take i);have b:=Hl d i;have f:kr (d.take i)<=2^10:=az p (Nat.pow_le_pow_right om om);have j:2^n<=2^9:=Nat.pow_le_pow_right om c;have l:2^n*kr (d.take i)<=2^9*2^10:=Nat.mul_le_mul j f;grind
 have:aG g i=⟨0,0⟩:=by unfold aG;rw[List.getD_eq_getElem?_getD,List.getElem?_eq_none (by rw[h.len];omega)];rfl
 rw[this];simp
theorem zN(h:Tree a):∀(k:List Sg),k≠[]->∀(N:List Tv),(∀u∈N,u∈ai 10 a)->∀x∈aq k N,fr a<fr x|[],d,_,_,_,_=>absurd rfl d|[g],_,N,e,x,d=>by have d:x∈N.flatMap (dB g):=d;obtain⟨u,f,j⟩:=fE.1 d;have c:=(qM h (e u f) j).2;have b:=j8 h.a (e u f);omega|g::l::r,_,N,e,x,d=>by refine zN h (l::r) si (N.flatMap (dB g)) (λu f=>?_) x d;obtain⟨y,hy,i⟩:=fE.1 f;exact(qM h (e y hy) i).1
theorem D7(h:Tree a)(f:List Sg):xD f a a (b8 f.length):=by
 refine⟨by simp[b8],λi k=>?_⟩;cases i with|zero=>grind(splits:=30)[ai,aG,fM,fr,Mq,aq,ju,tJ,dB,cq,bn,b8]|succ i=>
  have e:aG (b8 f.length) (i+1)=⟨0,0⟩:=by grind[aG,b8]
  have j:f.take (i+1)≠[]:=by cases f with|nil=>simp at k|cons c b=>simp
  have l:∀x∈aq (f.take (i+1)) [a],fr a<fr x:=zN h _ j [a] (λu d=>by rw[dy.1 d];exact bq h.d);have sub:∀x∈aq (f.take (i+1)) [a],x∈ai 10 a:=jv h _ [a] (λu d=>by rw[dy.1 d];exact bq h.d);rw[e];refine⟨?_,?_⟩;.grind[ju]
  symm;show tJ a _=0;unfold tJ;rw[List.countP_eq_zero];intro u d g;have c:=l u d;have b:=j8 (h.of (sub u d)).a ((qS h (sub u d) (bq h.d)).1 g);omega
theorem MQ(h:Tree a)(b:List Sg)(t:∀g∈b,0<g.l.length):∀(n:Nat)(v:Tv),Deep n v->v∈ai 10 a->∀o d,xD b a v o->xp b d o->d+n<=10->∀u∈ai n v,∃f p,xD b a u f/\xp b p f/\p<=9
 |0,_,k,_,_,_,_,_,_,_,_=>k.elim|n+1,v,k,q,o,d,w,x,r,u,l=>by
  have l:u∈v::v.ws.flatMap (ai n):=l;rcases fU.1 l with e|e;.grind
  obtain⟨c,i,m⟩:=fE.1 e;obtain⟨j,s,rfl⟩:=gR.1 i;exact MQ h b t n _ (k _ i) (gZ h.d q i) _ (d+1) (vo h q w s) (qy x _ _ _ _) om u m
theorem Hm(h:Tree a)(c:List Sg)(e:∀g∈c,0<g.l.length)(i:cD c<=10)(j:b∈ai 10 a)(f:n<=c.length):ju b (aq (c.take n) [a])<=524288:=by obtain⟨o,d,k,l,m⟩:=MQ h c e 10 a h.d (bq h.d) _ 0 (D7 h c) (Cq c e) om b j;rw[<-(k.c n f).1];exact(l.lt m i n).1
theorem EH:∀(L:List Tv),L.Pairwise (λa b=>fr a<fr b)->∀(N:List Tv),(∀x∈N,∃y∈L,fr y=fr x)->N.length=(L.map λv=>ju v N).sum
 |[],_,N,h=>by cases N with|nil=>rfl|cons x N=>obtain⟨y,hy,_⟩:=h x (dT);cases hy
 |a::L,l,N,h=>by
  obtain⟨i,j⟩:=List.pairwise_cons.1 l;have e:=List.length_eq_countP_add_countP (l:=N) λu=>fr u==fr a;have n:=EH L j (N.filter λu=>!(fr u==fr a)) (λx o=>by grind);have d:(N.filter λu=>!(fr u==fr a)).length=N.countP λu=>!(fr u==fr a):=List.countP_eq_length_filter.symm;have f:L.map (λv=>ju v (N.filter λu=>!(fr u==fr a)))=L.map λv=>ju v N:=by apply List.map_congr_left;intro v m;have k:=i v m;unfold ju;rw[List.countP_filter];grind
  rw[List.map_cons,List.sum_cons,<-f,<-n,d];have g:N.countP (λu=>!(fr u==fr a))=N.countP λc=>decide ¬(fr c==fr a)=true:=by apply List.countP_congr;intro x _;simp
  unfold ju;rw[g];exact e
theorem MR{b:Type}(f:b->Nat)(k:Nat):∀(l:List b),(∀a∈l,f a<=k)->(l.map f).sum<=l.length*k|[],_=>by simp|a::l,h=>by have:=MR f k l λx c=>h x (f_ _ c);have d:=h a (dT);simp only[List.map_cons,List.sum_cons,List.length_cons,Nat.add_mul,Nat.one_mul];omega
theorem qT:∀(l:List Nat)(a B:Nat),l.Pairwise (·<·)->(∀x∈l,a<=x/\x<B)->l.length<=B-a|[],_,_,_,_=>aT _|x::l,a,B,d,h=>by obtain⟨b,c⟩:=List.pairwise_cons.1 d;have e:=h x (dT);have:=qT l (x+1) B c λy hy=>⟨b y hy,(h y (f_ _ hy)).2⟩;simp;omega
theorem mr(h:Tree a)(m:∀v∈ai 10 a,fr v<n)(d:List Sg)(e:∀g∈d,0<g.l.length)(i:cD d<=10)(f:k<=d.length):(aq (d.take k) [a]).length<=n*524288:=by
 have sub:∀x∈aq (d.take k) [a],x∈ai 10 a:=jv h _ [a] (λu j=>by rw[dy.1 j];exact bq h.d);rw[EH (ai 10 a) h.a _ λx e=>⟨x,sub x e,rfl⟩];have c:=MR (λv=>ju v (aq (d.take k) [a])) 524288 (ai 10 a) λv l=>Hm h d e i l f;have b:(ai 10 a).length<=n:=by have:=qT ((ai 10 a).map fr) 0 n (List.pairwise_map.2 h.a) (λx e=>by grind);simpa using this
 grind
theorem aaV{z:Sn}(b:jm z)(h:(an z n).z.st=5):z.st=5\/∃t∈(an z n).ts,t.k=1\/t.k=3:=by
 have shut:∀z:Sn,∃t∈(cN z).ts,t.k=1\/t.k=3:=λz=>⟨_,dy.2 rfl,Y rfl⟩;unfold an at h⊢;by_cases f:z.st=6
 .rw[ae f]at h⊢;unfold iQ at h⊢;split at h;.simp[Sn.to]at h
  rename_i c1;rw[aa c1];split at h;.simp[Sn.to]at h
  rename_i c2;rw[aa c2];split at h
  .rename_i c3;rw[ae c3];unfold gf at h⊢;split at h;.rename_i c4;rw[ae c4];exact I ⟨_,dy.2 rfl,I c4⟩
   simp at h
  simp[il]at h
 rw[aa f]at h⊢;by_cases i:z.st=7;.grind[Sn.to,il,kV]
 rw[aa i]at h⊢;by_cases c:z.st=8\/z.st=9
 .rw[ae c]at h⊢;have d:=(b.n c).2.2.2.2;unfold gG at h⊢;split at h;.simp[Sn.to]at h
  rename_i c1;rw[aa c1];split at h;.simp[fe]at h
  rename_i c2;rw[aa c2];split at h;.simp[Sn.to]at h
  rename_i c3;rw[aa c3];exact I ⟨cw z,dT,I d⟩
 rw[aa c]at h⊢;by_cases a:z.st=10
 .rw[ae a]at h⊢;have d:=(b.w a).2.2;unfold fA at h⊢;split at h;.simp[Sn.to]at h
  rename_i c1;rw[aa c1];split at h;.rename_i c2;rw[ae c2];exact I ⟨_,dy.2 rfl,I d⟩
  simp at h
 rw[aa a]at h⊢;by_cases g:cm n=true;.rw[ae g]at h;exact Y h
 rw[aa g]at h⊢;unfold bT at h⊢;by_cases e:z.st=5;.exact Y e
 rw[aa e]at h⊢;split at h;.simp[Sn.to]at h
 rename_i c1;rw[aa c1];split at h;.simp_all
 grind[Sn.to,fL,dK,cU,bm,fe,jb]
variable{p:Tok}{j:Bool}
theorem sU{g:Gs}(c:eN g.sh p)(h:p.k=1\/p.k=3\/g.last≠none):(aA g p j).last≠none:=by
 unfold aA;by_cases b:p.k=0;.grind
 rw[aa b];by_cases a:p.k=1;.rw[ae a];have:=c.k1 a;grind[Gs.sh,aE]
 grind[aE]
theorem kv(g:Gs)(t:Tok)(r:List Tok):cT g (t::r)=cT (aA g t true) r:=rfl
theorem mG:∀{b:List Tok}{g:Gs},kU g.sh b->((∃t∈b,t.k=1\/t.k=3)\/g.last≠none)->(cT g b).last≠none
 |[],_,_,h=>h.resolve_left λ⟨_,x,_⟩=>by cases x|t::r,g,a,h=>by
  rw[kv];refine mG (by rw[jj g t true a.1];exact a.2) ?_;rcases h with⟨x,d,c⟩|h
  .rcases fU.1 d with e|e;.subst e;exact I (sU a.1 om)
   exact Y ⟨x,e,c⟩
  exact I (sU a.1 (I (I h)))
theorem jU:∀{b:List Tok}{g:Gs},kU g.sh b->(cT g b).sh=bC g.sh b|[],_,_=>rfl|t::r,g,a=>by rw[kv,jU (by rw[jj g t true a.1];exact a.2),jj g t true a.1];rfl
theorem aaW:∀(l:List UInt8){z:Sn}{g:Gs},jm z->Lk z g.sh->z.st<=10->z.at'+l.length<=4000000->(z.st=5->g.last≠none)->(aj z l).e=0->(aj z l).z.st=5->(cT g (aj z l).ts).last≠none
 |[],z,g,_,_,_,_,j,_,h=>j h|b::l,z,g,m,o,p,q,j,c,h=>by
  have r:z.at'+(l.length+1)<=4000000:=by simpa using q
  have S:=gY m o p om b.toNat;rw[aj]at c h⊢;by_cases i:(an z b.toNat).z.st=12;.rw[ae i]at c;cases c
  rw[aa i]at c h⊢;by_cases f:(an z b.toNat).z.st=11;.rw[ae f]at c;cases c
  rw[aa f]at c h⊢;have e:(an z b.toNat).z.st<=10:=by have:=S.st;omega
  have k:=S.at';have d:=S.ok e;have a:jm {(an z b.toNat).z with at':=(an z b.toNat).z.at'+1}:=⟨d.op,d.ne,d.tk,d.st,d.w,d.n,d.m,d.x⟩;simp only at c h⊢;rw[kC];refine aaW l a (by rw[jU S.tok];exact S.lk e) e (by simp only[k];omega) (λn=>?_) c h;rcases aaV m n with x|x;.exact mG S.tok (I (j x))
  exact mG S.tok (Y x)
def bD(l:List UInt8):Nat:=if(aj ah l).e≠0 then(aj ah l).e else if aZ (aj ah l).z=true then 0 else 2
def jB(l:List UInt8):Nat:=if(aj ah l).e≠0 then(aj ah l).z.at' else if aZ (aj ah l).z=true then 0 else l.length
def iP(l:List UInt8):List Tok:=(aj ah l).ts++fF (aj ah l).z
def jA(l:List UInt8):Option Tv:=(cT a_ (iP l)).last
theorem kU.one{s:Sh}(h:eN s p):kU s [p]:=⟨h,trivial⟩
theorem Ck(u:c.length<=4000000)(h:bD c=0):kU ⟨[],0⟩ (iP c)/\(cT a_ (iP c)).st=[]/\∃t,jA c=some t:=by
 have R:=fW c aX.1 aX.2 (by simp[ah]) (by simp[ah];omega);have m:(aj ah c).e=0:=by grind(splits:=30)[ah,aj,bD]
 have d:aZ (aj ah c).z=true:=by grind(splits:=30)[ah,aj,aZ,bD]
 obtain⟨k,v,r,l⟩:=R.ok m;have i:(aj ah c).z.op=[]:=by simp[aZ]at d;exact d.2
 have f:(aj ah c).z.st=5\/(aj ah c).z.st=9:=by simp[aZ]at d;exact d.1
 have o:(aj ah c).z.at'=c.length:=by simpa[ah]using r
 have g:kU (bC ⟨[],0⟩ (aj ah c).ts) (fF (aj ah c).z):=by
  unfold fF;split;.rename_i b;exact kU.one (rh k l (I b) om)
  trivial
 have a:kU ⟨[],0⟩ (iP c):=R.tok.app g;have j:(cT a_ (iP c)).sh=bC ⟨[],0⟩ (iP c):=jU (g:=a_) a;refine⟨a,?_,?_⟩
 .have e:(cT a_ (iP c)).sh.op=[]:=by
   rw[j];unfold iP;rw[oQ];unfold fF;split;.rename_i b;have s:(cw (aj ah c).z).k=3:=(k.n (I b)).2.2.2.2;have:=l.op;grind[bC,fK]
   have:=l.op;rw[i]at this;simpa[bC]using this
  simpa[Gs.sh]using e
 have:(cT a_ (iP c)).last≠none:=by
  unfold iP;rw[kC];have p:(cT a_ (aj ah c).ts).sh=bC ⟨[],0⟩ (aj ah c).ts:=jU (g:=a_) R.tok;rcases f with n|b
  .have e:fF (aj ah c).z=[]:=by unfold fF;rw[aa om]
   rw[e];exact aaW c aX.1 (g:=a_) aX.2 (by simp[ah]) (by simp[ah];omega) (λx=>by simp[ah]at x) m n
  have e:fF (aj ah c).z=[cw (aj ah c).z]:=by unfold fF;rw[ae b]
  rw[e]at g⊢;exact mG (by rw[p];exact g) (Y ⟨_,dy.2 rfl,I (k.n (I b)).2.2.2.2⟩)
 cases q:jA c with|none=>exact absurd q this|some t=>exact⟨t,rfl⟩
def Ag(s:List UInt8)(a:Nat)(u:List UInt8)(b n:Nat):Prop:=∀j,j<=n->bt u (b+j)=bt s (a+j)
theorem Ag.self(s:List UInt8)(a n:Nat):Ag s a s a n:=λ_ _=>rfl
structure GX(ok:Nat->Bool)(s:List UInt8)(a n:Nat):Prop where
 all:∀j,j<n->ok (bt s (a+j))=true
 stop:ok (bt s (a+n))=false
theorem GX.ag{d:Nat->Bool}(b:d 256=false){a n:Nat}(h:GX d c a n)(g:Ag c a r k n):bV d r k=k+n:=by refine run_eq om (λi e f=>?_) (by rw[g n om];exact h.stop) (oM d r k b);have:=g (i-k) om;rw[show k+(i-k)=i by omega]at this;rw[this];exact h.all _ om
theorem Mj{ok:Nat->Bool}{s:List UInt8}{K a:Nat}(d:ok (bt s (run ok s K a))=false):∃n,run ok s K a=a+n/\GX ok s a n:=by have b:=fN ok s K a;refine⟨run ok s K a-a,om,λj c=>gL ok s K a (a+j) om om,?_⟩;grind
abbrev tP(t:St)(m:Nat):St:={t with p:=t.p+m}
variable{o:St}
theorem MS(b:(bu c o j).e=0):o.e=0/\∃m,bu c o j=tP o m/\0<m/\∀a,a<m->O (bt c (o.p+a))=true:=by
 have d:o.e=0:=by grind(splits:=30)[aH,bt,bu,digit,O,run,eF,ar,wrong]
 refine⟨d,?_⟩;unfold bu at b⊢;split at b;.rw[fT d]at b;cases b
 rename_i c1;rw[aa c1];have h:O (bt c o.p)=true:=by grind(splits:=30)[digit]
 split at b;.rename_i c2;rw[ae c2];refine⟨1,rfl,om,λa e=>?_⟩;grind
 rename_i c2;rw[aa c2];unfold eF;rw[ae d];have f:=fN O c 3 o.p;have g:o.p<run O c 3 o.p:=by grind(splits:=30)[O,run]
 refine⟨run O c 3 o.p-o.p,?_,om,λa e=>gL O c 3 o.p (o.p+a) om om⟩;grind
theorem wB:O 256=false:=rfl
theorem Ml:isLet 256=false:=rfl
theorem Me:aR 256=false:=rfl
theorem Eh(k:o.e=0)(e:(fh c o).e=0):bt c o.p=39/\∃m,fh c o=tP o (m+2)/\bt c (o.p+1+m)=39/\GX aR c (o.p+1) m:=by
 unfold fh at e⊢;obtain⟨h,i⟩:=jZ e;obtain⟨l,a⟩:=aF h;have g:(aK c o 39).e=0:=by grind[eF]
 obtain⟨j,d⟩:=jZ g;obtain⟨_,f⟩:=aF j;refine⟨f,?_⟩;rw[i,d];rw[d]at a;unfold eF at a⊢;rw[ae (show(aH o).e=0 from k)]at a⊢;have a:bt c (run aR c 8 (o.p+1))=39:=a;obtain⟨m,b,R⟩:=Mj (ok:=aR) (s:=c) (K:=8) (a:=o.p+1) (by rw[a];rfl);refine⟨m,?_,by rw[<-b];exact a,R⟩;show St.mk (run aR c 8 (o.p+1)+1) o.e o.n=St.mk (o.p+(m+2)) o.e o.n;rw[b];congr 1;omega
theorem pC0(u:List UInt8)(N b:Nat)(a:Tv->Bool):pC u (N+1) 0 b a=if bt u b=33 then⟨λt=>!((pC u N 0 (b+1) a).v t),(pC u N 0 (b+1) a).p⟩else if bt u b=40 then⟨(pC u N 2 (b+1) a).v,(pC u N 2 (b+1) a).p+1⟩else n8 u b:=by rw[pC]
theorem pC1(u:List UInt8)(N b:Nat)(a:Tv->Bool):pC u (N+1) 1 b a=pC u N 3 (pC u N 0 b a).p (pC u N 0 b a).v:=by rw[pC]
theorem pC2(u:List UInt8)(N b:Nat)(a:Tv->Bool):pC u (N+1) 2 b a=pC u N 4 (pC u N 1 b a).p (pC u N 1 b a).v:=by rw[pC]
theorem pC3(u:List UInt8)(N b:Nat)(a:Tv->Bool):pC u (N+1) 3 b a=if bt u b=38 then pC u N 3 (pC u N 0 (b+2) a).p (λt=>a t&&(pC u N 0 (b+2) a).v t)else⟨a,b⟩:=by rw[pC]
theorem pC4(u:List UInt8)(N b:Nat)(a:Tv->Bool):pC u (N+1) 4 b a=if bt u b=124 then pC u N 4 (pC u N 1 (b+2) a).p (λt=>a t||(pC u N 1 (b+2) a).v t)else⟨a,b⟩:=by rw[pC]
def rj(P:Nat->Nat->Tv->Prop)(b:Nat)(o:Prop):Nat->List Tv->Prop|_,[]=>True|a,c::r=>if 0<=c.d.cl then P a c.d.to c/\c.d.to<=b/\rj P b o c.d.to r else r=[]/\o/\P a b c
def fI:Nat->Nat->Nat->Tv->Prop|0,_,_,_=>False|n+1,a,b,v=>a<=v.d.af/\v.d.af<b/\(0<=v.d.cl->v.d.af<v.d.to/\v.d.to<=b/\v.d.cl=if v.d.kind=1 then(v.d.to:Int)else(v.d.to:Int)-1)/\rj (fI n) (if 0<=v.d.cl then v.d.to-1 else b) (v.d.cl<0) (v.d.af+1) v.ws
def qg(P:Nat->Nat->Tv->Prop)(p:Nat):Nat->List Tv->Prop|a,[]=>a<=p|a,c::r=>0<=c.d.cl/\P a c.d.to c/\qg P p c.d.to r
theorem fI.low:∀{n a c b:Nat}{v:Tv},fI n a b v->c<=a->fI n c b v|0,_,_,_,_,h,_=>h.elim|_+1,_,_,_,_,⟨e,d⟩,f=>⟨om,d⟩
theorem qg.snoc{p:Nat}(c:0<=a.d.cl)(e:fI n p a.d.to a)(d:a.d.to<=k):∀{f:List Tv}{b:Nat},qg (fI n) p b f->qg (fI n) k b (f++[a])|[],_,h=>⟨c,e.low h,d⟩|_::_,_,⟨g,i,j⟩=>⟨g,i,qg.snoc c e d j⟩
theorem qg.le{P:Nat->Nat->Tv->Prop}(b:n<=k):∀{c:List Tv}{a:Nat},qg P n a c->qg P k a c|[],_,h=>az h b|_::_,_,⟨d,e,f⟩=>⟨d,e,qg.le b f⟩
theorem fI.mid:∀{n a b:Nat}{v:Tv},0<=v.d.cl->fI n a b v->a<=v.d.to|0,_,_,_,_,h=>h.elim|_+1,_,_,_,d,⟨e,_,c,_⟩=>by have:=(c d).1;omega
theorem qg.end:∀{e:List Tv}{a:Nat},qg (fI n) k a e->a<=k|[],_,h=>h|_::_,_,⟨b,c,d⟩=>az (c.mid b) d.end
theorem qg.sp{o:Prop}(d:k<=i):∀{e:List Tv}{a:Nat},qg (fI n) k a e->rj (fI n) i o a e|[],_,_=>trivial|c::r,a,⟨f,g,b⟩=>by show(if 0<=c.d.cl then _ else _);rw[ae f];exact⟨g,az (qg.end b) d,qg.sp d b⟩
theorem qg.spo{o:Prop}(g:o)(e:k<=i)(f:¬0<=a.d.cl)(j:fI n k i a):∀{l:List Tv}{b:Nat},qg (fI n) k b l->rj (fI n) i o b (l++[a])|[],b,h=>by show(if 0<=a.d.cl then _ else _);rw[aa f];exact⟨rfl,g,j.low h⟩|d::r,b,⟨m,p,c⟩=>by show(if 0<=d.d.cl then _ else _);rw[ae m];exact⟨p,az (qg.end c) e,qg.spo g e f j c⟩
def WZ(s:List UInt8)(B m k i:Nat)(R:Rs):Prop:=(R.e=0/\∃v,R.ws=[v]/\((0<=v.d.cl/\v.d.to=R.p/\fI m i R.p v)\/(¬0<=v.d.cl/\fI m i B v/\da k (bt s R.p)=false/\v.d.af<v.d.to/\v.d.to=R.p/\v.d.kind=1/\v.ws=[])))\/(R.e≠0/\(R.ws=[]\/∃v,R.ws=[v]/\¬0<=v.d.cl/\fI m i B v))
theorem RG(g:c.length<n)(d e:List UInt8)(a:Nat)(b:i<=m)(l:m<c.length):WZ c n (k+1) a i (iC c d e a m):=by
 unfold iC;split
 .split;.rename_i h;have:=(j_ (s:=c) (i:=m) om).2.2 h;exact Y ⟨rfl,_,rfl,Y ⟨by show(0:Int)<=_-1;omega,rfl,b,this,λ_=>⟨this,aP _,rfl⟩,trivial⟩⟩
  rename_i h;exact I ⟨h,Y rfl⟩
 split;.grind(splits:=30)[rj,fI,WZ,bt,i_,dC,da,O,dF,qF,lJ,lO,run,iC,dP,aM,sC,sD,bM,su]
 split;.rename_i h;have f:=Cd (s:=c) (i:=m) om h;refine Y ⟨rfl,_,rfl,?_⟩;by_cases j:da a (bt c (lJ c m))=true;rotate_left;all_goals grind(splits:=30)[rj,fI,WZ,bt,i_,dC,da,O,dF,qF,lJ,lO,run,iC,dP,aM,sC,sD,bM,su]
 exact I ⟨si,Y rfl⟩
def SpP(B m a:Nat)(R:Rs):Prop:=(R.e=0/\qg (fI m) (R.p-1) a R.ws)\/(R.e≠0/\rj (fI m) B True a R.ws)
theorem RH(o:c.length<n)(j l:List UInt8){R:Rs}(d:m≠1)(f:t<=z)(p:z<c.length)(g:R.e=0->z+1<R.p)(h:SpP n k (z+1) R):WZ c n (k+1) i t (held m j l z R):=by
 unfold held;rcases h with⟨a,b⟩|⟨a,b⟩;.rw[ae a,ae a];have:=g a;have e:(0:Int)<=(R.p:Int)-1:=om;refine Y ⟨a,_,rfl,Y ⟨e,rfl,f,by show z<R.p;omega,λ_=>⟨by show z<R.p;omega,aP _,by simp only[if_neg d]⟩,?_⟩⟩;simp only[if_pos e];exact b.sp lr
 grind(splits:=30)[rj,SpP,fI,WZ,qg,bt,da,held]
theorem TM{B:Nat}(P:c.length<B):∀n,(∀(d:Nat)(F f:List UInt8)(k i:Nat),d<=9->i<=c.length->WZ c B (10-d) k i (rd c n false d F f k i []))/\(∀(d:Nat)(f:List UInt8)(k i a:Nat)(j:List Tv),d<=8->(k=4\/k=5)->i<=c.length->qg (fI (9-d)) i a j->SpP B (9-d) a (rd c n true d [] f k i j))
 |0=>⟨λ_ _ _ _ _ _ _=>I ⟨by simp[rd],Y rfl⟩,λ_ _ _ _ _ _ _ _ _ _=>I ⟨by simp[rd],trivial⟩⟩|n+1=>by
  obtain⟨M,L⟩:=TM P n;refine⟨λd F f k i S p=>?_,λd f k i a j S D p z=>?_⟩
  .have t:=e_ c i;have u:=gB p;rw[rd_val];split;.exact I ⟨si,Y rfl⟩
   rename_i N;have q:sk c i<c.length:=cQ (by have:=xI c (sk c i);omega);rw[show 10-d=(9-d)+1 by omega];split
   .split;.exact I ⟨si,Y rfl⟩
    rename_i w;have o:=e_ c (sk c i+1);have g:=gB (s:=c) (i:=sk c i+1) om;refine RH P F f (by split<;>omega) t q ?_ ?_
    .generalize(if bt c (sk c i)=91 then 4 else 5)=K;unfold oF;split;.grind
     intro e;have:=(jM n true d [] f K (sk c (sk c i+1)) [] g).gt e;omega
    have R:(if bt c (sk c i)=91 then 4 else 5)=4\/(if bt c (sk c i)=91 then 4 else 5)=5:=by split<;>simp
    generalize(if bt c (sk c i)=91 then 4 else 5)=K at R;unfold oF;split;.exact Y ⟨rfl,by show sk c i+1<=sk c (sk c i+1)+1-1;omega⟩
    exact L d f K _ _ [] om R g o
   grind[RG]
  have C:WZ c B (9-d) k i (df c n d f k i j.length)/\Fwd c i (df c n d f k i j.length):=by
   unfold df;have e:9-d=10-(d+1):=om;split;.rename_i g;rw[g,e];exact⟨M (d+1) [] _ 4 i om p,jM n false _ _ _ _ _ _ p⟩
   have t:=e_ c i;have u:=gB p;have o:=j_ u;split;.rename_i x;exact⟨I ⟨x,Y rfl⟩,⟨by simp;omega,o.2.1,λe=>absurd e x⟩⟩
   rename_i U x;have g:=o.2.2 (by simpa using x);have U:=e_ c (aM c (sk c i)).p;have h6:=gB o.2.1;split
   .rename_i h7;have q:=ik h7 de;have w:=jM (s:=c) n false (d+1) (aM c (sk c i)).t (f++[91]++h_ (aM c (sk c i)).t++[93]) 5 (sk c (aM c (sk c i)).p+1) [] om;refine⟨?_,⟨by have:=w.ge;omega,w.le,λ_=>by have:=w.ge;omega⟩⟩;rw[e,show k=5 by omega];rcases M (d+1) (aM c (sk c i)).t (f++[91]++h_ (aM c (sk c i)).t++[93]) 5 (sk c (aM c (sk c i)).p+1) om om with⟨m,v,l,r⟩|⟨m,l|⟨v,l,r,y4⟩⟩
    .refine Y ⟨m,v,l,?_⟩;rcases r with⟨G,H,J⟩|⟨G,H,J,z4⟩;.exact Y ⟨G,H,J.low om⟩
     exact I ⟨G,H.low om,J,z4⟩
    .exact I ⟨m,Y l⟩
    exact I ⟨m,I ⟨v,l,r,y4.low om⟩⟩
   exact⟨I ⟨si,Y rfl⟩,⟨by simp;omega,h6,λh=>by cases h⟩⟩
  rw[mF];generalize df c n d f k i j.length=b at*;obtain⟨C,hF⟩:=C;have t:=e_ c b.p;have u:=gB hF.le;have hF1:=hF.ge;have hF2:=hF.le;rcases C with⟨s,v,A,T⟩|⟨s,A⟩
  .rw[aa (by simpa using s),A];rcases T with⟨c1,c2,c3⟩|⟨c1,c2,c3,_⟩
   .have W:qg (fI (9-d)) b.p a (j++[v]):=qg.snoc c1 (p:=i) (by rw[c2];exact c3) om z;split;.rename_i g;have:=ik g de;exact L d f k _ a _ S D om (W.le om)
    split;.exact Y ⟨rfl,W.le (by show b.p<=sk c b.p+1-1;omega)⟩
    exact I ⟨si,W.sp om⟩
   have hb:cm (bt c b.p)=false:=by unfold da at c3;unfold cm;simp at c3⊢;exact⟨c3.1.1,c3.1.2⟩
   have hs:sk c b.p=b.p:=Sk.eq ⟨aP _,λk t u=>by omega,hb⟩;rw[hs];have n1:bt c b.p≠44:=λy=>by rw[y]at c3;rcases D with rfl|rfl<;>simp[da]at c3
   have n2:bt c b.p≠bW k:=λy=>by rw[y]at c3;rcases D with rfl|rfl<;>simp[da,bW]at c3
   rw[aa n1,aa n2];exact I ⟨si,qg.spo trivial om c1 c2 z⟩
  rw[ae s];refine I ⟨s,?_⟩;rcases A with y|⟨v,m,l,r⟩;.rw[y,gz];exact z.sp om
  rw[m];exact qg.spo trivial om l r z
