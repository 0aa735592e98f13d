import Derived.Test.YtcbadebjpogmlaaGreatDoorVvTxI
namespace Tr
def oI(t:Tv):List Nat:=(ai 10 t).map fr
def wV:List Fm->List Nat|[]=>[]|f::r=>wV r++(f.d.af::f.ws.flatMap oI)
def np:List Fm->Prop|[]=>True|f::r=>(∀c∈f.ws,Deep (9-r.length) c)/\np r
structure GF(g:Gs):Prop where
 len:g.st.length<=8
 p:(wV g.st).Pairwise (·<·)b:∀x∈wV g.st,x<g.bd
 d:np g.st
 l:g.st=[]->∀t,g.last=some t->Deep 10 t/\(oI t).Pairwise (·<·)/\∀x∈oI t,x<g.bd
theorem Ab{d:jt}{ws:List Tv}{n:Nat}(b:n<=9)(h:∀c∈ws,Deep n c):oI ⟨d,ws⟩=d.af::ws.flatMap oI:=by unfold oI;show fr ⟨d,ws⟩::(ws.flatMap (ai 9)).map fr=_;rw[List.map_flatMap];congr 1;exact fJ λc a=>by rw[du (m:=9) (h c a) b,<-du (m:=10) (h c a) om]
variable{n:Nat}
theorem xi{g:Gs}{f:Fm}{r:List Fm}(s:r.length<=8)(o:f.kp=true)(d:(wV (f::r)).Pairwise (·<·))(c:∀x∈wV (f::r),x<g.bd)(a:np (f::r)):GF (aE g f r n):=by
 have e:=Ab (d:={f.d with to:=n}) (ws:=f.ws) (n:=9-r.length) om a.1;have m:Deep (9-r.length+1) (f.tv n):=a.1;have i:wV (ku r f.kp (f.tv n))=if r=[]then[]else wV (f::r):=by cases r with|nil=>rfl|cons p q=>rw[aa si];show wV (dS p f.kp (f.tv n)::q)=_;unfold dS;rw[ae o];simp only[wV,List.flatMap_append,List.flatMap_cons,List.flatMap_nil,List.append_nil];have:oI (f.tv n)=f.d.af::f.ws.flatMap oI:=e;rw[this];simp
 refine⟨by simp[aE,uZ];exact s,?_,?_,?_,?_⟩;.grind(splits:=30)[Deep,np,ai,fr,aE,dS,ku,wV,oI]
 .grind(splits:=30)[Deep,np,ai,fr,aE,dS,ku,wV,oI]
 .show np (ku r f.kp (f.tv n));cases r with|nil=>trivial|cons p q=>obtain⟨_,w,l⟩:=a;refine⟨?_,l⟩;grind[dS]
 intro k t v;have u:r=[]:=by cases r with|nil=>rfl|cons p q=>simp[aE,ku]at k
 subst u;have j:f.tv n=t:=cI v;rw[<-j];have b:oI (f.tv n)=f.d.af::f.ws.flatMap oI:=e;have h:wV [f]=f.d.af::f.ws.flatMap oI:=by simp[wV]
 rw[h]at d c;exact⟨m.up si,by rw[b];exact d,by rw[b];exact c⟩
variable{c:Gs}
theorem xj(h:GF c){af:Nat}(n:c.bd<=af){f:Fm}(l:f.d.af=af)(g:f.ws=[]):(wV (f::c.st)).Pairwise (·<·)/\(∀x∈wV (f::c.st),x<af+1)/\np (f::c.st):=by
 have e:wV (f::c.st)=wV c.st++[af]:=by simp[wV,l,g]
 rw[e];refine⟨?_,?_,?_⟩;.rw[List.pairwise_append];refine⟨h.p,si,λa i b j=>?_⟩;rw[dy.1 j];have:=h.b a i;omega
 .intro x m;rcases gU.1 m with y|y;.have:=h.b x y;omega
  grind
 refine⟨?_,h.d⟩;rw[g];intro d k;cases k
variable{d:Tok}
theorem Cj(h:GF c)(p:iO c.st c.ix)(k:eN c.sh d):GF (aA c d true):=by
 have v:c.sh.op.length=c.st.length:=by simp[Gs.sh]
 have j:=h.len;unfold aA;by_cases i:d.k=0;.rw[ae i];have t:=k.k0 i;obtain⟨a,b,e⟩:=xj h (af:=d.af) t.2.2.2.2 (f:=aB c d true) rfl rfl;exact⟨by simp;omega,a,b,e,λx=>by simp at x⟩
 rw[aa i];by_cases l:d.k=1;.rw[ae l];cases g:c.st with|nil=>simp only;exact⟨by simp[g],by rw[g];exact List.Pairwise.nil,(by rw[g];intro x s;cases s),(by rw[g];trivial),λ_=>h.l g⟩|cons f r=>have q:=h.p;have n:=h.b;have o:=h.d;rw[g]at q n o p j;exact xi (by simp at j;omega) p.2.1 q n o
 rw[aa l];by_cases m:d.k=2;.rw[ae m];exact⟨h.len,h.p,h.b,h.d,h.l⟩
 rw[aa m];have u:=k.k3 (by have:=k.k;omega);obtain⟨a,b,e⟩:=xj h (af:=d.af) u.2.2.2.2 (f:=aB c d true) rfl rfl;exact xi (g:={c with nm:=[],bd:=d.af+1}) j rfl a b e
theorem u_:∀{ts:List Tok}{g:Gs},GF g->iO g.st g.ix->kU g.sh ts->GF (cT g ts)|[],_,h,_,_=>h|t::r,g,h,b,a=>by rw[kv];exact u_ (Cj h b a.1) (qv b) (by rw[jj g t true a.1];exact a.2)
theorem lK:GF a_:=⟨by simp[a_],List.Pairwise.nil,λx b=>(by cases b),trivial,λ_ t a=>(by cases a)⟩
theorem vd:∀{b:List Tok}{g:Gs}{B:Nat},g.bd<=B->kU g.sh b->(∀t∈b,t.af<B)->(cT g b).bd<=B|[],_,_,h,_,_=>h|t::r,g,B,h,a,c=>by rw[kv];refine vd ?_ (by rw[jj g t true a.1];exact a.2) λx d=>c x (f_ _ d);have e:(aA g t true).bd=(fK g.sh t).bd:=gV Sh.bd (jj g t true a.1);have f:=c t (dT);have i:g.sh.bd=g.bd:=rfl;grind[fK]
variable{i:List UInt8}{k:Tv}
theorem vf(m:i.length<=4000000)(h:bD i=0)(d:jA i=some k):Tree k/\∀v∈ai 10 k,fr v<4000000:=by
 obtain⟨g,l,_⟩:=Ck m h;have G:=u_ lK (show iO a_.st a_.ix from trivial) (ts:=iP i) g;obtain⟨a,b,c⟩:=G.l l k d;have bd:(cT a_ (iP i)).bd<=4000000:=by
  refine vd (by simp[a_]) g ?_;have:∀(f:List Tok)(s:Sh),kU s f->∀k∈f,k.af<4000000:=by
   intro f;induction f with|nil=>intro _ _ k d;cases d|cons x r o=>
    intro s j k d;rcases fU.1 d with e|e;.rw[e];exact j.1.af
    exact o _ j.2 k e
  exact this _ _ g
 refine⟨⟨a,List.pairwise_map.1 b⟩,λv n=>?_⟩;have:=c (fr v) (List.mem_map.2 ⟨v,n,rfl⟩);omega
theorem Od(z:Sn)(b:Nat):(∀t∈(an z b).ts,t.t=[]\/t.t=z.tk.t\/t.t=z.tx)/\((an z b).z.tk.t=[]\/(an z b).z.tk.t=z.tk.t\/(an z b).z.tk.t=z.tx)/\(an z b).z.tx.length<=z.tx.length+1:=by grind(splits:=30)[Sn.to,bt,gC,cm,O,gu,il,fL,dK,cU,bm,aC,bT,fe,gO,gf,kV,jb,an,gG,cw,cN,iQ,fA]
theorem vg:∀(l:List UInt8)(z:Sn)(N:Nat),z.tx.length+l.length<=N->z.tk.t.length<=N->(∀t∈(aj z l).ts,t.t.length<=N)/\(aj z l).z.tk.t.length<=N
 |[],_,_,_,h=>⟨by simp[aj],h⟩|b::l,z,N,d,i=>by
  obtain⟨e,f,g⟩:=Od z b.toNat;have d:z.tx.length+(l.length+1)<=N:=by simpa using d
  have c:∀t∈(an z b.toNat).ts,t.t.length<=N:=λt j=>by grind
  have a:(an z b.toNat).z.tk.t.length<=N:=by grind
  rw[aj];split;.exact⟨c,a⟩
  split;.exact⟨c,a⟩
  have R:=vg l {(an z b.toNat).z with at':=(an z b.toNat).z.at'+1} N (by simp only;omega) a;grind
def EW(v:Tv):Prop:=v.d.name.length<=4000000/\(v.ws≠[]->v.d.kind=4\/v.d.kind=5)
def Yq(f:Fm):Prop:=f.d.name.length<=4000000/\(f.d.kind=4\/f.d.kind=5)/\∀c∈f.ws,∀v∈ai 9 c,EW v
structure SF(g:Gs):Prop where
 nm:g.nm.length<=4000000
 st:∀f∈g.st,Yq f
 l:∀t,g.last=some t->∀v∈ai 10 t,EW v
theorem SG{d:jt}{ws:List Tv}(a:d.name.length<=4000000)(b:ws≠[]->d.kind=4\/d.kind=5)(e:∀c∈ws,∀v∈ai 9 c,EW v):∀v∈ai 10 ⟨d,ws⟩,EW v:=λv f=>by grind(splits:=30)[EW,ai]
theorem xk:∀(n:Nat)(t v:Tv),v∈ai n t->v∈ai (n+1) t
 |0,_,_,h=>by cases h|n+1,t,v,h=>by
  have h:v∈t::t.ws.flatMap (ai n):=h;show v∈t::t.ws.flatMap (ai (n+1));rcases fU.1 h with e|e;.grind
  obtain⟨c,b,a⟩:=fE.1 e;exact fU.2 (I (fE.2 ⟨c,b,xk n c v a⟩))
theorem xl{g:Gs}{f:Fm}{r:List Fm}(k:g.nm.length<=4000000)(d:f.d.name.length<=4000000)(h:f.ws≠[]->f.d.kind=4\/f.d.kind=5)(i:∀c∈f.ws,∀v∈ai 9 c,EW v)(l:∀f∈r,Yq f):SF (aE g f r n):=by
 have m:∀v∈ai 10 (f.tv n),EW v:=SG (d:={f.d with to:=n}) d h i;refine⟨k,?_,λt e=>?_⟩
 .show∀x∈ku r f.kp (f.tv n),Yq x;cases r with|nil=>intro x a;cases a|cons p q=>
   intro x a;have a:x∈dS p f.kp (f.tv n)::q:=a;rcases fU.1 a with e|e
   .have b:=l p (dT);rw[e];unfold dS;split
    .refine⟨b.1,b.2.1,λc j=>?_⟩;rcases gU.1 j with y|y;.exact b.2.2 c y
     grind[xk]
    exact b
   grind
 grind(splits:=30)[Yq,EW,ai,aE,dS,ku]
theorem Cl{k:Bool}(h:SF c)(o:eN c.sh d)(n:d.t.length<=4000000):SF (aA c d k):=by
 unfold aA;by_cases g:d.k=0
 .rw[ae g];refine⟨si,λf b=>?_,h.l⟩;have b:f∈aB c d k::c.st:=b;rcases fU.1 b with e|e;.subst e;refine⟨h.nm,?_,λa i=>by cases i⟩;show zT d.of=4\/zT d.of=5;rcases(o.k0 g).1 with x|x<;>rw[x]<;>decide
  exact h.st f e
 rw[aa g];by_cases l:d.k=1;.rw[ae l];cases j:c.st with|nil=>exact⟨h.nm,λf b=>(by rw[j]at b;cases b),h.l⟩|cons f r=>have b:=h.st f (by rw[j];exact dT);exact xl h.nm b.1 (λ_=>b.2.1) b.2.2 λx p=>h.st x (by rw[j];exact f_ _ p)
 rw[aa l];by_cases m:d.k=2;.rw[ae m];exact⟨n,h.st,h.l⟩
 rw[aa m];exact xl (g:={c with nm:=[],bd:=d.af+1}) (f:=aB c d k) si h.nm (λx=>absurd rfl x) (λa i=>by cases i) h.st
theorem Im:∀{b:List Tok}{g:Gs},SF g->kU g.sh b->(∀t∈b,t.t.length<=4000000)->SF (cT g b)|[],_,h,_,_=>h|t::r,g,h,a,c=>by rw[kv];exact Im (Cl h a.1 (c t (dT))) (by rw[jj g t true a.1];exact a.2) λx d=>c x (f_ _ d)
theorem xm:SF a_:=⟨by simp[a_],λf a=>(by cases a),λt b=>(by cases b)⟩
theorem Oe(z:Sn)(b:Nat):(∀t∈(an z b).ts,t.af=0\/t.af=z.at'\/t.af=z.tk.af)/\((an z b).z.tk.af=z.at'\/(an z b).z.tk.af=z.tk.af)/\(an z b).z.at'=z.at':=by grind(splits:=30)[Sn.to,bt,gC,cm,O,gu,il,fL,dK,cU,bm,aC,bT,fe,gO,gf,kV,jb,an,gG,cw,cN,iQ,fA]
theorem Io:∀(l:List UInt8)(z:Sn)(N:Nat),z.at'+l.length<=N->z.tk.af<N->(∀t∈(aj z l).ts,t.af<N)/\(aj z l).z.tk.af<N
 |[],_,_,_,h=>⟨by simp[aj],h⟩|b::l,z,N,d,i=>by
  obtain⟨f,g,e⟩:=Oe z b.toNat;have d:z.at'+(l.length+1)<=N:=by simpa using d
  have c:∀t∈(an z b.toNat).ts,t.af<N:=λt j=>by grind
  have a:(an z b.toNat).z.tk.af<N:=by grind
  rw[aj];split;.exact⟨c,a⟩
  split;.exact⟨c,a⟩
  have R:=Io l {(an z b.toNat).z with at':=(an z b.toNat).z.at'+1} N (by simp only[e];omega) a;grind
theorem qX(m:i.length<=4000000)(h:bD i=0)(d:jA i=some k):(∀v∈ai 10 k,fr v<i.length)/\∀v∈ai 10 k,EW v:=by
 obtain⟨g,l,_⟩:=Ck m h;have G:=u_ lK (show iO a_.st a_.ix from trivial) (ts:=iP i) g;obtain⟨_,_,c⟩:=G.l l k d;have f:0<i.length:=by cases i with|nil=>revert h;decide|cons a i=>simp
 have F:=Io i ah i.length (by simp[ah]) (by simpa[ah]using f);have b:=vg i ah 4000000 (by simp[ah];omega) (by simp[ah]);have j:∀k∈iP i,k.af<i.length:=λk d=>by
  rcases gU.1 d with e|e;.exact F.1 k e
  unfold fF at e;split at e;.rw[dy.1 e];exact F.2
  cases e
 have o:∀k∈iP i,k.t.length<=4000000:=λk d=>by
  rcases gU.1 d with e|e;.exact b.1 k e
  unfold fF at e;split at e;.rw[dy.1 e];exact b.2
  cases e
 have bd:(cT a_ (iP i)).bd<=i.length:=vd (by simp[a_]) g j;refine⟨λv n=>?_,(Im xm g o).l k d⟩;have:=c (fr v) (List.mem_map.2 ⟨v,n,rfl⟩);omega
def mK(a:Option Nat)(n:Nat):Bool:=match a with|none=>false|some h=>decide (h<n)
def gP(a:Option Nat)(n:Nat):Bool:=match a with|none=>false|some h=>decide (h<=n)
variable{j l:Option Nat}
theorem Cm(h:gP j n=false):mK j n=false:=by cases j with|none=>rfl|some k=>simp[gP,mK]at*;omega
def Ia(a:Option Nat):List Fm->Nat->Prop|[],_=>True|f::r,b=>f.kp=mK a r.length/\(gP a r.length=true->b=f.ws.length)/\(gP a r.length=false->f.ws=[])/\Ia a r f.ix
theorem Ia.o:∀{c:List Fm}{p d:Nat},(∀m,m<c.length->gP j m=false)->(∀m,m<c.length->gP l m=false)->Ia j c p->Ia l c d
 |[],_,_,_,_,_=>trivial|f::r,_,_,a,b,⟨i,_,k,n⟩=>by
  have g:=a r.length si;have h:=b r.length si;refine⟨?_,λe=>?_,λ_=>k g,Ia.o (λm o=>a m (by simp;omega)) (λm o=>b m (by simp;omega)) n⟩;.rw[i,Cm g,Cm h]
  rw[h]at e;cases e
def Uo(f:Fm):Nat:=1+(f.ws.flatMap (ai 10)).length
def NF(a:List Fm):Nat:=(a.map Uo).sum
theorem Up(n:Nat)(t:Tv):(ai n t).length<=(ai (n+1) t).length:=by
 induction n generalizing t with|zero=>simp[ai]|succ n b=>
  show(t::t.ws.flatMap (ai n)).length<=(t::t.ws.flatMap (ai (n+1))).length;have:∀l:List Tv,(l.flatMap (ai n)).length<=(l.flatMap (ai (n+1))).length:=by intro l;induction l with|nil=>simp|cons a l c=>simp only[List.flatMap_cons,List.length_append];have:=b a;omega
  grind
theorem Co(f:Fm)(b:Nat):(ai 10 (f.tv b)).length<=Uo f:=by
 show(f.tv b::f.ws.flatMap (ai 9)).length<=1+(f.ws.flatMap (ai 10)).length;have:∀l:List Tv,(l.flatMap (ai 9)).length<=(l.flatMap (ai 10)).length:=by intro l;induction l with|nil=>simp|cons a l c=>simp only[List.flatMap_cons,List.length_append];have:=Up 9 a;simp only[Nat.reduceAdd]at this;omega
 grind
theorem Cp(b:List Sg):∀(n:Nat)(t:Tv)(c:List Ct),(b7 b n t c).length<=(ai n t).length
 |0,_,_=>aP _|n+1,t,c=>by
  show((t.ws.zipIdx.flatMap λp=>b7 b n p.1 (cZ b t.d.kind t.ws.length p.2 p.1 c))++(if 0<(aG c b.length).eB then[(t,(aG c b.length).eB)]else[])).length<=(t::t.ws.flatMap (ai n)).length;have d:∀(l:List Tv)(i m:Nat),((l.zipIdx i).flatMap λp=>b7 b n p.1 (cZ b t.d.kind m p.2 p.1 c)).length<=(l.flatMap (ai n)).length:=by intro l;induction l with|nil=>intro _ _;simp|cons a l f=>intro i m;have e:=f (i+1) m;have g:=Cp b n a (cZ b t.d.kind m i a c);simp only[List.zipIdx_cons,List.flatMap_cons,List.length_append];omega
  have e:=d t.ws 0 t.ws.length;grind
def Zh(a:List Sg)(b:List Ct):Prop:=ay a<a.length->∀k,ay a<=k->aG b k=⟨0,0⟩
variable{f:List Ct}
theorem Uq(h:f.length<=n):aG f n=⟨0,0⟩:=by grind(splits:=30)[aG]
theorem Of(a:Ct)(l:List Ct)(k:Nat):aG (a::l) (k+1)=aG l k:=by grind[aG]
theorem Og(a:Ct)(l:List Ct):aG (a::l) 0=a:=rfl
variable{a:List Sg}
theorem Ur(g:f.length=a.length+1)(h:Zh a f)(e L i:Nat)(c:Tv)(n:¬0<(aG (cZ a e L i c f) (ay a)).eB):Zh a (cZ a e L i c f):=λd k o=>by have b:=h d;have l:=kx e L i c a f g;cases k with
 |zero=>have m:ay a=0:=om;have j:=b 0 om;cases f with|nil=>simp at g|cons p q=>
   rw[Og]at j
   show(⟨0,p.al⟩:Ct)=⟨0,0⟩
   rw[j]|succ k=>grind[Uq,Of,kX,dX,aG,ay,cZ]
theorem Us(c:¬0<(aG (b8 a.length) (ay a)).eB):Zh a (b8 a.length):=λb k d=>by grind(splits:=30)[aG,ay,b8]
structure wW(xs:List Sg)(s:Fw):Prop where
 n:s.told.length+NF s.g.st<=s.g.bd
 fr:Ia s.hd s.g.st s.g.ix
 tl:s.tl.length=(match s.hd with|none=>s.g.st.length|some h=>h+1)hd:∀h,s.hd=some h->h<s.g.st.length
 ct:∀i(h:i<s.tl.length),xp xs i s.tl[i]z:∀i(h:i<s.tl.length),(s.hd=none\/i+1<s.tl.length)->Zh xs s.tl[i]
theorem nu(a:List Sg):wW a cJ:=⟨by simp[cJ,a_,NF],trivial,rfl,λh e=>(by cases e),λi h=>(by cases h),λi h=>(by cases h)⟩
variable{b:Fw}
theorem wW.may(h:wW a b):jR b.g b.hd.isSome:=λf p q e=>by have c:=h.fr;rw[e]at c;cases d:b.hd with|none=>rw[d]at f;cases f|some k=>have:=h.hd k d;rw[e]at this;refine c.2.1 ?_;grind[gP]
def gQ(a:List Sg)(s:Fw)(d:jt)(b:Nat):Fw:={jk a s d with g:=⟨⟨d,s.g.ix,s.hd.isSome,[]⟩::s.g.st,[],0,b+1,s.g.last⟩}
theorem qw{b:Type}(l:List b)(a:b)(h:l≠[]):l.getLastD a=l[l.length-1]'(by cases l with|nil=>exact absurd rfl h|cons x y=>simp):=by grind
theorem nw {xs:List Sg} (hx:∀g ∈ xs,0<g.l.length) {s:Fw} (h:wW xs s) (d:jt) {b:Nat} (hb:s.g.bd<=b):wW xs (gQ xs s d b):=by
 have hn:=h.n
 cases hh:s.hd with
 | some k =>
  have hk:=h.hd k hh
  have e:gQ xs s d b={ s with g:=⟨⟨d,s.g.ix,true,[]⟩::s.g.st,[],0,b+1,s.g.last⟩ }:=by unfold gQ jk; rw [hh]; simp [hh]
  rw [e]
  have htl:=h.tl
  rw [hh] at htl
  refine ⟨?_,?_,?_,λj hj=>?_,h.ct,λi hi hz=>h.z i hi hz⟩
  ·grind [Uo,NF]
  ·show Ia s.hd (⟨d,s.g.ix,true,[]⟩::s.g.st) 0
   refine ⟨?_,λ_=>rfl,λ_=>rfl,h.fr⟩
   rw [hh]; simp [mK,hk]
  ·grind
  grind
 | none =>
  have htl:=h.tl
  rw [hh] at htl
  simp only at htl
  -- the new tally
  have hT:xp xs s.g.st.length (eO xs s d)/\(¬0<(aG (eO xs s d) (ay xs)).eB->Zh xs (eO xs s d)):=by
   unfold eO
   cases hs:s.g.st with
   | nil=>exact ⟨Cq xs hx,Us⟩
   | cons p q =>
    have hne:s.tl≠[]:=λe=>by rw [e,hs] at htl; simp at htl
    have hlt:s.tl.length - 1<s.tl.length:=by rw [htl,hs]; simp
    have hc:=h.ct (s.tl.length - 1) hlt
    have e1:s.tl.length - 1=q.length:=by rw [htl,hs]; simp
    simp only
    rw [qw s.tl [] hne]
    refine ⟨?_,λh0=>Ur hc.len (h.z _ hlt (Y hh)) _ _ _ _ h0⟩
    grind [qy]
  obtain ⟨hd',wX⟩:∃hd',hd'=if ay xs<xs.length/\0<(aG (eO xs s d) (ay xs)).eB then some s.g.st.length else none:=⟨_,rfl⟩
  have e:gQ xs s d b=⟨⟨⟨d,s.g.ix,false,[]⟩::s.g.st,[],0,b+1,s.g.last⟩,s.tl++[eO xs s d],hd',s.told⟩:=by unfold gQ jk; rw [hh,wX]; simp
  have h01:hd'=some s.g.st.length\/(hd'=none/\Zh xs (eO xs s d)):=by grind (splits:=30) [dz.late,Sg.late,Zh,dX,aG,eO,ay,bn,jc,cZ,b8]
  clear wX
  rw [e]
  have hin:∀m,m<s.g.st.length->gP hd' m=false:=λm hm=>by grind (splits:=30) [gP]
  refine ⟨?_,?_,?_,λj hj=>?_,λi hi=>?_,λi hi hz=>?_⟩
  ·grind [Uo,NF]
  ·show Ia hd' (⟨d,s.g.ix,false,[]⟩::s.g.st) 0
   refine ⟨?_,λ_=>rfl,λ_=>rfl,?_⟩
   ·rcases h01 with y | ⟨y,_⟩<;>rw [y]<;>simp [mK]
   have:=h.fr
   rw [hh] at this
   exact Ia.o (λ_ _=>rfl) hin this
  ·grind
  ·grind
  ·have hi:i<(s.tl++[eO xs s d]).length:=hi
   show xp xs i (s.tl++[eO xs s d])[i]
   by_cases hlt:i<s.tl.length
   ·rw [List.getElem_append_left hlt]; exact h.ct i hlt
   grind
  have hi:i<(s.tl++[eO xs s d]).length:=hi
  show Zh xs (s.tl++[eO xs s d])[i]
  by_cases hlt:i<s.tl.length
  ·rw [List.getElem_append_left hlt]; exact h.z i hlt (Y hh)
  grind
theorem tN(r:List Fm)(t:Tv):ku r false t=r:=by cases r<;>simp[ku,dS]
theorem vh(h:wW a b){f:Fm}{r:List Fm}(B:b.g.st=f::r)(c:Nat):wW a {im a b (f.tv c) r.length with g:=aE b.g f r c}:=by
 have D:=h.n;have z:=h.fr;rw[B]at D z;have F:NF (f::r)=Uo f+NF r:=by simp[NF]
 have y:=Co f c;obtain⟨w,H,J,x⟩:=z;by_cases o:b.hd.isSome=true/\b.hd≠some r.length
 .obtain⟨k,s⟩:∃k,b.hd=some k:=Option.isSome_iff_exists.1 o.1;have t:=h.hd k s;rw[B]at t;have g:k<r.length:=by grind
  have n:f.kp=true:=by rw[w,s];simp[mK,g]
  have e:{im a b (f.tv c) r.length with g:=aE b.g f r c}={b with g:=aE b.g f r c}:=by unfold im;rw[ae o]
  rw[e];cases r with|nil=>simp at g|cons p q=>
   obtain⟨L,M,N,P⟩:=x;have l:gP b.hd q.length=true:=by rw[s];simp[gP];simp at g;omega
   have v:(aE b.g f (p::q) c).st={p with ws:=p.ws++[f.tv c]}::q:=by simp[aE,ku,dS,n]
   refine⟨?_,?_,?_,λj A=>?_,h.ct,h.z⟩;.grind[ai,aE,Uo,NF]
   .grind[Ia,aE]
   .show b.tl.length=match b.hd with|none=>(aE b.g f (p::q) c).st.length|some h=>h+1;have:=h.tl;grind
   grind
 have u:f.kp=false:=by rw[w];cases C:b.hd with|none=>rfl|some k=>grind[mK]
 have l:∀m,m<r.length->gP b.hd m=false:=λm K=>by cases C:b.hd with|none=>rfl|some k=>grind[gP]
 have G:b.tl.length=r.length+1:=by have:=h.tl;grind
 have e:{im a b (f.tv c) r.length with g:=aE b.g f r c}=⟨aE b.g f r c,b.tl.dropLast,none,b.told++b7 a 10 (f.tv c) (b.tl.getLastD [])⟩:=by unfold im;rw[aa o]
 rw[e];have v:(aE b.g f r c).st=r:=by simp[aE,u,tN]
 refine⟨?_,?_,?_,λj A=>(by cases A),λi d=>?_,λi d _=>?_⟩;.grind[Cp,b7,aE,NF]
 .show Ia none (aE b.g f r c).st (f.ix+1);rw[v];exact Ia.o l (λ_ _=>rfl) x
 .grind
 .have d:i<b.tl.dropLast.length:=d;show xp a i b.tl.dropLast[i];rw[List.getElem_dropLast];exact h.ct i (by rw[List.length_dropLast]at d;omega)
 have d:i<b.tl.dropLast.length:=d;show Zh a b.tl.dropLast[i];rw[List.getElem_dropLast];rw[List.length_dropLast]at d;exact h.z i om (I om)
theorem xq(l:∀g∈a,0<g.l.length)(h:wW a b)(k:eN b.g.sh d):wW a (dE a b d):=by
 unfold dE;by_cases f:d.k=0;.rw[ae f];have:=nw l h (bK b.g d) (b:=d.af) (k.k0 f).2.2.2.2;unfold gQ at this;unfold aA;rw[ae f];exact this
 rw[aa f];by_cases j:d.k=1;.grind[vh,aE,aA]
 rw[aa j];by_cases i:d.k=2
 .rw[ae i];have e:aA b.g d true={b.g with nm:=d.t}:=by unfold aA;rw[aa f,aa j,ae i]
  rw[e];exact⟨h.n,h.fr,h.tl,h.hd,h.ct,h.z⟩
 rw[aa i];have P:=nw l h (bK b.g d) (b:=d.af) (k.k3 (by have:=k.k;omega)).2.2.2.2;have c:=vh P (f:=⟨bK b.g d,b.g.ix,b.hd.isSome,[]⟩) (r:=b.g.st) rfl d.to;have e:aA b.g d b.hd.isSome=aE {b.g with nm:=[],bd:=d.af+1} (aB b.g d b.hd.isSome) b.g.st d.to:=by unfold aA;rw[aa f,aa j,aa i]
 rw[e];have m:({im a (jk a b (bK b.g d)) ((aB b.g d true).tv d.to) b.g.st.length with g:=aE {b.g with nm:=[],bd:=d.af+1} (aB b.g d b.hd.isSome) b.g.st d.to}:Fw)={im a (gQ a b (bK b.g d) d.af) ((⟨bK b.g d,b.g.ix,b.hd.isSome,[]⟩:Fm).tv d.to) b.g.st.length with g:=aE (gQ a b (bK b.g d) d.af).g ⟨bK b.g d,b.g.ix,b.hd.isSome,[]⟩ b.g.st d.to}:=by
  unfold gQ im;simp only;split;.rfl
  rfl
 rw[m];exact c
theorem lL(l:List Nat)(k:Nat):gC (l++[k])=(k==6):=by simp[gC]
theorem Ip{z:Sn}(b:z.st=0\/z.st=1)(c:cm n=false)(a:n≠93):an z n=bm z n:=by rcases b with x|x<;>simp[an,x,c,bT,a]
