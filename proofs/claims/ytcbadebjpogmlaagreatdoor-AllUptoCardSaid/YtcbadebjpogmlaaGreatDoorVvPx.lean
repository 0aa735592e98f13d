import Derived.Test.YtcbadebjpogmlaaGreatDoorVvFe
namespace Tr
def zX(f:Fm)(a:List Tv):Fm:={f with ws:=f.ws++a}
theorem wk(f:Fm)(r:List Fm)(u:Tv):ku (f::r) true u=zX f [u]::r:=rfl
variable{a o:List UInt8}{n k i B F:Nat}{l:List Nat}{m:Fm}{g:List Fm}
theorem DV(h:At a n k (l++[B]) (m::g) i o)(j:m.kp=true)(e:bt a n≠256)(p:an (Zi a n) (bt a n)=cN (Zi a n)):At a (n+1) 5 l (ku g true (m.tv (n+1))) (m.ix+1) o/\(Gi a (n+1)).last=some (m.tv (n+1)):=by
 obtain⟨d,b,c⟩:=h.o.step e p (by simp[cN]);have f:=h.o.at';have c2:Gi a (n+1)=aA (Gi a n) ⟨1,0,0,n+1,0,[]⟩ true:=by rw[c];show aA (Gi a n) ⟨1,0,0,(Zi a n).at'+1,0,[]⟩ true=_;rw[f]
 have c3:aA (Gi a n) ⟨1,0,0,n+1,0,[]⟩ true=aE (Gi a n) m g (n+1):=by unfold aA;rw[aa si,ae rfl,h.fs]
 rw[c3]at c2;refine⟨⟨d,by rw[b];rfl,?_,?_,?_,?_⟩,?_⟩;.rw[b];show(Zi a n).op.dropLast=l;rw[h.op];simp
 .rw[c2];show ku g m.kp (m.tv (n+1))=_;rw[j]
 .rw[c2];rfl
 .rw[c2];exact h.nm
 rw[c2];rfl
theorem Lu(a:List Nat)(d:n=5\/n=6)(b:Nat)(c:cm b=false):gu (a++[n]) b=(b==44||b==(if n=5 then 93 else 125)):=by grind(splits:=30)[gC,cm,gu]
theorem adW(h:At a n 5 (l++[i]) (m::g) k [])(j:i=5\/i=6)(t:m.kp=true)(p:cm (bt a n)=false):(bt a n=44/\At a (n+1) (if i=6 then 3 else 0) (l++[i]) (m::g) k [])\/(bt a n≠44/\bt a n=(if i=5 then 93 else 125)/\At a (n+1) 5 l (ku g true (m.tv (n+1))) (m.ix+1) []/\(Gi a (n+1)).last=some (m.tv (n+1)))\/(bt a n≠44/\bt a n≠(if i=5 then 93 else 125)/\Bd a 2 n):=by
 have u:=h.st;have r:an (Zi a n) (bt a n)=aC (Zi a n) (bt a n):=by grind(splits:=30)[bT,an]
 by_cases e:bt a n=256;.right;right;refine⟨om,by rw[e];rcases j with rfl|rfl<;>simp,Bd.ends h.o e (k9 (I (by rw[h.op];simp)))⟩
 have o:=Lu l j (bt a n) p;by_cases f:bt a n=44
 .left;have s:aC (Zi a n) (bt a n)=(Zi a n).to (if i=6 then 3 else 0):=by unfold aC;rw[h.op,o,aa (by simp[f]),aa (by rw[p];simp),aa om,lL];grind
  obtain⟨d,b,c⟩:=h.o.step e (r.trans s) (by simp[Sn.to];split<;>omega);exact⟨f,⟨d,by rw[b];rfl,by rw[b];exact h.op,by rw[c];exact h.fs,by rw[c];exact h.ix,by rw[c];exact h.nm⟩⟩
 by_cases q:bt a n=(if i=5 then 93 else 125)
 .right;left;have s:aC (Zi a n) (bt a n)=cN (Zi a n):=by unfold aC;rw[h.op,o,aa (by simp[q]),aa (by rw[p];simp),ae f]
  grind[DV]
 right;right;refine⟨f,q,Bd.wrong h.o e ?_⟩;rw[r];unfold aC;rw[h.op,o,ae (by simp[f,q])];rfl
theorem Lv(c:cm (bt a n)=true):sk a n=sk a (n+1):=by
 refine(Sk.eq ⟨?_,?_,j6 a (n+1)⟩);.have:=e_ a (n+1);omega
 intro k d b;by_cases e:k=n;.rw[e];exact c
 exact Lf a (n+1) k om b
theorem yZ(b:cm (bt a n)=false):sk a n=n:=Sk.eq ⟨aP _,λk c d=>by omega,b⟩
variable{z:Int}
theorem wm(P:Pn a n k z l g i o)(b:gu l (bt a n)=true):an (Zi a n) (bt a n)=⟨(aC (Zi a n) (bt a n)).z,⟨3,3,k,n,z,[]⟩::(aC (Zi a n) (bt a n)).ts⟩:=by have c:=P.w.st;unfold an;rw[aa om,aa om,ae (I c)];unfold gG;rw[aa om,aa λy=>P.full y.1 y.2,P.w.op,aa (by rw[b];simp),P.t]
theorem Lw(d:0<n):Al n ⟨{(sv 3 z [] a o k i).d with cl:=(i:Int)},[]⟩ (sv 3 z [] a o k i):=by obtain⟨n,rfl⟩:∃c,n=c+1:=⟨n-1,om⟩;exact⟨rfl,rfl,λb h=>by cases h⟩
def Aft(s:List UInt8)(p m:Nat)(v u:Tv)(a:List Nat)(b:Nat)(f:Fm)(r:List Fm)(d k:Nat):Prop:=(bt s (sk s p)=44/\At s (sk s p+1) (if b=6 then 3 else 0) (a++[b]) (zX f [u]::r) (d+1) []/\Al m v u)\/(bt s (sk s p)≠44/\bt s (sk s p)=bW k/\At s (sk s p+1) 5 a (ku r true ((zX f [u]).tv (sk s p+1))) (f.ix+1) []/\(Gi s (sk s p+1)).last=some ((zX f [u]).tv (sk s p+1))/\Al m v u)\/(bt s (sk s p)≠44/\bt s (sk s p)≠bW k/\Bd s 2 (sk s p)/\∃c,(Gi s (sk s p)).st=zX f c::r/\lE m [v] (c++fD s (sk s p)))
variable{c f H:Tv}
theorem aft(e:VP a n k c f (l++[i]) (m::g) B o F)(hkc:(i=5/\F=4)\/(i=6/\F=5))(hk:m.kp=true)(hm:0<k):Aft a n k c f l i m g B F:=by
 have ee:(if i=5 then 93 else 125)=bW F:=by rcases hkc with⟨rfl,rfl⟩|⟨rfl,rfl⟩<;>rfl
 have z:i=5\/i=6:=om;have v:∀q,sk a q=sk a n->At a q 5 (l++[i]) (zX m [f]::g) (B+1) []->Al k c f->Aft a n k c f l i m g B F:=λq eq A N=>by
  have W:=A.sk om;rw[eq]at W;have R:=adW W z (show(zX m [f]).kp=true from hk) (j6 a n);rw[ee]at R;rcases R with⟨j,b⟩|⟨j,b,p,d⟩|⟨j,b,p⟩;.exact Y ⟨j,b,N⟩
  .exact I (Y ⟨j,b,p,d,N⟩)
  refine I (I ⟨j,b,p,[f],W.fs,?_⟩);rw[mn (by rw[W.st];omega),gz];exact lE.one N
 rcases e with⟨A,_,N⟩|⟨G,s,P,hu,hv⟩;.exact v n rfl A N
 have at':=P.w.o.at';have D:da F (bt a n)=true->Al k c f:=λy=>by grind[Lw]
 by_cases L:cm (bt a n)=true
 .have S:gu (l++[i]) (bt a n)=true:=by unfold gu;rw[L];rfl
  have t:bt a n≠256:=λy=>by rw[y]at L;cases L
  have x:=wm P S;have M:aC (Zi a n) (bt a n)=(Zi a n).to 5:=by unfold aC;rw[P.w.op,aa (by rw[S];simp),ae L]
  rw[M]at x;obtain⟨j,b,p⟩:=P.w.o.step t x (by simp[Sn.to]);have c2:Gi a (n+1)=aA (Gi a n) ⟨3,3,G,n,s,[]⟩ true:=p;rw[jW,P.w.fs,P.w.ix,P.w.nm,<-hu,wk]at c2;have fo:da F (bt a n)=true:=by grind(splits:=30)[da,cm]
  exact v (n+1) (Lv L).symm ⟨j,by rw[b];rfl,by rw[b];exact P.w.op,by rw[c2],by rw[c2],by rw[c2]⟩ (D fo)
 have w:cm (bt a n)=false:=by simpa using L
 have ej:=yZ w;unfold Aft;rw[ej];have K:=Lu l z (bt a n) w;rw[ee]at K;have J:bt a n≠44->bt a n≠bW F->da F (bt a n)=false:=λy1 y2=>by grind(splits:=30)[da,cm]
 have U:bt a n=44\/bt a n=bW F->da F (bt a n)=true:=λy=>by grind(splits:=30)[da]
 have C:bt a n≠44->bt a n≠bW F->lE k [c] ([]++fD a n):=λy1 y2=>by unfold fD;rw[ae P.w.st,P.t,P.w.fs,P.w.ix,P.w.nm];rw[J y1 y2,aa si]at hv;refine lE.one ?_;obtain⟨k,rfl⟩:∃m',k=m'+1:=⟨k-1,om⟩;rw[hv,hu];exact⟨rfl,rfl,λr h=>by cases h⟩
 have T:(Gi a n).st=zX m []::g:=by rw[P.w.fs];show _=({m with ws:=m.ws++[]}:Fm)::g;rw[gz]
 by_cases t:bt a n=256
 .have n1:bt a n≠44:=om;have n2:bt a n≠bW F:=by rw[t,<-ee];split<;>omega
  exact I (I ⟨n1,n2,Bd.ends P.w.o t (k9 (I (by rw[P.w.op];simp))),[],T,C n1 n2⟩)
 by_cases u:bt a n=44
 .left;have x:=wm P (by rw[K,u];rfl);have M:aC (Zi a n) (bt a n)=(Zi a n).to (if i=6 then 3 else 0):=by unfold aC;rw[P.w.op,K,aa (by simp[u]),aa (by rw[w];simp),aa om,lL];grind
  rw[M]at x;obtain⟨j,b,p⟩:=P.w.o.step t x (by simp[Sn.to];split<;>omega);have c2:Gi a (n+1)=aA (Gi a n) ⟨3,3,G,n,s,[]⟩ true:=p;rw[jW,P.w.fs,P.w.ix,P.w.nm,<-hu,wk]at c2;exact⟨u,⟨j,by rw[b];rfl,by rw[b];exact P.w.op,by rw[c2],by rw[c2],by rw[c2]⟩,D (U (Y u))⟩
 by_cases H:bt a n=bW F
 .right;left;have x:=wm P (by rw[K,H];simp);have M:aC (Zi a n) (bt a n)=cN (Zi a n):=by unfold aC;rw[P.w.op,K,aa (by simp[H]),aa (by rw[w];simp),ae u]
  rw[M]at x;obtain⟨j,b,p⟩:=P.w.o.step t x (by simp[cN]);have c2:Gi a (n+1)=aA (aA (Gi a n) ⟨3,3,G,n,s,[]⟩ true) ⟨1,0,0,n+1,0,[]⟩ true:=by rw[p];show aA (aA (Gi a n) ⟨3,3,G,n,s,[]⟩ true) ⟨1,0,0,(Zi a n).at'+1,0,[]⟩ true=_;rw[at']
  have c3:aA (aA (Gi a n) ⟨3,3,G,n,s,[]⟩ true) ⟨1,0,0,n+1,0,[]⟩ true=aE (aA (Gi a n) ⟨3,3,G,n,s,[]⟩ true) (zX m [f]) g (n+1):=by
   have es:(aA (Gi a n) ⟨3,3,G,n,s,[]⟩ true).st=zX m [f]::g:=by rw[jW,P.w.fs,P.w.ix,P.w.nm,<-hu,wk]
   grind[Gi,aA]
  rw[c3]at c2;refine⟨u,H,⟨j,by rw[b];rfl,?_,?_,by rw[c2];rfl,by rw[c2,jW];rfl⟩,by rw[c2];rfl,D (U (I H))⟩;.rw[b];show(Zi a n).op.dropLast=l;rw[P.w.op];simp
  rw[c2];show ku g (zX m [f]).kp ((zX m [f]).tv (n+1))=_;grind[zX]
 refine I (I ⟨u,H,Bd.wrong P.w.o t ?_,[],T,C u H⟩);have st:=P.w.st;unfold an;rw[aa om,aa om,ae (I st)];unfold gG;rw[aa om,aa λy=>P.full y.1 y.2,P.w.op,ae (by rw[K];simp[u,H])];rfl
def N_:List Fm->List Tv->List Tv|[],a=>a|f::r,a=>N_ r [⟨{f.d with cl:=-1},f.ws++a⟩]
theorem y_:∀(b:List Fm)(f:Fm)(a:List Tv),N_ (b++[f]) a=[⟨{f.d with cl:=-1},f.ws++N_ b a⟩]|[],_,_=>rfl|_::b,f,_=>y_ b f _
def RV(s:List UInt8)(b:Nat)(e:List UInt8)(k i:Nat)(f:List Nat)(c:List Fm)(d:Nat)(R:Rs):Prop:=(R.e=0/\i<R.p/\∃v u,R.ws=[v]/\VP s R.p (10-b) v u f c d e k)\/(R.e≠0/\Bd s R.e R.p/\∃a,(Gi s R.p).st=a++c/\lE (10-b) R.ws (N_ a (fD s R.p))/\(a=[]->(Zi s R.p).st≠5))
def RP'(s:List UInt8)(c i:Nat)(b:List Nat)(f:Fm)(r:List Fm)(R:Rs):Prop:=(R.e=0/\i<R.p/\∃a,lE (9-c) R.ws a/\At s R.p 5 b (ku r true ⟨{f.d with to:=R.p},a⟩) (f.ix+1) []/\(Gi s R.p).last=some ⟨{f.d with to:=R.p},a⟩)\/(R.e≠0/\Bd s R.e R.p/\∃d a,(Gi s R.p).st=d++({f with ws:=a}::r)/\lE (9-c) R.ws (a++N_ d (fD s R.p)))
theorem adY(s:List UInt8)(n b:Nat)(c a:List UInt8)(k i:Nat)(d:List Tv):rd s (n+1) false b c a k i d=(if bt s (sk s i)=256 then⟨[],2,sk s i⟩else if bt s (sk s i)=91\/bt s (sk s i)=123 then(if 8<b then⟨[],3,sk s i⟩else held (if bt s (sk s i)=91 then 4 else 5) c a (sk s i) (if bt s (sk s (sk s i+1))=bW (if bt s (sk s i)=91 then 4 else 5)then⟨[],0,sk s (sk s i+1)+1⟩else rd s n true b [] a (if bt s (sk s i)=91 then 4 else 5) (sk s (sk s i+1)) []))else iC s c a k (sk s i)):=by rw[rd]
def Bu(s:List UInt8)(n b:Nat)(c:List UInt8)(k i a:Nat):Rs:=if k=4 then rd s n false (b+1) [] (c++[91]++dec a++[93]) 4 i []else if(aM s (sk s i)).e≠0 then⟨[],(aM s (sk s i)).e,(aM s (sk s i)).p⟩else if bt s (sk s (aM s (sk s i)).p)=58 then rd s n false (b+1) (aM s (sk s i)).t (c++[91]++h_ (aM s (sk s i)).t++[93]) 5 (sk s (aM s (sk s i)).p+1) []else⟨[],2,sk s (aM s (sk s i)).p⟩
theorem adZ(s:List UInt8)(n b:Nat)(d c:List UInt8)(k i:Nat)(a:List Tv):rd s (n+1) true b d c k i a=(if(Bu s n b c k i a.length).e≠0 then⟨a++(Bu s n b c k i a.length).ws,(Bu s n b c k i a.length).e,(Bu s n b c k i a.length).p⟩else if bt s (sk s (Bu s n b c k i a.length).p)=44 then rd s n true b [] c k (sk s (Bu s n b c k i a.length).p+1) (a++(Bu s n b c k i a.length).ws)else if bt s (sk s (Bu s n b c k i a.length).p)=bW k then⟨a++(Bu s n b c k i a.length).ws,0,sk s (Bu s n b c k i a.length).p+1⟩else⟨a++(Bu s n b c k i a.length).ws,2,sk s (Bu s n b c k i a.length).p⟩):=by rw[rd];rfl
structure Fo(s:List UInt8)(i st:Nat)(op0:List Nat)(kc k dp:Nat)(pt:List UInt8)(f:Fm)(r:List Fm):Prop where
 a:At s i st (op0++[kc]) (f::r) f.ws.length []kc:(kc=5/\k=4)\/(kc=6/\k=5)st:(k=4->st=0\/(st=1/\bt s (sk s i)≠93))/\(k=5->st=3\/(st=2/\bt s (sk s i)≠125))kp:f.kp=true
 kd:f.d.kind=k
 pt:f.d.path=pt
 dp:op0.length+1=dp/\dp<=8
theorem QD(h:At a n k l g i [])(N:k=3\/(k=2/\bt a (sk a n)≠125))(C:l≠[]):((aM a (sk a n)).e≠0/\Bd a (aM a (sk a n)).e (aM a (sk a n)).p/\(Gi a (aM a (sk a n)).p).st=g/\((Zi a (aM a (sk a n)).p).st≠5/\(Zi a (aM a (sk a n)).p).st≠9))\/((aM a (sk a n)).e=0/\n<(aM a (sk a n)).p/\((bt a (sk a (aM a (sk a n)).p)=58/\At a (sk a (aM a (sk a n)).p+1) 0 l g i (aM a (sk a n)).t)\/(bt a (sk a (aM a (sk a n)).p)≠58/\Bd a 2 (sk a (aM a (sk a n)).p)/\(Gi a (sk a (aM a (sk a n)).p)).st=g/\((Zi a (sk a (aM a (sk a n)).p)).st≠5/\(Zi a (sk a (aM a (sk a n)).p)).st≠9)))):=by
 have A:=h.sk om;have W:=j6 a n;have K:=e_ a n;generalize sk a n=j at*;have U:=A.st;have x:=A.o.at';have ml:=A.o.ml;have v:an (Zi a j) (bt a j)=if bt a j=34 then dK (Zi a j) 2 else(Zi a j).to 12:=by grind(splits:=30)[bt,bT,an]
 by_cases o:bt a j=34
 .rw[ae o]at v;obtain⟨e,b,c⟩:=A.o.step om v (by simp[dK]);have B:aM a j=dP a (a.length+1) (j+1) []:=by unfold aM;rw[ae o]
  have M:j<a.length:=cQ om;have d:Is a (j+1) 2 j [] l g i []:=by
   refine⟨⟨e,by rw[b];rfl,by rw[b];exact A.op,by rw[c];exact A.fs,by rw[c];exact A.ix,by rw[c];exact A.nm⟩,?_,?_⟩;.rw[b];exact A.o.rn.ok.x (by show(Zi a j).st≠6/\(Zi a j).st≠7;omega)
   rw[b];show(⟨2,4,(Zi a j).at',0,0,[]⟩:Tok)=_;rw[x]
  rw[B];rcases qE (Y rfl) (a.length+1) (j+1) [] d om om with⟨F,s⟩|⟨F,s,q3,q4⟩
  .right;generalize(dP a (a.length+1) (j+1) []).p=p at*;generalize(dP a (a.length+1) (j+1) []).t=t at*;have L:=s.ge;refine⟨F,om,?_⟩;rcases s.r with⟨y,_⟩|⟨_,P,R,S,T⟩;.omega
   have G:At a p 4 l g i t:=⟨s.o,P,s.op,R,S,T⟩;have m:=G.sk om;have J:=j6 a p;generalize sk a p=q at*;have u:=m.st;have w:an (Zi a q) (bt a q)=if bt a q=58 then(Zi a q).to 0 else(Zi a q).to 12:=by grind(splits:=30)[bt,bT,an]
   by_cases r:bt a q=58;.rw[ae r]at w;obtain⟨H,D,z⟩:=m.o.step om w (by simp[Sn.to]);exact Y ⟨r,⟨H,by rw[D];rfl,by rw[D];exact m.op,by rw[z];exact m.fs,by rw[z];exact m.ix,by rw[z];exact m.nm⟩⟩
   rw[aa r]at w;refine I ⟨r,?_,m.fs,by rw[u];omega⟩;by_cases f:bt a q=256;.exact Bd.ends m.o f (k9 (Y (by rw[u];omega)))
   exact Bd.wrong m.o f (by rw[w];rfl)
  grind
 rw[aa o]at v;have B:aM a j=⟨2,j,[]⟩:=by unfold aM;rw[aa o]
 rw[B];left;refine⟨si,?_,A.fs,show(Zi a j).st≠5/\(Zi a j).st≠9 by omega⟩;by_cases f:bt a j=256;.exact Bd.ends A.o f (k9 (I (by rw[A.op];exact C)))
 exact Bd.wrong A.o f (by rw[v];rfl)
theorem DW(s:List UInt8):∀n,(∀(l:Nat)(x o:List UInt8)(k i H:Nat)(G:List Nat)(M:List Fm)(ix:Nat),At s i H G M ix x->(H=0\/(H=1/\bt s (sk s i)≠93))->G.length+1=l->l<=9->iv M ix x=o->2*(s.length-i)+1<=n->RV s l x k i G M ix (rd s n false l x o k i []))/\(∀(l:Nat)(o:List UInt8)(k i H:Nat)(t:List Nat)(m:Nat)(f:Fm)(r:List Fm)(J:List Tv),Fo s i H t m k l o f r->lE (9-l) J f.ws->2*(s.length-i)+2<=n->RP' s l i t f r (rd s n true l [] o k i J))
 |0=>⟨λ_ _ _ _ _ _ _ _ _ _ _ _ _ _ h=>absurd h om,λ_ _ _ _ _ _ _ _ _ _ _ _ h=>absurd h om⟩|n+1=>by
  obtain⟨IV,IP⟩:=DW s n;constructor
  .intro l x o k i H G M ix h hst hop za hp hn;have A:=h.sk om;have hb:=j6 s i;have hge:=e_ s i;rw[adY];generalize sk s i=j at*;have W:=A.st;have at':=A.o.at';have e8:G.length<=8:=by rw[<-A.op];exact A.o.rn.ok.op.1
   by_cases p:bt s j=256;.rw[ae p];refine I ⟨si,Bd.ends A.o p (k9 (Y (by rw[W];omega))),[],A.fs,?_,λ_=>show(Zi s j).st≠5 by rw[W];omega⟩;show lE (10-l) [] (fD s j);grind[lE.nil,mn]
   rw[aa p];have hlt:j<s.length:=cQ (by have:=xI s j;omega);by_cases hl:bt s j=91\/bt s j=123
   .rw[ae hl];obtain⟨z,hkk⟩:∃z,z=if bt s j=91 then 4 else 5:=⟨_,rfl⟩;obtain⟨m,hkc⟩:∃m,m=if bt s j=91 then 5 else 6:=⟨_,rfl⟩;rw[<-hkk];have T:(m=5/\z=4/\bt s j=91)\/(m=6/\z=5/\bt s j=123):=by grind
    have e0:an (Zi s j) (bt s j)=jb (Zi s j) m (if m=5 then 1 else 2):=by grind[beg,bm]
    by_cases h9:8<l
    .rw[ae h9];refine I ⟨si,⟨A.o,I (Y ⟨rfl,hlt,?_⟩)⟩,[],A.fs,?_,λ_=>show(Zi s j).st≠5 by rw[W];omega⟩;.rw[e0];unfold jb;rw[ae (by rw[A.op];omega)];rfl
     show lE (10-l) [] (fD s j);grind[lE.nil,mn]
    rw[aa h9];have e1:jb (Zi s j) m (if m=5 then 1 else 2)=⟨{Zi s j with st:=(if m=5 then 1 else 2),op:=(Zi s j).op++[m]},[⟨0,m,(Zi s j).at',0,0,[]⟩]⟩:=by unfold jb;rw[aa (by rw[A.op];omega)]
    obtain⟨a,b,c⟩:=A.o.step p (e0.trans e1) (by simp only;split<;>omega);obtain⟨f,hf⟩:∃f,f=aB (Gi s j) ⟨0,m,j,0,0,[]⟩ true:=⟨_,rfl⟩;have c2:Gi s (j+1)={Gi s j with st:=f::(Gi s j).st,nm:=[],ix:=0,bd:=j+1}:=by rw[c,hf];show aA (Gi s j) ⟨0,m,(Zi s j).at',0,0,[]⟩ true=_;rw[at'];rfl
    have fd:f.d=⟨z,0,[],x,o,j,0,0⟩:=by rw[hf];show bK (Gi s j) ⟨0,m,j,0,0,[]⟩=_;unfold bK;rw[A.fs,A.ix,A.nm,hp];rcases T with⟨rfl,rfl,_⟩|⟨rfl,rfl,_⟩<;>rfl
    have fix:f.ix=ix:=by rw[hf];exact A.ix
    have fkp:f.kp=true:=by rw[hf];rfl
    have N:f.ws=[]:=by rw[hf];rfl
    have A1:At s (j+1) (if m=5 then 1 else 2) (G++[m]) (f::M) 0 []:=⟨a,by rw[b],by rw[b];show(Zi s j).op++[m]=_;rw[A.op],by rw[c2,A.fs],by rw[c2],by rw[c2]⟩;have A2:=A1.sk (by split<;>omega);have zY:=j6 s (j+1);have ZX:=e_ s (j+1);generalize sk s (j+1)=q at*;have w:=A2.st;by_cases g:bt s q=bW z
    .rw[ae g];have e2:an (Zi s q) (bt s q)=cN (Zi s q):=by
      rcases T with⟨rfl,rfl,_⟩|⟨rfl,rfl,_⟩;.have w:(Zi s q).st=1:=w;have g:bt s q=93:=g;simp[an,w,bT,g,cm]
      have w:(Zi s q).st=2:=w;have g:bt s q=125:=g;simp[an,w,bT,g,cm]
     have P:bt s q≠256:=by rw[g];rcases T with⟨_,rfl,_⟩|⟨_,rfl,_⟩<;>simp[bW]
     obtain⟨B,L⟩:=DV A2 fkp P e2;rw[fix]at B;left;refine⟨rfl,show i<q+1 by omega,_,f.tv (q+1),rfl,Y ⟨B,L,?_⟩⟩;rw[show 10-l=(9-l)+1 by omega];refine⟨?_,by show 0=f.ws.length;rw[N];rfl,λi h1=>by cases h1⟩;have:(f.tv (q+1)).d=⟨z,0,[],x,o,j,q+1,0⟩:=by show({f.d with to:=q+1}:jt)=_;rw[fd]
     grind[Ak]
    rw[aa g];have F:Fo s q (if m=5 then 1 else 2) G m z l o f M:=by
     refine⟨by rw[N];exact A2,om,⟨λy=>I ⟨by rw[ae om],?_⟩,λy=>I ⟨by rw[aa om],?_⟩⟩,fkp,by rw[fd],by rw[fd],om⟩;.rw[yZ zY];rw[y]at g;exact g
     rw[yZ zY];rw[y]at g;exact g
    have R:=IP l o z q _ G m f M [] F (by rw[N];exact lE.nil _) om;generalize rd s n true l [] o z q []=C at*;rcases R with⟨U,r2,us,r3,r4,r5⟩|⟨U,r2,gs,us,r3,r4⟩;.left;unfold held;rw[U];rw[fix]at r4;refine⟨rfl,show i<C.p by omega,_,⟨{f.d with to:=C.p},us⟩,rfl,Y ⟨r4,r5,?_⟩⟩;rw[show 10-l=(9-l)+1 by omega];refine⟨?_,r3.1,r3.2⟩;grind[Ak]
    right;unfold held;refine⟨U,r2,gs++[{f with ws:=us}],by rw[gh];exact r3,?_,λy=>by simp at y⟩;rw[y_];refine lE.one ?_;rw[show 10-l=(9-l)+1 by omega];refine⟨?_,r4.1,r4.2⟩;show(⟨z,0,[],x,o,j,if C.e=0 then C.p else 0,if C.e=0 then(C.p:Int)-1 else-1⟩:jt)=_;rw[aa U,aa U,fd];rfl
   rw[aa hl];have S:=OT (k:=k) (m:=10-l) A om hb p om om om hp;generalize iC s x o k j=C at*;rcases S with⟨a1,a2,v,u,a3,a4⟩|⟨a1,a2,a3,a4,a5⟩;.exact Y ⟨a1,om,v,u,a3,a4⟩
   refine I ⟨a1,a2,[],a4,?_,λ_=>a5.1⟩;show lE (10-l) C.ws (fD s C.p);grind[lE.nil,mn]
  intro l o k i H t m f r J F hA hn;have hlen:J.length=f.ws.length:=hA.1;have hne:t++[m]≠[]:=si;have D:(t++[m]).length+1=l+1:=by rw[cG,List.length_singleton,F.dp.1]
  have za:=F.dp;rw[adZ];have d:(∃x,RV s (l+1) x k i (t++[m]) (f::r) f.ws.length (Bu s n l o k i J.length)):=by
   unfold Bu;rcases F.kc with⟨y1,K⟩|⟨y1,K⟩;.rw[ae K,K];refine⟨[],IV (l+1) [] _ 4 i H _ (f::r) f.ws.length F.a (F.st.1 K) D om ?_ om⟩;show ji f.d.kind f.d.path f.ws.length []=_;rw[F.kd,F.pt,K,hlen];rfl
   rw[aa om,K];rcases QD F.a (F.st.2 K) hne with⟨n1,n2,n3,n4⟩|⟨n1,n2,n3⟩;.rw[ae n1];refine⟨[],I ⟨n1,n2,[],n3,?_,λ_=>n4.1⟩⟩;show lE _ [] (fD s (aM s (sk s i)).p);grind[lE.nil,mn]
   rw[aa (by simpa using n1)];rcases n3 with⟨m1,m2⟩|⟨m1,m2,m3,m4⟩
   .rw[ae m1];have hg:=e_ s (aM s (sk s i)).p;have e:=IV (l+1) (aM s (sk s i)).t (o++[91]++h_ (aM s (sk s i)).t++[93]) 5 (sk s (aM s (sk s i)).p+1) 0 _ (f::r) f.ws.length m2 (Y rfl) D om (by show ji f.d.kind f.d.path f.ws.length _=_;rw[F.kd,F.pt,K];rfl) om;refine⟨(aM s (sk s i)).t,?_⟩;rcases e with⟨v1,v2,v3⟩|v;.exact Y ⟨v1,om,v3⟩
    exact I v
   rw[aa m1];refine⟨[],I ⟨si,m2,[],m3,?_,λ_=>m4.1⟩⟩;show lE _ [] (fD s (sk s (aM s (sk s i)).p));grind[lE.nil,mn]
  generalize Bu s n l o k i J.length=q at*;obtain⟨x,d⟩:=d;have em:10-(l+1)=9-l:=om;rcases d with⟨e1,e2,v,u,e3,e4⟩|⟨e1,e2,gs,e3,e4,_⟩
  .rw[aa (by simpa using e1)];rw[em]at e4;have hg:=e_ s q.p;rcases aft e4 F.kc F.kp om with⟨b1,b2,b3⟩|⟨b1,b2,b3,b4,b5⟩|⟨b1,b2,b3,us,b4,b5⟩
   .rw[ae b1,e3];have hkc:=F.kc;have XB:sk s q.p<s.length:=cQ om;have F2:Fo s (sk s q.p+1) (if m=6 then 3 else 0) t m k l o (zX f [u]) r:=by refine⟨?_,F.kc,⟨λy=>Y (by rw[aa om]),λy=>Y (by rw[ae om])⟩,F.kp,F.kd,F.pt,F.dp⟩;grind[zX]
    have R:=IP l o k (sk s q.p+1) _ t m (zX f [u]) r (J++[v]) F2 (hA.app (lE.one b3)) om;rcases R with⟨U,r2,r3⟩|R;.exact Y ⟨U,om,r3⟩
    exact I R
   .rw[aa b1,ae b2,e3];exact Y ⟨rfl,show i<sk s q.p+1 by omega,f.ws++[u],hA.app (lE.one b5),b3,b4⟩
   rw[aa b1,aa b2,e3];refine I ⟨si,b3,[],f.ws++us,b4,?_⟩;show lE (9-l) (J++[v]) (f.ws++us++fD s (sk s q.p));rw[gh];exact hA.app b5
  rw[ae e1];rw[em]at e4;exact I ⟨e1,e2,gs,f.ws,e3,hA.app e4⟩
theorem at0(s:List UInt8)(a:s.length<=4000000):At s 0 0 [] [] 0 []:=by refine⟨⟨rfl,om,a⟩,?_,?_,?_,?_,?_⟩<;>simp[Zi,Gi,Zs,Gt,aj,ah,cT,a_]
theorem pB:Zi a a.length=(aj ah a).z/\Gi a a.length=cT a_ (aj ah a).ts:=by grind(splits:=30)[Gi,Gt,Zi,Zs]
theorem Bv(h:Bd a n k):(k<a.length->(aj ah a).e=n/\(aj ah a).z.at'=k/\(aj ah a).ts=(aj ah (a.take k)).ts)/\(k=a.length->(aj ah a).e=0/\n=2/\aZ (aj ah a).z=false):=by
 obtain⟨o,h⟩:=h;constructor
 .intro e;have q:a=a.take k++a.drop k:=(iU k a).symm;have p:a.drop k=a[k]::a.drop (k+1):=List.drop_eq_getElem_cons e;have c:=eQ (a.take k) (a.drop k) ah o.e;rw[<-q]at c;have g:=o.rn;have S:=gY g.ok g.lk g.st (by rw[g.at',List.length_take];have:=o.ml;omega) (a[k]).toNat;have r:(aj ah (a.take k)).z=Zi a k:=rfl;rw[r,p]at c;have d:=o.at';rcases h with⟨i,_,f⟩|⟨m,_,f⟩|⟨_,y,_⟩
  .rw[IZ e]at f;have er:aj (Zi a k) (a[k]::a.drop (k+1))=⟨(an (Zi a k) (a[k]).toNat).z,2,(an (Zi a k) (a[k]).toNat).ts⟩:=by rw[aj,ae f]
   rw[er]at c;rw[c];have b:=S.no (by show 11<=(an (Zi a k) (a[k]).toNat).z.st;omega);have b:(an (Zi a k) (a[k]).toNat).ts=[]:=b;exact⟨i.symm,(show(an (Zi a k) (a[k]).toNat).z.at'=k from(S.at').trans d),by simp only[b,List.append_nil]⟩
  .rw[IZ e]at f;have er:aj (Zi a k) (a[k]::a.drop (k+1))=⟨(an (Zi a k) (a[k]).toNat).z,3,(an (Zi a k) (a[k]).toNat).ts⟩:=by rw[aj,aa om,ae f]
   rw[er]at c;rw[c];have b:=S.no (by show 11<=(an (Zi a k) (a[k]).toNat).z.st;omega);have b:(an (Zi a k) (a[k]).toNat).ts=[]:=b;exact⟨m.symm,(show(an (Zi a k) (a[k]).toNat).z.at'=k from(S.at').trans d),by simp only[b,List.append_nil]⟩
  omega
 intro e;rcases h with⟨_,y,_⟩|⟨_,y,_⟩|⟨i,_,j⟩;.omega
 .omega
 subst e;have l:=o.e;rw[bX]at l;rw[pB.1]at j;exact⟨l,i,j⟩
structure RdW(s:List UInt8):Prop where
 ok:(aw s).e=0->bD s=0/\(aw s).p=s.length/\∃v u,(aw s).ws=[v]/\jA s=some u/\((Al 9 v u)\/(∃f n,u=sv 3 n [] [] [36] f s.length/\v=⟨{u.d with cl:=-1},[]⟩))no:(aw s).e≠0->bD s=(aw s).e/\jB s=(aw s).p/\Bd s (aw s).e (aw s).p
 o:∃i,Oi s i/\(aj ah s).ts=(aj ah (s.take i)).ts/\(((Gi s i).st=[]/\∃v u,(aw s).ws=[v]/\(Gi s i).last=some u/\Al 9 v u)\/(lE 9 (aw s).ws (N_ (Gi s i).st (fD s i))/\((Gi s i).st=[]->(Zi s i).st≠5)))
theorem Lx(h:Bd a n k):(aj ah a).ts=(aj ah (a.take k)).ts:=by
 rcases Nat.lt_or_ge k a.length with y|y;.exact((Bv h).1 y).2.2
 rw[show k=a.length by have:=h.1.le;omega,bX]
theorem Bw(h:Bd a n k):bD a=n/\jB a=k:=by
 obtain⟨b,c⟩:=Bv h;have d:n≠0:=by rcases h.2 with⟨y,_⟩|⟨y,_⟩|⟨y,_⟩<;>omega
 rcases Nat.lt_or_ge k a.length with y|y;.grind[jB,bD]
 have e:k=a.length:=by have:=h.1.le;omega
 grind[jB,bD]
theorem kP (s:List UInt8) (hl:s.length<=4000000):RdW s:=by
 have V:=(DW s (2 * s.length+3)).1 1 [] [36] 0 0 0 [] [] 0 (at0 s hl) (Y rfl) rfl om rfl om
 have eT:aw s=if (rd s (2 * s.length+3) false 1 [] [36] 0 0 []).e≠0 then rd s (2 * s.length+3) false 1 [] [36] 0 0 [] else if bt s (sk s (rd s (2 * s.length+3) false 1 [] [36] 0 0 []).p)=256 then ⟨(rd s (2 * s.length+3) false 1 [] [36] 0 0 []).ws,0,sk s (rd s (2 * s.length+3) false 1 [] [36] 0 0 []).p⟩ else ⟨(rd s (2 * s.length+3) false 1 [] [36] 0 0 []).ws,2,sk s (rd s (2 * s.length+3) false 1 [] [36] 0 0 []).p⟩:=rfl
 generalize rd s (2 * s.length+3) false 1 [] [36] 0 0 []=R at *
 rcases V with ⟨r1,r2,v,u,r3,r4⟩ | ⟨r1,r2,gs,r3,r4,r5⟩
 ·rw [aa (by simpa using r1)] at eT
  have hst:=j6 s R.p
  -- behind the value: blanks, and then the end
  have closed:∀q,sk s q=sk s R.p->At s q 5 [] [] 1 []->(Gi s (sk s R.p)).last=some u->Al 9 v u->RdW s:=λq eq A uL hA=>by
   have A2:=A.sk om
   rw [eq] at A2
   by_cases pD:bt s (sk s R.p)=256
   ·rw [ae pD] at eT
    have hp:sk s R.p=s.length:=by
     rcases Nat.lt_or_ge (sk s R.p) s.length with y | y
     ·have:=rk y; omega
     have:=A2.o.le; omega
    rw [hp] at A2 uL eT
    have oe:=A2.o.e
    rw [bX] at oe
    have st5:=A2.st
    have op5:=A2.op
    rw [pB.1] at st5 op5
    rw [pB.2] at uL
    have hw:aZ (aj ah s).z=true:=by simp [aZ,st5,op5]
    refine ⟨λ_=>⟨?_,by rw [eT],v,u,by rw [eT]; exact r3,?_,Y hA⟩,λy=>by rw [eT] at y; exact absurd rfl y,s.length,A2.o,by rw [bX],Y ⟨A2.fs,v,u,by rw [eT]; exact r3,by rw [pB.2]; exact uL,hA⟩⟩
    ·grind [bD]
    grind [fF,iP,jA]
   rw [aa pD] at eT
   have B:Bd s 2 (sk s R.p):=by
    refine Bd.wrong A2.o pD ?_
    have st5:=A2.st
    unfold an
    rw [aa om,aa om,aa om,aa om,aa (by rw [hst]; simp)]
    unfold bT
    rw [ae st5]
    unfold aC
    rw [ae (by rw [A2.op]; unfold gu; rw [hst]; rfl)]
    rfl
   have E:=Bw B
   refine ⟨λy=>by rw [eT] at y; simp at y,λ_=>?_,_,A2.o,Lx B,Y ⟨A2.fs,v,u,by rw [eT]; exact r3,uL,hA⟩⟩
   grind
  have r4:VP s R.p 9 v u [] [] 0 [] 0:=r4
  rcases r4 with ⟨A,uL,hA⟩ | ⟨f,n,P,hu,hv⟩
  ·refine closed R.p rfl A ?_ hA
   -- blanks tell nothing
   have keep:∀(k:Nat) {i:Nat},At s i 5 [] [] 1 []->(Gi s (run cm s k i)).last=(Gi s i).last:=λk=>by
    induction k with
    | zero=>intro i _; rfl
    | succ k ih =>
     intro i A
     rw [run]
     split
     ·rename_i hb
      rw [ih (A.blank om hb)]
      have zY:bt s i≠256:=λy=>by rw [y] at hb; cases hb
      have hs:=A.st
      have e:an (Zi s i) (bt s i)=(Zi s i).to 5:=by grind (splits:=30) [an]
      obtain ⟨_,_,c⟩:=A.o.step zY e (by simp [Sn.to])
      rw [c]; rfl
     rfl
   have:(Gi s (sk s R.p)).last=(Gi s R.p).last:=keep _ A
   rw [this]; exact uL
  have hP:=P.w
  by_cases hb:cm (bt s R.p)=true
  ·have hm1:gu [] (bt s R.p)=true:=by unfold gu; rw [hb]; rfl
   have pD:bt s R.p≠256:=λy=>by rw [y] at hb; cases hb
   have e1:=wm P hm1
   have e2:aC (Zi s R.p) (bt s R.p)=(Zi s R.p).to 5:=by
    unfold aC
    rw [hP.op,aa (by rw [hm1]; simp),ae hb]
   rw [e2] at e1
   obtain ⟨a,b,c⟩:=hP.o.step pD e1 (by simp [Sn.to])
   have c2:Gi s (R.p+1)=aA (Gi s R.p) ⟨3,3,f,R.p,n,[]⟩ true:=c
   rw [jW,hP.fs,hP.ix,hP.nm,<-hu] at c2
   have fo:da 0 (bt s R.p)=true:=by grind [da,cm]
   rw [ae fo] at hv
   have hA:Al 9 v u:=by rw [hv,hu]; exact Lw om
   have A1:At s (R.p+1) 5 [] [] 1 []:=⟨a,by rw [b]; rfl,by rw [b]; exact hP.op,by rw [c2]; rfl,by rw [c2],by rw [c2]⟩
   refine closed (R.p+1) (Lv hb).symm A1 ?_ hA
   have keep:∀(k:Nat) {i:Nat},At s i 5 [] [] 1 []->(Gi s (run cm s k i)).last=(Gi s i).last:=λk=>by
    induction k with
    | zero=>intro i _; rfl
    | succ k ih =>
     intro i A
     rw [run]
     split
     ·rename_i hb
      rw [ih (A.blank om hb)]
      have zY:bt s i≠256:=λy=>by rw [y] at hb; cases hb
      have hs:=A.st
      have e:an (Zi s i) (bt s i)=(Zi s i).to 5:=by grind (splits:=30) [an]
      obtain ⟨_,_,c⟩:=A.o.step zY e (by simp [Sn.to])
      rw [c]; rfl
     rfl
   grind [Lv,Gi,sk]
  have hbf:cm (bt s R.p)=false:=by simpa using hb
  rw [yZ hbf] at eT
  have fo:da 0 (bt s R.p)=false:=by grind [da,cm]
  rw [fo,aa si] at hv
  have hpe:lE 9 [v] (N_ (Gi s R.p).st (fD s R.p)):=by
   have e9:(Zi s R.p).st=9:=hP.st
   have ep:fD s R.p=[⟨{ u.d with cl:=-1 },[]⟩]:=by
    unfold fD
    rw [ae e9,P.t,hP.fs,hP.ix,hP.nm,hu]
   rw [hP.fs,ep,hv]
   exact lE.one ⟨rfl,rfl,λi h=>by cases h⟩
  have hO:∀{ws:List Tv},ws=R.ws->lE 9 ws (N_ (Gi s R.p).st (fD s R.p))/\((Gi s R.p).st=[]->(Zi s R.p).st≠5):=λ{ws} e=>⟨by rw [e,r3]; exact hpe,λ_=>by rw [hP.st]; omega⟩
  by_cases pD:bt s R.p=256
  ·rw [ae pD] at eT
   have hp:R.p=s.length:=by
    rcases Nat.lt_or_ge R.p s.length with y | y
    ·have:=rk y; omega
    have:=hP.o.le; omega
   have Pt:=P.t
   have hO2:=hO (ws:=(aw s).ws) (by rw [eT])
   rw [hp] at hP Pt hu hO2
   have oe:=hP.o.e
   rw [bX] at oe
   have st9:=hP.st
   have op9:=hP.op
   rw [pB.1] at st9 op9 Pt
   have hw:aZ (aj ah s).z=true:=by simp [aZ,st9,op9]
   refine ⟨λ_=>⟨?_,by rw [eT]; exact hp,v,u,by rw [eT]; exact r3,?_,I ⟨f,n,hu,hv⟩⟩,λy=>by rw [eT] at y; exact absurd rfl y,s.length,hP.o,by rw [bX],I hO2⟩
   ·grind [bD]
   unfold jA iP fF
   rw [ae st9,Pt,kC,<-pB.2]
   show (aA (Gi s s.length) ⟨3,3,f,s.length,n,[]⟩ true).last=some u
   rw [jW,hP.fs,hP.ix,hP.nm,<-hu]
  rw [aa pD] at eT
  have B:Bd s 2 R.p:=by
   refine Bd.wrong hP.o pD ?_
   have st9:=hP.st
   unfold an
   rw [aa om,aa om,ae (I st9)]
   unfold gG
   rw [aa om,aa (λy=>P.full y.1 y.2),hP.op,ae (by unfold gu; rw [hbf]; rfl)]
   rfl
  have E:=Bw B
  refine ⟨λy=>by rw [eT] at y; simp at y,λ_=>?_,_,hP.o,Lx B,I (hO (by rw [eT]))⟩
  grind
 rw [ae r1] at eT
 have E:=Bw r2
 rw [gz] at r3
 refine ⟨λy=>by rw [eT] at y; exact absurd y r1,λ_=>?_,R.p,r2.1,Lx r2,I ⟨by rw [eT,r3]; exact r4,λy=>r5 (r3▸y)⟩⟩
 grind
def er:Tv->Tv|⟨d,a⟩=>⟨{d with cl:=0},a.attach.map λx=>er x.1⟩termination_by t=>sizeOf t decreasing_by have:=List.sizeOf_lt_of_mem x.2;simp;omega
theorem ow(v:Tv):er v=⟨{v.d with cl:=0},v.ws.map er⟩:=by obtain⟨d,a⟩:=v;rw[er];simp
theorem wo(v:Tv):(er v).d={v.d with cl:=0}:=by rw[ow]
theorem zb(v:Tv):(er v).ws=v.ws.map er:=by rw[ow]
theorem zc:∀{n:Nat}{v u:Tv},Al n v u->er v=er u|0,_,_,h=>h.elim|n+1,v,u,⟨c,d,e⟩=>by rw[ow,ow u,c];congr 1;refine List.ext_getElem (by simp[d]) λi a b=>?_;rw[List.getElem_map,List.getElem_map];exact zc (e i (by simpa using a) (by simpa using b))
def Bx(a:Tv->Bool):Prop:=∀v,a (er v)=a v
theorem QE(v:Tv)(a:gI)(k:Nat):bj (er v) a k=(bj v a k).map er:=by
 unfold bj;rw[wo,zb];split
 .simp only;split
  .rw[<-List.map_take,List.find?_map];have:((λc:Tv=>c.d.name==a.name)∘er)=λc=>c.d.name==a.name:=by funext c;simp[wo]
   rw[this]
  rfl
 grind[idx]
theorem mC:∀(l:List gI)(v:Tv),aY (er v) l=(aY v l).map er|[],_=>rfl|a::l,v=>by rw[aY,aY,QE,zb,eY];cases bj v a v.ws.length with|none=>rfl|some u=>exact mC l u
theorem wu(c:Kt)(o:Option Tv):ei c (o.map er)=ei c o:=by grind[wo,ei]
theorem DX(c:Kt)(o:Option Tv):fS c (o.map er)=fS c o:=by grind[wo,fS]
theorem Wi(s:List UInt8)(l:List gI)(a:Nat):Bx (xe s l a).v:=by
 intro v;unfold xe;repeat' split
 .simp only[mC,wu]
 .simp only[mC,wu]
 .simp only[mC,wu,DX]
 .simp only[mC,DX]
 grind[mC]
theorem l6(s:List UInt8):∀(n m a:Nat)(b:Tv->Bool),Bx b->Bx (pC s n m a b).v
 |0,m,a,b,h=>by rw[Qx];exact h|n+1,0,a,b,h=>by
  rw[pC];split;.exactλv=>by simp only[l6 s n 0 (a+1) b h v]
  split;.exact l6 s n 2 (a+1) b h
  exact Wi s _ _|n+1,1,a,b,h=>by rw[pC];exact l6 s n 3 _ _ (l6 s n 0 a b h)|n+1,2,a,b,h=>by rw[pC];exact l6 s n 4 _ _ (l6 s n 1 a b h)|n+1,3,a,b,h=>by
  rw[pC];split;.refine l6 s n 3 _ _ λv=>?_;simp only[h v,l6 s n 0 (a+2) b h v]
  exact h|n+1,m+4,a,b,h=>by
  rw[pC];split;.refine l6 s n 4 _ _ λv=>?_;simp only[h v,l6 s n 1 (a+2) b h v]
  exact h
theorem QF(s:List UInt8)(a:Nat):Bx (bO s a).v.wh:=by
 unfold bO;repeat' split
 all_goals first|exactλ_=>rfl|exact l6 s _ 2 _ _ λ_=>rfl
def lx(g:Sg):Prop:=∀x∈g.l,Bx x.wh
theorem zd(s:List UInt8):∀(n a:Nat)(l:List dz),(∀x∈l,Bx x.wh)->∀x∈(eD s n a l).v,Bx x.wh
 |0,_,_,h=>h|n+1,a,l,h=>by
  have b:∀x∈l++[(bO s a).v],Bx x.wh:=λx c=>by grind[QF]
  rw[eD];split;.exact zd s n _ _ b
  exact b
theorem ze(s:List UInt8)(a:Nat):∀x∈(gg s a).v,Bx x.wh:=λx b=>by grind(splits:=30)[Bx,bt,er,isLet,gg,bV,run,sub]
theorem Ly(s:List UInt8)(a:Nat):∀x∈(zV s a).v,Bx x.wh:=zd s _ _ _ λ_ h=>by cases h
theorem QG(s:List UInt8)(a:Nat):lx (fX s a).v:=by
 unfold fX;repeat' split
 .exact Ly s _
 .exact Ly s _
 .exact ze s _
 exact ze s _
theorem zf(s:List UInt8):∀(n a:Nat)(l:List Sg),(∀g∈l,lx g)->∀g∈jh s n a l,lx g
 |0,_,_,h=>h|n+1,a,l,h=>by
  rw[jh];split;.refine zf s n _ _ λg b=>?_;grind[QG]
  exact h
theorem uM(s:List UInt8):∀g∈cK s,lx g:=zf s _ _ _ λ_ h=>by cases h
variable{D:dz}
theorem zg(h:Bx D.wh)(a L i:Nat)(w:Tv):bn D a L i (er w)=bn D a L i w:=by unfold bn;rw[wo,h w]
theorem Wj(h:Bx D.wh)(v:Tv):cq D (er v)=(cq D v).map er:=by unfold cq;rw[wo,zb,List.zipIdx_map,List.filter_map,List.map_map,List.map_map,eY];congr 1;apply List.filter_congr;grind[zg]
theorem By:∀(n:Nat)(v:Tv),ai n (er v)=(ai n v).map er|0,_=>rfl|n+1,v=>by rw[ai,ai,zb,List.map_cons,List.flatMap_map,List.map_flatMap];congr 1;exact fJ λc _=>By n c
variable{A:List dz}
theorem Lz(h:∀x∈A,Bx x.wh)(v:Tv):fM A (er v)=(fM A v).map er:=by unfold fM;grind[fJ,Wj]
theorem QH{g:Sg}(h:lx g)(v:Tv):dB g (er v)=(dB g v).map er:=by
 unfold dB;split;.rw[By,List.flatMap_map,List.map_flatMap];exact fJ λu _=>Lz h u
 exact Lz h v
theorem sG:∀(a:List Sg),(∀g∈a,lx g)->∀(N:List Tv),aq a (N.map er)=(aq a N).map er|[],_,_=>rfl|g::r,h,N=>by rw[aq,aq,List.flatMap_map,<-sG r λx b=>h x (f_ _ b),List.map_flatMap];grind[fJ,QH]
def LC(v:Tv):List UInt8×Nat×Nat:=(v.d.path,v.d.af,v.d.to)
theorem LD(v:Tv):LC (er v)=LC v:=by unfold LC;rw[wo]
variable{d:List Sg}
theorem LG(h:∀g∈d,lx g)(e:er c=er f):(aq d [c]).map LC=(aq d [f]).map LC:=by
 have k:∀w:Tv,(aq d [w]).map LC=(aq d [er w]).map LC:=λw=>by have:=sG d h [w];rw[List.map_singleton]at this;rw[this,List.map_map];apply List.map_congr_left;grind[LD]
 rw[k c,k f,e]
theorem uN(A:Nat->Nat)(L:List Tv):∀j,j<=L.length->∀u∈L.take j,∃x∈cP A (L.take j),A x.d.af=A u.d.af|0,_,u,a=>by cases a|j+1,h,u,a=>by have b:=uN A L j om;rw[kZ A h];rw[eC h]at a;grind[c_]
theorem DY(A:Nat->Nat)(v:Tv)(L:List Tv):∀j,j<=L.length->(∀h,kg A v (L.take j)=some h->(ai 10 h).any (c_ A v)=true/\∀u∈L.take j,(ai 10 u).any (c_ A v)=true->h.d.af<=u.d.af)/\(kg A v (L.take j)=none->∀u∈L.take j,(ai 10 u).any (c_ A v)=false)|0,_=>⟨λh e=>(by cases e),λ_ u c=>(by cases c)⟩|j+1,a=>by obtain⟨f,g⟩:=DY A v L j om;rw[oL A v a,eC a];generalize kg A v (L.take j)=b at*;cases d:(ai 10 L[j]).any (c_ A v)with|false=>grind[IM]|true=>cases b with|none=>grind[IN]|some x=>grind[CT,CQ]
def j7(A:Nat->Nat)(a:List Sg)(t v:Tv):Tv:=if 0<=jV a then(kg A v (cP A (aq (a.take (ay a)) [t]))).getD v else v
theorem oz(h:0<=jV d):ay d<d.length/\jV d=(ay d:Nat):=by grind(splits:=30)[jV]
theorem sH:∀(f:List Sg){N:List Tv},(∀u∈N,Tree u)->∀x∈aq f N,∃u∈N,x∈ai 10 u
 |[],_,a,x,c=>⟨x,c,bq (a x c).d⟩|g::r,N,a,x,c=>by
  have sub:∀u∈N.flatMap (dB g),∃y∈N,u∈ai 10 y:=λu b=>by obtain⟨y,hy,d⟩:=fE.1 b;exact⟨y,hy,(qM (a y hy) (bq (a y hy).d) d).1⟩
  obtain⟨u,b,e⟩:=sH r (N:=N.flatMap (dB g)) (λu b=>by obtain⟨y,hy,k⟩:=sub u b;exact(a y hy).of k) x c;obtain⟨y,hy,k⟩:=sub u b;exact⟨y,hy,(a y hy).mem k e⟩
def oA(A:Nat->Nat)(t:Tv):Prop:=∀u∈ai 10 t,∀v∈ai 10 t,A u.d.af=A v.d.af->u.d.af=v.d.af
variable{j:Nat->Nat}
theorem oA.eq(h:oA j c)(d:Tree c)(a:f∈ai 10 c)(b:H∈ai 10 c)(e:j f.d.af=j H.d.af):f=H:=gD d.a a b (h f a H b e)
theorem DZ{xs:List Sg}(f:Tree c)(m:oA j c):HoA xs c (j7 j xs c)/\(0<=jV xs->∀v∈aq xs [c],(kg j v (cP j (aq (xs.take (ay xs)) [c]))).isSome=true):=by
 have q:=ke f xs;have l:=ke f (xs.take (ay xs));have p:∀{v u},v∈ai 10 c->u∈ai 10 c->((ai 10 u).any (c_ j v)=true↔v∈ai 10 u):=λ{v u}d b=>by
  rw[List.any_eq_true];constructor;.rintro⟨x,g,e⟩;have:x=v:=m.eq f (f.mem b g) d (by simpa[c_]using e);rw[<-this];exact g
  intro k;exact⟨v,k,by simp[c_]⟩
 have a:ay xs<xs.length->∀v∈aq xs [c],∃h,kg j v (cP j (aq (xs.take (ay xs)) [c]))=some h/\h∈aq (xs.take (ay xs)) [c]/\v∈ai 10 h/\∀u∈aq (xs.take (ay xs)) [c],v∈ai 10 u->h.d.af<=u.d.af:=λn v d=>by
  have s:=q v d;obtain⟨H,i⟩:∃H,H=aq (xs.take (ay xs)) [c]:=⟨_,rfl⟩;rw[<-i]at l⊢;have o:∀u∈cP j H,u∈H:=λu b=>kE j H _ lr u (by rw[bX];exact b);have A:∀u∈H,u∈cP j H:=λu b=>by obtain⟨x,g,e⟩:=uN j H _ lr u (by rw[bX];exact b);rw[bX]at g;rw[<-m.eq f (l x (o x g)) (l u b) e];exact g
  have w:=DY j v (cP j H) _ lr;rw[bX]at w;cases r:kg j v (cP j H)with|none=>exfalso;have e:xs=xs.take (ay xs)++xs.drop (ay xs):=(iU _ _).symm;rw[e,pE,<-i]at d;obtain⟨u,b,t⟩:=sH _ (λu b=>f.of (l u b)) v d;grind|some h=>have z:h∈H:=o h (nG j v (cP j H) _ lr h (by rw[bX];exact r));grind
 refine⟨⟨λn v=>?_,λn v d=>?_⟩,λy v d=>?_⟩;.grind[oz,j7]
 .grind[j7,jV]
 grind[oz]
structure TdK(t:Tv)(h:Tv->Tv)(N:List Tv)(l:List Td):Prop where
 m:∀x∈l,x.v∈N/\x.n=ju x.v N/\x.ab=(h x.v).d.cl/\0<=x.ab
 c:∀v∈N,0<=(h v).d.cl->∃x∈l,x.v=v
 d:l.Pairwise λx y=>x.v≠y.v
theorem TI(s:Tree c)(A:oA j c)(h:Tv->Tv){N:List Tv}(p:∀u∈N,u∈ai 10 c):∀a,a<=N.length->TdK c h (N.take a) (tf j h (N.take a))
 |0,_=>⟨λx b=>(by cases b),λv o=>(by cases o),List.Pairwise.nil⟩|a+1,r=>by
  have d:=TI s A h p a om;have m:∀u∈N.take a,u∈ai 10 c:=λu f=>p u (List.mem_of_mem_take f);rw[nH j h r,eC r];have o:=p _ (bP r);generalize tf j h (N.take a)=l at*;generalize N.take a=M at*;generalize N[a]=v at*;have n:∀x∈l,(vs j v x=true↔x.v=v):=λx b=>by unfold vs;rw[Dd];exact⟨λe=>A.eq s (m _ (d.m x b).1) o e,λe=>by rw[e]⟩
  have B:ju v (M++[v])=ju v M+1:=by unfold ju;rw[List.countP_append];simp
  have C:∀u∈ai 10 c,u≠v->ju u (M++[v])=ju u M:=λu f e=>by have:fr v≠fr u:=λk=>e (gD s.a f o k.symm);grind[ju]
  unfold UH;by_cases q:l.any (vs j v)=true
  .rw[ae q];have w:∀x,(vt j v x).v=x.v/\(vt j v x).ab=x.ab:=λx=>by unfold vt;split<;>exact⟨rfl,rfl⟩
   refine⟨λy hy=>?_,λu f i=>?_,?_⟩;.obtain⟨x,b,rfl⟩:=List.mem_map.1 hy;obtain⟨D,F,G,H⟩:=d.m x b;grind[vt,vs]
   .have:u∈M\/u=v:=by grind
    rcases this with y|y;.obtain⟨x,b,e⟩:=d.c u y i;grind
    grind
   rw[List.pairwise_map];exact d.d.imp λ{x y}k=>by rw[(w x).1,(w y).1];exact k
  rw[aa q];have nx:∀x∈l,x.v≠v:=λx b e=>q (List.any_eq_true.2 ⟨x,b,(n x b).2 e⟩);have t:∀x∈l,x.v∈M++[v]/\x.n=ju x.v (M++[v])/\x.ab=(h x.v).d.cl/\0<=x.ab:=λx b=>by obtain⟨D,F,G,H⟩:=d.m x b;grind
  by_cases i:0<=(h v).d.cl
  .rw[ae i];have K:v∉M:=λJ=>by obtain⟨x,b,e⟩:=d.c v J i;exact nx x b e
   have L:ju v M=0:=by grind[nD]
   refine⟨λy hy=>?_,λu f g=>?_,?_⟩;.grind
   .rcases gU.1 f with z|z;.obtain⟨x,b,e⟩:=d.c u z g;grind
    simp_all
   exact List.pairwise_append.2 ⟨d.d,List.Pairwise.cons (λ_ z=>by cases z) List.Pairwise.nil,λx b y hy=>by rw[dy.1 hy];exact nx x b⟩
  rw[aa i];refine⟨t,λu f g=>?_,d.d⟩;rcases gU.1 f with z|z;.exact d.c u z g
  grind
variable{r:List Td}
theorem zh(g:fI 10 n k c)(A:oA j c)(C:r.Perm (tf j (j7 j d c) (aq d [c])))(J:Ord r r.length):r.map (λx=>(x.v,x.n))=tT d 10 c (b8 d.length):=by
 have f:Tree c:=⟨g.deep,g.Yx⟩;have H:=(DZ (xs:=d) f A).1;have o:=ke f d;have K:=TI f A (j7 j d c) o _ lr;rw[bX]at K;generalize tf j (j7 j d c) (aq d [c])=T at*;generalize j7 j d c=h at*;have P:=IL f H g lr (bq f.d) (D7 f d) λhl u w L=>gD f.a (bq f.d) (ke f _ u w) (by have h1:=j8 f.a (ke f _ u w);have h2:=j8 (f.of (ke f _ u w)).a L;omega);have t:∀x∈r,x.v∈aq d [c]/\x.n=ju x.v (aq d [c])/\x.ab=(h x.v).d.cl/\0<=x.ab:=λx s=>K.m x (C.subset s);have l:∀x∈r,0<=x.v.d.cl:=λx s=>by obtain⟨c1,c2,c3,c4⟩:=t x s;have:=(P (x.v,x.n)).2 ⟨o _ c1,c1,c2,by rw[<-c3];exact c4⟩;exact(vq d _ g _ this).2.1
 have B:r.Pairwise λx y=>x.v≠y.v:=(C.pairwise_iff λ{x y}b e=>b e.symm).2 K.d;refine tU (R:=UG) (λn=>tY _) (λn k b=>Nat.lt_asymm b) (List.pairwise_map.2 ?_) (IK d _ g) λp=>?_
 .rw[List.pairwise_iff_getElem]at B⊢;intro i a q v m;have M:=B i a q v m;have n2:=J i a q v q m;have D:=bP q;have F:=bP v;generalize r[i]=x at*;generalize r[a]=y at*;obtain⟨c1,c2,c3,c4⟩:=t x D;obtain⟨G,S,U,W⟩:=t y F;show x.v.d.to<y.v.d.to;rcases Nat.lt_trichotomy x.v.d.to y.v.d.to with z|z|z;.exact z
  .exact absurd (g.UE (o _ c1) (o _ G) (l x D) (l y F) z) M
  grind[YA,mI]
 rw[P p,List.mem_map];constructor;.grind
 rintro⟨_,N,q3,R⟩;obtain⟨x,s,e⟩:=K.c _ N R;grind
theorem QI(h:∀x∈A,Bx x.wh)(a L i:Nat)(c:Tv):dX A a L i (er c)=dX A a L i c:=by grind[zg,dX,List.map_congr_left]
theorem D8(a L i:Nat)(c:Tv):∀(d:List Sg),(∀g∈d,lx g)->∀(b:List Ct),jc a L i (er c) d b=jc a L i c d b|[],_,_=>by simp[jc]|_::_,_,[]=>by simp[jc]|_::_,_,[_]=>by simp[jc]|s::r,h,f::j::b=>by rw[jc,jc,QI (h s dT),D8 a L i c r λg e=>h g (f_ _ e)]
theorem LH(h:∀g∈d,lx g):∀(n:Nat)(v:Tv)(a:List Ct),b7 d n (er v) a=(b7 d n v a).map λp=>(er p.1,p.2)
 |0,_,_=>rfl|n+1,v,a=>by
  rw[b7,b7,zb,wo,List.zipIdx_map,List.flatMap_map,fC,List.map_flatMap,eY];congr 1;.refine fJ λp _=>?_;show b7 d n (er p.1) (cZ d v.d.kind v.ws.length p.2 (er p.1) a)=_;unfold cZ;rw[D8 _ _ _ _ d h,LH h n]
  split<;>rfl
def kT(p:Tv×Nat):(List UInt8×Nat×Nat)×Nat:=(LC p.1,p.2)
def ndD(p:jt×Nat):(List UInt8×Nat×Nat)×Nat:=((p.1.path,p.1.af,p.1.to),p.2)
theorem uO(l:List (Tv×Nat)):(l.map tp).map ndD=l.map kT:=by rw[List.map_map];rfl
theorem Bz(h:∀g∈d,lx g)(n:Nat)(e:er c=er f)(a:List Ct):(b7 d n c a).map kT=(b7 d n f a).map kT:=by
 have k:∀w:Tv,(b7 d n w a).map kT=(b7 d n (er w) a).map kT:=λw=>by rw[LH h,List.map_map];apply List.map_congr_left;intro p _;show(LC p.1,p.2)=(LC (er p.1),p.2);rw[LD]
 rw[k c,k f,e]
def QJ(a:List Sg)(s:Fw):Prop:=s.hd.isSome=true->ay a<a.length/\0<(aG (s.tl.getLastD []) (ay a)).eB
variable{p:Fw}
theorem LJ(h:QJ d p)(a:jt):QJ d (jk d p a):=by grind(splits:=30)[QJ,dz.late,Sg.late,dX,aG,jk,eO,ay,bn,jc,cZ,b8]
theorem LM(h:QJ d p)(t:Tv)(r:Nat):QJ d (im d p t r):=by
 unfold im;split;.exact h
 intro k;cases k
theorem LO(a:List Sg):∀(b:List Tok){s:Fw},QJ a s->QJ a (bU a s b)
 |[],_,h=>h|t::r,s,h=>by
  refine LO a r (s:=dE a s t) ?_;unfold dE;split;.exact LJ h _
  split;.cases s.g.st with
   |nil=>exact h|cons f q=>exact LM h _ _
  split;.exact h
  exact LM (LJ h _) _ _
theorem QK{z:Sn}(j:jm z)(h:0<z.at'\/z.st<=5)(b:Nat):∀t∈(an z b).ts,t.k=0\/t.k=2\/0<t.to:=by
 have shut:∀z:Sn,∀t∈(cN z).ts,t.k=0\/t.k=2\/0<t.to:=λz t d=>by rw[dy.1 d];exact I (I (Nat.succ_pos _))
 have f:∀z:Sn,∀t∈(gO z).ts,t.k=0\/t.k=2\/0<t.to:=λz t d=>by rw[dy.1 d];exact I (I (Nat.succ_pos _))
 have g:∀t∈(aC z b).ts,t.k=0\/t.k=2\/0<t.to:=by
  unfold aC;repeat' split
  all_goals first|exact shut z|(intro t d;cases d)
 unfold an;split
 .rename_i m;unfold iQ;repeat' split
  .intro t d;cases d
  .intro t d;cases d
  .unfold gf;split;.exact f _
   rename_i l;intro t d;rw[dy.1 d];exact I (Y ((j.st (Y m)).resolve_right l))
  intro t d;cases d
 split;.unfold kV;split<;>(intro t d;cases d)
 split
 .rename_i n;have k:0<z.at':=om;unfold gG;repeat' split
  .intro t d;cases d
  .intro t d;cases d
  .intro t d;cases d
  intro t d;rcases fU.1 d with e|e;.rw[e];exact I (I k)
  exact g t e
 split
 .unfold fA;repeat' split
  .intro t d;cases d
  .exact f _
  intro t d;cases d
 split;.intro t d;cases d
 unfold bT;repeat' split
 .exact g
 .intro t d;cases d
 .exact shut z
 .unfold bm;have i:∀a c,∀t∈(jb z a c).ts,t.k=0\/t.k=2\/0<t.to:=λa c t d=>by
   unfold jb at d;split at d;.cases d
   grind
  repeat' split
  .exact i _ _
  .exact i _ _
  .intro t d;cases d
  .intro t d;cases d
  .intro t d;cases d
  .intro t d;cases d
  unfold fL;repeat' split
  all_goals(intro t d;cases d)
 .intro t d;cases d
 intro t d;cases d
theorem D_:∀(l:List UInt8){z:Sn}{s:Sh},jm z->Lk z s->z.st<=10->z.at'+l.length<=4000000->(0<z.at'\/z.st<=5)->∀t∈(aj z l).ts,t.k=0\/t.k=2\/0<t.to
 |[],_,_,_,_,_,_,_,t,a=>by cases a|b::l,z,s,f,j,k,m,h,t,a=>by
  have n:z.at'+(l.length+1)<=4000000:=by simpa using m
  have S:=gY f j k om b.toNat;rw[aj]at a;have N:=QK f h b.toNat t;split at a;.exact N a
  split at a;.exact N a
  rename_i i g;have d:(an z b.toNat).z.st<=10:=by have:=S.st;omega
  have e:=S.at';have c:=S.ok d;rcases gU.1 a with y|y;.exact N y
  exact D_ l (z:={(an z b.toNat).z with at':=(an z b.toNat).z.at'+1}) ⟨c.op,c.ne,c.tk,c.st,c.w,c.n,c.m,c.x⟩ (S.lk d) d (by simp only[e];omega) (Y (Nat.succ_pos _)) t y
def Wk(l:List Fm):Prop:=∀f∈l,f.d.cl=0/\∀u∈f.ws,u.d.cl=0/\0<u.d.to
theorem aaf(h:Wk g)(d:c.d.cl=0/\0<c.d.to)(b:Bool):Wk (ku g b c):=by cases g with|nil=>intro f a;cases a|cons p q=>grind(splits:=30)[Wk,dS,ku]
structure ClG(g:Gs):Prop where
 s:Wk g.st
 l:∀v,g.last=some v->v.d.cl=0/\0<v.d.to
variable{t:Gs}
theorem zi(h:Wk g)(a:m.d.cl=0)(b:0<n):ClG (aE t m g n):=⟨aaf h ⟨a,b⟩ _,λv e=>by cases e;exact⟨a,b⟩⟩
theorem LQ:∀{ts:List Tok}{g:Gs},(∀t∈ts,t.k=0\/t.k=2\/0<t.to)->ClG g->ClG (cT g ts)
 |[],_,_,h=>h|t::r,g,b,h=>by
  have l:=b t dT;refine LQ (ts:=r) (g:=aA g t true) (λx k=>b x (f_ _ k)) ?_;unfold aA;split
  .refine⟨λf c=>?_,h.l⟩;rcases fU.1 c with e|e;.rw[e];exact⟨rfl,λu j=>by cases j⟩
   exact h.s f e
  split;.cases i:g.st with
   |nil=>exact h|cons f q=>have a:=h.s;rw[i]at a;exact zi (λp d=>a p (f_ _ d)) (a f dT).1 om
  split;.exact⟨h.s,h.l⟩
  exact zi h.s rfl om
def Ij(c:List Sg)(b:List (List Ct))(a:Nat):Nat->List Fm->List (jt×Nat)|_,[]=>[]|m,f::r=>(if m<a then(ky c (9-m) f.d.kind f.ws (b.getD m [])).map tp else[])++Ij c b a (m+1) r
theorem zj(c:List Sg)(b:List (List Ct))(a:Nat)(f:Fm):∀(r:List Fm)(m:Nat),Ij c b a m (r++[f])=Ij c b a m r++(if m+r.length<a then(ky c (9-(m+r.length)) f.d.kind f.ws (b.getD (m+r.length) [])).map tp else[])|[],m=>by simp[Ij]|g::r,m=>by rw[List.cons_append,Ij,Ij,zj c b a f r (m+1),gh,nI,show m+1+r.length=m+(r.length+1)by omega]
theorem LU(c:List Sg)(b:List (List Ct))(a:Nat):∀(d:List Fm),iu c b a d=Ij c b a 0 d.reverse|[]=>rfl|f::r=>by rw[iu,List.reverse_cons,zj,LU c b a r,Nat.zero_add,List.length_reverse]
theorem Ea(c:List Sg)(b:List (List Ct))(a:Nat):∀(r:List Fm)(m:Nat),a<=m->Ij c b a m r=[]|[],_,_=>rfl|f::r,m,h=>by rw[Ij,aa om,Ea c b a r (m+1) om];rfl
def jL:List Fm->List Tv->List Tv|[],a=>a|f::r,a=>[⟨{f.d with cl:=-1},f.ws++jL r a⟩]
theorem uP(f:Fm):∀(r:List Fm)(a:List Tv),jL (r++[f]) a=jL r [⟨{f.d with cl:=-1},f.ws++a⟩]|[],_=>rfl|g::r,a=>by rw[List.cons_append,jL,jL,uP f r]
theorem LV:∀(b:List Fm)(a:List Tv),N_ b a=jL b.reverse a|[],_=>rfl|f::r,a=>by rw[N_,LV r,List.reverse_cons,uP]
def QL(a:List Sg)(b:List (List Ct))(d:Nat):Nat->List Fm->Prop|_,[]=>True|m,f::r=>(∀u∈f.ws,u.d.cl=0/\0<u.d.to)/\(b.getD m []).length=a.length+1/\(m<d->Zh a (b.getD m [])/\(∀c e,r=c::e->c.ix=f.ws.length/\b.getD (m+1) []=cZ a f.d.kind 0 c.ix ⟨c.d,[]⟩ (b.getD m []))/\QL a b d (m+1) r)/\(¬m<d->ay a<a.length/\0<(aG (b.getD m []) (ay a)).eB)
theorem QM(h:Al n c f):c.d={f.d with cl:=Ak f.d}:=by cases n with|zero=>exact h.elim|succ n=>exact h.1
theorem zk(h:Al n c f):(f.d.cl=0/\0<f.d.to->0<=c.d.cl)/\(f.d.cl<0->c.d.cl=-1):=by grind[QM,Ak]
theorem zm(b:List Sg)(n:Nat)(a:List Ct)(d:c.d.cl=-1)(e:c.ws=[]):tT b n c a=[]:=by cases n with|zero=>rfl|succ n=>simp_all[tT]
theorem zn {xs:List Sg} (hs:jS xs) (hr:∀g ∈ xs,lx g) {tl:List (List Ct)} {lv:Nat} {inner:List Tv} (hin:inner=[]\/∃x:Tv,inner=[x]/\x.ws=[]/\x.d.cl<0):∀(rs:List Fm) {m a b:Nat} {v w:Tv},rs≠[]->jL rs inner=[w]->Al (9 - m) v w->fI (10 - m) a b v->m+rs.length<=8->QL xs tl lv m rs->(tT xs (10 - m) v (tl.getD m [])).map kT=(Ij xs tl lv m rs).map ndD
 | [],_,_,_,_,_,h,_,_,_,_,_=>absurd rfl h
 | f::r,m,a,b,v,w,_,hp,hA,hS,hl,hL=>by
  obtain ⟨L1,L2,L3,L4⟩:=hL
  have hl':m+(r.length+1)<=8:=hl
  have ew:w=⟨{ f.d with cl:=-1 },f.ws++jL r inner⟩:=by grind (splits:=30) [jL]
  have hvc:v.d.cl=-1:=(zk hA).2 (by rw [ew]; show (-1:Int)<0; omega)
  have hk:v.d.kind=f.d.kind:=by rw [QM hA,ew]
  rw [show 10 - m=(9 - m)+1 by omega] at hS ⊢
  rw [tT,aa om]
  by_cases hm:m<lv
  ·obtain ⟨Z,D,N⟩:=L3 hm
   have z0:¬(ay xs<xs.length/\0<(aG (tl.getD m []) (ay xs)).eB):=λy=>by
    have:=Z y.1 (ay xs) lr
    grind
   rw [aa z0,Ij,ae hm]
   rw [show 9 - m=(8 - m)+1 by omega] at hA
   obtain ⟨_,hlen,LW⟩:=hA
   rw [ew] at hlen LW
   simp only at hlen LW
   -- the tallies hang on number and name alone
   have sw:∀(i:Nat) (c c':Tv) (L L':Nat),c.d.name=c'.d.name->cZ xs v.d.kind L i c (tl.getD m [])=cZ xs f.d.kind L' i c' (tl.getD m []):=λi c c' L L' e=>by grind [vm]
   have nmE:∀i (h:i<v.ws.length) (h':i<(f.ws++jL r inner).length),(v.ws[i]).d.name=((f.ws++jL r inner)[i]).d.name:=λi h h'=>by rw [QM (LW i h h')]
   have eV:v.ws.take f.ws.length++v.ws.drop f.ws.length=v.ws:=iU _ _
   have hfl:f.ws.length<=v.ws.length:=by rw [hlen,cG]; omega
   have hT:(v.ws.take f.ws.length).length=f.ws.length:=by rw [List.length_take]; omega
   have ag0:((v.ws.take f.ws.length).zipIdx.flatMap (λp=>tT xs (9 - m) p.1 (cZ xs v.d.kind v.ws.length p.2 p.1 (tl.getD m [])))).map kT=(ky xs (9 - m) f.d.kind f.ws (tl.getD m [])).map kT:=by
    unfold ky
    rw [List.map_flatMap,List.map_flatMap]
    have e1:(v.ws.take f.ws.length).zipIdx=(List.range f.ws.length).map (λi=>(v.ws.getD i ⟨f.d,[]⟩,i)):=by
     apply List.ext_getElem
     ·simp [hT]
     grind
    have e2:f.ws.zipIdx=(List.range f.ws.length).map (λi=>(f.ws.getD i ⟨f.d,[]⟩,i)):=by
     apply List.ext_getElem
     ·simp
     grind
    rw [e1,e2,List.flatMap_map,List.flatMap_map]
    refine fJ (λi hi=>?_)
    have hi:i<f.ws.length:=List.mem_range.1 hi
    have hi1:i<v.ws.length:=om
    have hi2:i<(f.ws++jL r inner).length:=om
    have a1:=LW i hi1 hi2
    rw [List.getElem_append_left hi] at a1
    have c1:=(zk a1).1 (L1 _ (bP hi))
    have g1:v.ws.getD i ⟨f.d,[]⟩=v.ws[i]:=by simp [hi1]
    have g2:f.ws.getD i ⟨f.d,[]⟩=f.ws[i]:=by simp [hi]
    simp only [g1,g2]
    rw [show 9 - m=(8 - m)+1 by omega,tT,ae c1,sw i v.ws[i] f.ws[i] v.ws.length f.ws.length (by rw [QM a1])]
    exact Bz hr _ (zc a1) _
   have ag1:(((v.ws.drop f.ws.length).zipIdx (0+f.ws.length)).flatMap (λp=>tT xs (9 - m) p.1 (cZ xs v.d.kind v.ws.length p.2 p.1 (tl.getD m [])))).map kT=(Ij xs tl lv (m+1) r).map ndD:=by
    have hdl:(v.ws.drop f.ws.length).length=(jL r inner).length:=by rw [List.length_drop,hlen,cG]; omega
    cases Ik:jL r inner with
    | nil =>
     have:v.ws.drop f.ws.length=[]:=List.length_eq_zero_iff.1 (by rw [hdl,Ik]; rfl)
     rw [this]
     cases r with
     | nil=>rfl
     | cons g q=>simp [jL] at Ik
    | cons x rest =>
     have XW:rest=[]:=by
      cases r with
      | nil =>
       grind [jL]
      | cons g q=>simp [jL] at Ik; exact Ik.2
     rw [XW] at Ik
     have Ic:v.ws.length=f.ws.length+1:=by rw [hlen,cG,Ik]; rfl
     have F':v.ws.drop f.ws.length=[v.ws[f.ws.length]'(by omega)]:=by grind [List.drop_eq_getElem_cons,List.drop_eq_nil_of_le]
     rw [F']
     have a1:=LW f.ws.length om (by rw [cG,Ik]; simp)
     have ex:(f.ws++jL r inner)[f.ws.length]'(by rw [cG,Ik]; simp)=x:=by simp [Ik]
     rw [ex] at a1
     have Za:=(hS.2.2.2.mem _ (bP (show f.ws.length<v.ws.length by omega)))
     generalize v.ws[f.ws.length]'(by omega)=c at *
     simp only [List.zipIdx_cons,List.zipIdx_nil,List.flatMap_cons,List.flatMap_nil,List.append_nil,Nat.zero_add]
     cases r with
     | nil =>
      rcases hin with y | ⟨y,y1,y2,y3⟩
      ·grind [jL]
      rw [show jL [] inner=inner from rfl,y1] at Ik
      have exy:y=x:=by simpa using Ik
      subst exy
      have hcw:c.ws=[]:=by
       rw [show 8 - m=(7 - m)+1 by omega] at a1
       exact List.length_eq_zero_iff.1 (by rw [a1.2.1,y2]; rfl)
      rw [zm xs _ _ ((zk a1).2 y3) hcw]
      rfl
     | cons g q =>
      obtain ⟨d1,d2⟩:=D g q rfl
      obtain ⟨_,_,_,_,q3,_⟩:=Za
      have exg:x=⟨{ g.d with cl:=-1 },g.ws++jL q inner⟩:=by grind [jL]
      have et:cZ xs v.d.kind v.ws.length f.ws.length c (tl.getD m [])=tl.getD (m+1) []:=by grind
      rw [et]
      have V0:m+1+(g::q).length<=8:=by simp at hl' ⊢; omega
      rw [show 9 - m=10 - (m+1) by omega] at q3 ⊢
      exact zn hs hr hin (g::q) si Ik (by rw [show 9 - (m+1)=8 - m by omega]; exact a1) q3 V0 N
   grind [uO]
  grind [Ea]
theorem vn.tail{c:List (List Ct)}:∀{a b:List Fm},vn d c (a++b)->vn d c b|[],_,h=>h|_::a,_,⟨_,h⟩=>vn.tail (a:=a) h
theorem Eb:∀{a b:List Fm}{c:Nat},iO (a++b) c->∃d,iO b d|[],_,c,h=>⟨c,h⟩|_::a,_,_,⟨_,_,h⟩=>Eb (a:=a) h
theorem TJ(W:TW d p t)(C:QJ d p)(m:Wk t.st)(o:iO t.st t.ix):∀(w a:List Fm),t.st=w.reverse++a->a.length<=lvl p->QL d p.tl (lvl p) a.length w
 |[],_,_,_=>trivial|f::r,a,e,j=>by
  have b:t.st=r.reverse++(f::a):=by rw[e];simp
  have D:f∈t.st:=by rw[b];simp
  have q:=W.st.len;have B:t.st.length=r.length+(a.length+1):=by rw[b];simp
  have K:a.length<p.tl.length/\(a.length<lvl p->Zh d (p.tl.getD a.length [])/\(r≠[]->a.length+1<p.tl.length))/\(¬a.length<lvl p->ay d<d.length/\0<(aG (p.tl.getD a.length []) (ay d)).eB):=by
   have x:=W.ok.tl;have z:=W.ok.z;have g:∀i(h:i<p.tl.length),p.tl.getD i []=p.tl[i]:=λi h=>by simp[h]
   unfold lvl at j⊢;cases n:p.hd with
   |none=>rw[n]at x j;simp only at x j⊢;have c:a.length<p.tl.length:=om;refine⟨c,λ_=>⟨by rw[g _ c];exact z _ c (Y n),λF=>?_⟩,λy=>absurd om y⟩;have:0<r.length:=List.length_pos_iff.2 F;omega|some k=>grind(splits:=30)[Wk,QJ,QL,dz.late,Sg.late,Zh,dX,aG,ay,iO,lvl,bn,jc,cZ]
  obtain⟨H,v,J⟩:=K;refine⟨λu G=>(m f D).2 u G,?_,λy=>⟨(v y).1,λA L er=>?_,?_⟩,J⟩;.have:=(W.ok.ct _ H).len;grind
  .subst er;have l:t.st=L.reverse++(A::f::a):=by rw[b];simp
   have s:=o;rw[l]at s;obtain⟨_,N,P,M⟩:=Eb s;have T:=W.tl;rw[l]at T;exact⟨M.1,T.tail.1 ((v y).2 si)⟩
  exact TJ W C m o r (f::a) b y
theorem rj.imp{P b:Nat->Nat->Tv->Prop}(h:∀{a n v},P a n v->b a n v){o:Prop}:∀{d:List Tv}{a:Nat},rj P n o a d->rj b n o a d
 |[],_,_=>trivial|c::r,a,k=>by
  have k:(if 0<=c.d.cl then P a c.d.to c/\c.d.to<=n/\rj P n o c.d.to r else r=[]/\o/\P a n c):=k;show(if 0<=c.d.cl then b a c.d.to c/\c.d.to<=n/\rj b n o c.d.to r else r=[]/\o/\b a n c);split at k;.rename_i e;rw[ae e];exact⟨h k.1,k.2.1,rj.imp h k.2.2⟩
  grind
theorem fI.more:∀{n a b:Nat}{v:Tv},fI n a b v->fI (n+1) a b v|0,_,_,_,h=>h.elim|_+1,_,_,_,⟨c,d,e,f⟩=>⟨c,d,e,rj.imp fI.more f⟩
theorem fI.b:∀{n a b e:Nat}{v:Tv},fI n a b v->0<=v.d.cl->b<=e->fI n a e v|0,_,_,_,_,h,_,_=>h.elim|_+1,_,_,_,_,⟨g,i,d,f⟩,c,j=>⟨g,om,λ_=>⟨(d c).1,by have:=(d c).2.1;omega,(d c).2.2⟩,by rw[ae c]at f⊢;exact f⟩
theorem qN(s:List UInt8):(aw s).ws=[]\/∃v,(aw s).ws=[v]/\fI 10 0 (s.length+1) v/\((aw s).e=0->0<=v.d.cl\/(v.d.cl<0/\v.d.af<v.d.to/\v.d.to=s.length/\v.d.kind=1/\v.ws=[])):=by
 have a:=(TM (B:=s.length+1) (tX _) (2*s.length+3)).1 1 [] [36] 0 0 om om;have e:(aw s).ws=(rd s (2*s.length+3) false 1 [] [36] 0 0 []).ws:=by grind[aw]
 have hF:=jM (s:=s) (2*s.length+3) false 1 [] [36] 0 0 [] om;have d:(aw s).e=0->(rd s (2*s.length+3) false 1 [] [36] 0 0 []).e=0/\bt s (sk s (rd s (2*s.length+3) false 1 [] [36] 0 0 []).p)=256:=by grind(splits:=30)[aw]
 rw[e];generalize rd s (2*s.length+3) false 1 [] [36] 0 0 []=R at*;have f:=hF.le;rcases a with⟨_,v,b,⟨c,_,y⟩|⟨c,y,l,i,m,j,k⟩⟩|⟨g,y|⟨v,b,c,y⟩⟩;.exact I ⟨v,b,y.more.b c om,λ_=>Y c⟩
 .refine I ⟨v,b,y.more,λh=>I ⟨om,i,?_,j,k⟩⟩;grind[rk,yZ,bt,da,cm]
 .exact Y y
 exact I ⟨v,b,y.more,λh=>absurd (d h).1 g⟩
theorem zo(hx:∀g∈d,0<g.l.length)(U:jS d)(hr:∀g∈d,lx g)(hl:a.length<=4000000):((aw a).ws=[]/\(bU d cJ (aj ah a).ts).told=[])\/∃v,(aw a).ws=[v]/\fI 10 0 (a.length+1) v/\(bU d cJ (aj ah a).ts).told.map kT=(tT d 10 v (b8 d.length)).map kT:=by
 obtain⟨i,o,G,C⟩:=(kP a hl).o;rw[G];have k:(a.take i).length<=4000000:=by rw[List.length_take];omega
 have R:=fW (a.take i) aX.1 aX.2 (by simp[ah]) (by simp only[ah,Nat.zero_add];exact k);have b:=qD (a.take i) (G:=a_) aX.1 aX.2 (by simp[ah]) (by simp only[ah,Nat.zero_add];exact k) λ_ _=>rfl;have W:=Ah hx U (xC d) lK (show iO a_.st a_.ix from trivial) R.tok b.1;have s:=u_ lK (show iO a_.st a_.ix from trivial) R.tok;have IX:iO (Gi a i).st (Gi a i).ix:=by
  have:∀(B:List Tok){g:Gs},iO g.st g.ix->iO (cT g B).st (cT g B).ix:=by intro B;induction B with|nil=>intro g h;exact h|cons t r ih=>intro g h;exact ih (g:=aA g t true) (qv h)
  exact this _ (g:=a_) trivial
 have D:=LQ (D_ (a.take i) aX.1 aX.2 (by simp[ah]) (by simp only[ah,Nat.zero_add];exact k) (I (by simp[ah]))) (g:=a_) ⟨λf hf=>(by cases hf),λv e=>(by cases e)⟩;have HD:=LO d (aj ah (a.take i)).ts (s:=cJ) (λh=>by cases h);have eG:cT a_ (aj ah (a.take i)).ts=Gi a i:=rfl;rw[eG]at W s D;have p:∀{l:List (Tv×Nat)},l.map tp=[]->l=[]:=λ{l}h=>List.map_eq_nil_iff.1 h;generalize bU d cJ (aj ah (a.take i)).ts=F at*;rcases C with⟨c1,v,u,c2,c3,c4⟩|⟨c1,c2⟩
 .right;rcases qN a with y|⟨v',j,q,_⟩;.rw[y]at c2;cases c2
  rw[c2]at j;have ev:v=v':=by simpa using j
  subst ev;refine⟨v,c2,q,?_⟩;have T:=W.told;rw[ae c1,c3]at T;rw[<-uO,T,uO,tT,ae ((zk c4).1 (D.l u c3))];grind[zc,Bz]
 by_cases c:(Gi a i).st=[]
 .have hz:=c2 c;have M:(Zi a i).op=[]:=(YC o.rn.lk).1.1 c;have m:(Gi a i).last=none:=b.2 o.e M hz;have T:=W.told;rw[ae c,m]at T;have N:=p T;rw[c]at c1;have c1:lE 9 (aw a).ws (fD a i):=c1;rcases qN a with y|⟨v,j,q,_⟩;.exact Y ⟨y,N⟩
  right;refine⟨v,j,q,?_⟩;rw[j]at c1;unfold fD at c1;split at c1;.have z:=c1.2 0 si si;simp only[List.getElem_cons_zero]at z;have A:v.ws=[]:=List.length_eq_zero_iff.1 z.2.1;rw[N,zm d _ _ ((zk z).2 (by show(-1:Int)<0;omega)) A]
  have:=c1.1;cases this
 right;have K:fD a i=[]\/∃x:Tv,fD a i=[x]/\x.ws=[]/\x.d.cl<0:=by grind(splits:=30)[fD]
 rw[LV]at c1;have n:(Gi a i).st.reverse≠[]:=by simpa using c
 obtain⟨w,A⟩:∃w,jL (Gi a i).st.reverse (fD a i)=[w]:=by cases H:(Gi a i).st.reverse with|nil=>exact absurd H n|cons f r=>exact⟨_,rfl⟩
 rw[A]at c1;rcases qN a with y|⟨v,j,q,_⟩;.rw[y]at c1;have:=c1.1;cases this
 refine⟨v,j,q,?_⟩;rw[j]at c1;have z:Al 9 v w:=c1.2 0 si si;have T:=W.told;rw[aa c,LU]at T;have L:=TJ W HD D.s IX (Gi a i).st.reverse [] si zl;have P:=zn U hr K (Gi a i).st.reverse (m:=0) n A z q (by have:=s.len;simp;omega) L;have t0:F.tl.getD 0 []=b8 d.length:=by
  obtain⟨f,r,J⟩:∃f r,(Gi a i).st.reverse=f::r:=by cases H:(Gi a i).st.reverse with|nil=>exact absurd H n|cons f r=>exact⟨f,r,rfl⟩
  have e3:(Gi a i).st=r.reverse++[f]:=by rw[<-List.reverse_reverse (Gi a i).st,J];simp
  have S:=W.tl;rw[e3]at S;refine S.tail.1 ?_;have tl:=W.ok.tl;have len:=W.st.len;grind
 grind[uO]
theorem QN(n:∀g∈d,0<g.l.length)(m:jS d)(l:∀g∈d,lx g)(h:a.length<=4000000)(b:(aw a).ws=[c])(f:oA j c)(k:r.Perm (tf j (j7 j d c) (aq d [c])))(i:Ord r r.length):r.map (λx=>kT (x.v,x.n))=(bU d cJ (aj ah a).ts).told.map kT:=by
 rcases zo n m l h with⟨y,_⟩|⟨o,p,q,s⟩;.rw[y]at b;cases b
 rw[p]at b;have e:o=c:=by simpa using b
 subst e;rw[s,<-zh q f k i,List.map_map];rfl
theorem Ec(h:(aw a).e=0)(b:(aw a).ws=[c])(j:f=if c.d.cl<0 then⟨{c.d with cl:=(a.length:Int)},c.ws⟩else c):fI 10 0 (a.length+1) f/\0<=f.d.cl/\er f=er c:=by
 rcases qN a with y|⟨d,g,k,i⟩;.rw[y]at b;cases b
 rw[g]at b;have e:d=c:=by simpa using b
 subst e;rcases i h with z|⟨l,m,n,o,p⟩;.grind
 grind(splits:=30)[rj,fI,bt,dec,qk,i_,bW,dC,er,hJ,da,held,cm,O,dF,qF,lJ,lO,h_,rd,aw,run,iC,sk,dP,aM,sC,sD,bM,su]
theorem LX(F:∀g∈d,0<g.l.length)(C:jS d)(B:∀g∈d,lx g)(k:a.length<=4000000)(h:(aw a).e=0)(i:(aw a).ws=[c])(D:f=if c.d.cl<0 then⟨{c.d with cl:=(a.length:Int)},c.ws⟩else c)(w:oA j f)(A:r.Perm (tf j (j7 j d f) (aq d [f])))(z:Ord r r.length):r.map (λx=>kT (x.v,x.n))=(bU d cJ (iP a)).told.map kT:=by
 obtain⟨l,m,o⟩:=Ec h i D;obtain⟨p,_,G,u,q,s,t⟩:=(kP a k).ok h;rw[q]at i;have e:G=c:=by simpa using i
 subst e;have v:er f=er u:=by
  rw[o];rcases t with y|⟨b,n,H,J⟩;.exact zc y
  rw[J,ow,ow u,H];rfl
 have T:=gV (List.map ndD) (Fa F C k p s);rw[uO,uO]at T;rw[T,<-Bz B 10 v,show(λx:Td=>kT (x.v,x.n))=kT∘λx:Td=>(x.v,x.n)from rfl,<-List.map_map,zh l w A z,tT,ae m]
