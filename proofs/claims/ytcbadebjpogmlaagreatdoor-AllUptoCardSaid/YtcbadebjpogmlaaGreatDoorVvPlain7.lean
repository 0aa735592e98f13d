import Derived.Test.YtcbadebjpogmlaaGreatDoorVvPlain
namespace Tr
variable{a c d:List UInt8}{n k i j m f g:Nat}{b l:St}
theorem Live.o'(h:Live a n k i c j b):Live a b.p k i c j b:=⟨h.e0,h.nn,h.le,aP _,by rw[sub_self,gz],h.ct,h.br,h.lv,h.ac⟩
theorem Live.pd(h:Live a n k i c j b)(e:Live a b.p g m d f l):Live a n g m d f l:=⟨e.e0,e.nn,e.le,az h.ge e.ge,by rw[e.tx,h.tx,gh,<-mz h.ge e.ge],e.ct,e.br,e.lv,e.ac⟩
theorem Live.na(h:Live a n k i c j b)(m:Nat):Live a n k i c m {b with n:=m}:=⟨h.e0,rfl,h.le,h.ge,h.tx,h.ct,h.br,h.lv,h.ac⟩
theorem yH.na(h:yH a n b)(m:Nat):yH a m {b with n:=m}:=⟨h.ne,rfl,h.er⟩
theorem Ok.na(h:Ok a n k i c j b)(m:Nat):Ok a n k i c m {b with n:=m}:=h.imp (λx=>x.na m) λx=>x.na m
theorem Ok.nn(h:Ok a n k i c j b):b.n=j:=by rcases h with h|h;exact h.nn;exact h.nn
theorem Bb(o:List UInt8):bI (o++[33])=bI o:=by simp[bI]
theorem ln(o:List UInt8):bI (o++[40])=o++[40]:=by simp_all[bI]
theorem uk:bI []=[]:=rfl
theorem Bc(o:List UInt8):iA (o++[40])=o:=by simp[iA]
theorem Gk(b:n≠256):nx (cS 18 a) n=norm (bw (cS 18 a) n):=by grind[dq,cS,aJ]
def gPE(g:G)(b:Nat):G:=if b=38 then{g with st:=19}else if b=124 then{g with st:=20}else if b=41/\g.op≠[]then{g with st:=18,op:=iA g.op}else if g.op=[]then bN g b else{g with st:=0}
theorem V'(g:G)(b:Nat):bw g b=gPE ⟨g.st,g.bh,g.sz,g.rs,bI g.op⟩ b:=rfl
theorem Wa(h:bI a=bI c)(b:Nat):nx (cS 18 a) b=nx (cS 18 c) b:=by
 by_cases d:b=256;.subst d;rw[j5 _ (by simp[cS]),j5 _ (by simp[cS])];rfl
 grind[V',Gk,cS]
theorem uj(h:Ok a n k 18 (c++[33]) i b):Ok a n k 18 c i b:=h.imp (λx=>x.as (Wa (Bb c) _)) id
theorem pf(x:UInt8)(f:x=33\/x=40)(h:Ok a n k 10 c i b)(d:ar a b x.toNat=true)(g:c.length≠6):Live a n k 10 (c++[x]) i (aH b):=by
 obtain⟨e,d⟩:=aF d;refine(h.live e).go x.toNat 10 (c++[x]) d (UInt8.toNat_lt x) ?_ rfl om om;rcases f with rfl|rfl;.grind[dq,cS,aJ,gA,Tr.norm]
 grind[dq,cS,aJ,gA,Tr.norm]
theorem Dy(x:Nat)(g:x=33\/x=40)(h:Ok a n k 10 c i b)(d:ar a b x=true)(f:c.length=6):Ok a n k 18 c i (wrong b 3):=by obtain⟨e,d⟩:=aF d;rw[fT e];refine I ((h.live e).bad 1 om ?_);grind[dq,cS,aJ,gA,Tr.norm]
theorem yp(h:Ok a n k 18 (c++[40]) i b)(f:b.e=0->bt a b.p≠38/\bt a b.p≠124):Ok a n k 18 c i (aO a b [41]):=by
 refine kN h om ?_ rfl om om ?_;.rw[Gk om];simp[bw,cS,ln,Bc,norm]
 intro l e;obtain⟨g,j⟩:=f l;by_cases d:bt a b.p=256;.grind[iI]
 rw[Gk d];simp[bw,cS,ln,g,j,e,norm]
theorem Ku(m:bI c=c)(h:Ok a n k 18 c i b)(f:ar a b 38=true):Ok a n k 10 c i (aO a b [38,38])/\((aO a b [38,38]).e=0->b.p+2<=(aO a b [38,38]).p):=by
 have e:aO a b [38,38]=aK a (aH b) 38:=by grind[aH,aO,aK]
 obtain⟨l,f⟩:=aF f;rw[e];have j:Live a n k 19 c i (aH b):=(h.live l).go 38 19 c f om (by grind[Gk,cS,bw,Tr.norm]) rfl om om;refine⟨kN (Y j) om rfl rfl om om ?_,?_⟩
 .intro _ g;by_cases d:bt a (aH b).p=256;.grind[iI]
  rw[dq om om d];simp[aJ,dh,cS,g,norm]
 grind[Ok,aH,bt,aO,aK,ar,bI,wrong]
theorem Tx(m:bI c=c)(h:Ok a n k 18 c i b)(f:ar a b 124=true):Ok a n k 10 c i (aO a b [124,124])/\((aO a b [124,124]).e=0->b.p+2<=(aO a b [124,124]).p):=by
 have e:aO a b [124,124]=aK a (aH b) 124:=by grind[aH,aO,aK]
 obtain⟨l,f⟩:=aF f;rw[e];have j:Live a n k 20 c i (aH b):=(h.live l).go 124 20 c f om (by grind[Gk,cS,bw,Tr.norm]) rfl om om;refine⟨kN (Y j) om rfl rfl om om ?_,?_⟩
 .intro _ g;by_cases d:bt a (aH b).p=256;.grind[iI]
  rw[dq om om d];simp[aJ,dh,cS,g,norm]
 grind[Ok,aH,bt,aO,aK,ar,bI,wrong]
theorem yr(h:Ok a n k 18 [] i b)(d:b.e=0->bt a b.p≠38/\bt a b.p≠124):Ok a n k 9 [] i b:=by
 rcases h with h|h
 .obtain⟨f,g⟩:=d h.e0;refine Y (h.as ?_);by_cases c:bt a b.p=256;.rw[c,j5 _ (by simp[cS]),j5 _ (by simp[cS])];rfl
  rw[Gk c,dq om om c];have e:norm (aJ (cS 9 []) (bt a b.p))=norm (bN (cS 9 []) (bt a b.p)):=by simp[aJ,cS]
  grind[uk,cS,bw,bN]
 exact I h
def base(s:List UInt8)(t:St):Nat:=if t.e=0 then t.p else s.length+1
theorem Ok.mine(h:Ok a n k i c j b):Ok a (base a b) k i c j b:=by
 rcases h with h|h;.unfold base;rw[ae h.e0];exact Y h.o'
 exact I h
theorem Ok.sr(h:Ok a n k i c j b)(e:Ok a (base a b) g m d f l):Ok a n g m d f l/\(l.e=0->b.e=0/\b.p<=l.p):=by
 rcases e with e|e
 .rcases h with h|h;.unfold base at e;rw[ae h.e0]at e;exact⟨Y (h.pd e),λ_=>⟨h.e0,e.ge⟩⟩
  have o:=e.ge;have p:=e.le;unfold base at o;rw[aa h.ne]at o;omega
 exact⟨I e,λh=>absurd h e.ne⟩
theorem yq(h:Ok a n k 6 [] 0 b)(c:ar a b 42=true):Ok a n k 9 [] 0 (aH b):=by obtain⟨d,c⟩:=aF c;exact Y ((h.live d).go 42 9 [] c om rfl rfl om om)
theorem pq(h:Ok a n k 6 [] 0 b)(c:ar a b 39=true):Ok a n k 9 [] 0 (fh a b):=by obtain⟨d,c⟩:=aF c;exact yK (h.live d) c rfl om rfl
theorem uo(h:Ok a n k 6 [] 0 b)(c:ar a b 63=true):Ok a n k 10 [] 0 (aH b):=by obtain⟨d,c⟩:=aF c;exact Y ((h.live d).go 63 10 [] c om rfl rfl om om)
theorem nx6(a:n≠256):nx (cS 6 []) n=norm (cE (cS 6 []) n):=by grind[dq,cS,aJ]
theorem um(h:Ok a n k 6 [] 0 b)(c:ar a b 45=true):Ok a n k 9 [] 0 (countP a b true):=by
 obtain⟨f,d⟩:=aF c;unfold countP d_;simp only[if_true,Bool.true_and];have e:has a b 45=aH b:=by unfold has;rw[ae c]
 rw[e,c];exact uB ((h.live f).step om (by rw[d];rfl) rfl si si) om
theorem ur(h:Ok a n k 6 [] 0 b)(d:ar a b 42=false)(f:ar a b 39=false)(g:ar a b 63=false)(i:ar a b 45=false)(j:ar a b 58=false):Ok a n k 7 [] 0 (countP a b true):=by
 rcases h with h|h
 .have m:countP a b true=bu a b false:=by grind[countP,has,d_]
  rw[m];rw[aL h.e0]at d f g i j;simp only[beq_eq_false_iff_ne,ne_eq]at d f g i j;refine pz h om rfl ?_ ?_;.grind[eZ,nx6,cE,O]
  intro l;by_cases c:bt a b.p=256;.grind[iI]
  rw[nx6 c];have o:¬bt a b.p=48:=by intro e;rw[e]at l;simp[O]at l
  grind[cS,bJ,cE,Tr.norm]
 rw[sq _ h];exact I h
theorem uq(d:i=6\/i=7)(h:Ok a n k i [] 0 b)(c:ar a b 58=true):Ok a n k 8 [] 0 (aO a b [58]):=by
 have e:aO a b [58]=aH b:=by simp only[aO,List.foldl_cons,List.foldl_nil];unfold aK;rw[ae c]
 obtain⟨f,c⟩:=aF c;rw[e];exact Y ((h.live f).go 58 8 [] c om (by rcases d with rfl|rfl<;>rfl) rfl om om)
theorem yM(a:n=7\/n=8\/n=9)(b:k≠256):nx (cS n []) k=norm (bN (cS n []) k):=by rw[dq om om b];rcases a with rfl|rfl|rfl<;>simp[aJ,cS]
theorem pY(h:Ok a n k 7 [] 0 b)(d:ar a b 58=false):Ok a n k 9 [] 0 b:=by
 rcases h with h|h
 .rw[aL h.e0]at d;simp only[beq_eq_false_iff_ne,ne_eq]at d;refine Y (h.as ?_);by_cases c:bt a b.p=256;.rw[c,j5 _ (by simp[cS]),j5 _ (by simp[cS])];rfl
  grind[yM,cS,bN]
 exact I h
theorem AV(h:Ok a n k 8 [] 0 b)(c:digit a b=true):Ok a n k 9 [] 0 (countP a b false):=by
 have d:b.e=0/\O (bt a b.p)=true:=by simpa[digit]using c
 have e:countP a b false=bu a b false:=rfl;rw[e];refine pz (h.live d.1) om rfl ?_ ?_;.grind[eZ,yM,cS,bN,O]
 grind
theorem ys(h:Ok a n k 8 [] 0 b)(g:digit a b=false):Ok a n k 9 [] 0 b:=by
 rcases h with h|h
 .have d:O (bt a b.p)=false:=by simpa[digit,h.e0]using g
  refine Y (h.as ?_);by_cases c:bt a b.p=256;.rw[c,j5 _ (by simp[cS]),j5 _ (by simp[cS])];rfl
  rw[yM om c,yM om c];have f:¬bt a b.p=48:=by intro e;rw[e]at d;simp[O]at d
  grind[cS,bJ,bN]
 exact I h
/-!### Segments -/
theorem Ld(s:List UInt8)(i:Nat)(h:(M s i).st<=1):∀j,i<=j->(M s j).st<=1:=by
 intro j b;induction j with|zero=>have:i=0:=om;subst this;exact h|succ j a=>
  by_cases e:i=j+1;.subst e;exact h
  have:=a om;show(nx (M s j) (bt s j)).st<=1;grind[nx]
theorem Ig.ge(h:Ig a n k){i:Nat}(e:2<=(M a i).st):i<=k:=by
 by_cases b:i<=k;.exact b
 have c:=h.st;have d:=h.e3;grind[Ld]
structure m_(s:List UInt8)(c:Nat)(acc:List UInt8)(t:St):Prop where
 e0:t.e=0
 nn:t.n=0
 le:t.p<=s.length
 lv:2<=(M s t.p).st
 ac:nx (M s t.p) (bt s t.p)=nx (cS 3 []) (bt s t.p)ct:C s t.p=c
 ty:((M s t.p).st=3/\T s t.p=acc)\/((M s t.p).st=21/\(M s t.p).bh=3/\cd (M s t.p) (bt s t.p)=false/\T s t.p++[39,93]=acc)
def qG(s:List UInt8)(c:Nat)(a:List UInt8)(t:St):Prop:=m_ s c a t\/yH s 0 t
structure Wb(s:List UInt8)(c X:Nat)(acc:List UInt8)(t:St):Prop where
 e0:t.e=0
 nn:t.n=0
 le:t.p<=s.length
 mm:M s t.p=cS X []ct:C s t.p=c
 tx:T s t.p=acc
theorem nx3(a:n≠256):nx (cS 3 []) n=norm (cC (cS 3 []) n):=by grind[dq,cS,aJ]
theorem m_.Z8(h:m_ a n c b):T a b.p++out (M a b.p) 46=c\/bt a b.p≠46:=by
 by_cases f:bt a b.p=46
 .left;rcases h.ty with⟨d,e⟩|⟨d,e,g,i⟩;.simp[out,d,e]
  grind[out]
 right;exact f
theorem vU(h:m_ a n c b)(d:ar a b 46=true):Wb a n 4 c (aH b):=by
 obtain⟨_,d⟩:=aF d;have g:=cQ (s:=a) (p:=b.p) om;have f:nx (M a b.p) (bt a b.p)=cS 4 []:=by rw[h.ac,d];rfl
 refine⟨h.e0,h.nn,g,by show M a (b.p+1)=_;simp only[M];exact f,?_,?_⟩
 .show C a (b.p+1)=n;simp only[C];have:inc (M a b.p) (bt a b.p)=0:=by grind(splits:=30)[cS,inc]
  rw[this,h.ct];rfl
 show T a (b.p+1)=c;simp only[T];rcases h.Z8 with e|e;.rw[d];exact e
 exact absurd d e
theorem DD(h:Wb a n 4 c b)(d:ar a b 46=true):Wb a n 5 (c++[46,46]) (aH b):=by
 obtain⟨_,d⟩:=aF d;have f:=cQ (s:=a) (p:=b.p) om;have e:nx (M a b.p) (bt a b.p)=cS 5 []:=by rw[h.mm,d];rfl
 refine⟨h.e0,h.nn,f,by show M a (b.p+1)=_;simp only[M];exact e,?_,?_⟩
 .show C a (b.p+1)=n;simp only[C];have:inc (M a b.p) (bt a b.p)=0:=by grind(splits:=30)[cS,inc]
  rw[this,h.ct];rfl
 show T a (b.p+1)=c++[46,46];simp only[T];rw[h.tx,h.mm,d];rfl
theorem og(g:k=4\/k=5)(h:Wb a n k c b)(e:ar a b 42=true):qG a (n+1) (c++[91,42,93]) (aH b):=by
 obtain⟨_,e⟩:=aF e;have j:=cQ (s:=a) (p:=b.p) om;have d:nx (M a b.p) (bt a b.p)=cS 3 []:=by rw[h.mm,e];rcases g with rfl|rfl<;>rfl
 have f:M a (b.p+1)=cS 3 []:=by simp only[M];exact d
 have i:T a (b.p+1)=c++[91,42,93]:=by simp only[T];rw[h.tx,h.mm,e];rcases g with rfl|rfl<;>rfl
 left;refine⟨h.e0,h.nn,j,?_,?_,?_,?_⟩;.show 2<=(M a (b.p+1)).st;rw[f];simp[cS]
 .show nx (M a (b.p+1)) _=_;rw[f]
 .show C a (b.p+1)=n+1;simp only[C];have:inc (M a b.p) (bt a b.p)=1:=by unfold inc;rw[d,aa (by simp[cS]),ae];rw[h.mm];simp[cS];exact g
  rw[this,h.ct]
 left;exact⟨by show(M a (b.p+1)).st=3;rw[f];rfl,i⟩
theorem yN:∀(j z p:Nat),M a p=⟨21,3,z,[],[]⟩->T a p=c->C a p=n->(∀i,i<j->isLet (bt a (p+i))=true)->z+j<=8->M a (p+j)=⟨21,3,z+j,[],[]⟩/\T a (p+j)=c++sub a p (p+j)/\C a (p+j)=n
 |0,z,p,f,g,h,_,_=>⟨f,by show T a p=c++sub a p p;rw[sub_self,gz];exact g,h⟩|j+1,z,p,f,g,h,m,s=>by
  obtain⟨e,b,d⟩:=yN j z p f g h (λi r=>m i om) om;have l:=m j om;have o:=jI l;have q:cd ⟨21,3,z+j,[],[]⟩ (bt a (p+j))=true:=by simp[cd,l];omega
  have k:nx (M a (p+j)) (bt a (p+j))=⟨21,3,z+j+1,[],[]⟩:=by grind[bt,aU,dc,Tr.norm,nx]
  refine⟨?_,?_,?_⟩;.show M a (p+j+1)=_;simp only[M];exact k
  .show T a (p+j+1)=_;simp only[T];grind[iT,out]
  show C a (p+j+1)=_;simp only[C];grind[bt,inc]
theorem oh(w:(k=4/\ar a b 46=false)\/(k=5/\ar a b 91=false))(h:Wb a n k c b)(q:ar a b 42=false):qG a (n+1) (c++([91,39]++sub a b.p (bH a b).p++[39,93])) (bH a b):=by
 rw[aL h.e0]at q;simp only[beq_eq_false_iff_ne,ne_eq]at q;cases m:isLet (bt a b.p)
 .rw[yI h.e0 m];right;refine⟨si,h.nn,⟨by rw[h.mm];simp[cS];omega,?_,h.le,si⟩⟩;show(M a (b.p+1)).st+2=2;simp only[M];rw[h.mm];by_cases l:bt a b.p=256;.grind[iI]
  rw[dq om om l];rcases w with⟨rfl,A⟩|⟨rfl,A⟩;iterate 2 rw[aL h.e0]at A;grind[cS,aJ,cC,l5,iW,Tr.norm]
 have o:=jI m;have H:=cQ o;have x:=m;simp[isLet]at x;have p:nx (M a b.p) (bt a b.p)=⟨21,3,1,[],[]⟩:=by rw[h.mm,dq om om om];have L:¬bt a b.p=36:=om;have r:¬bt a b.p=46:=om;have s:¬bt a b.p=91:=om;rcases w with⟨rfl,_⟩|⟨rfl,_⟩<;>simp[aJ,cC,l5,iW,cS,q,m,norm,r,s]
 have u:M a (b.p+1)=⟨21,3,1,[],[]⟩:=by simp only[M];exact p
 have v:T a (b.p+1)=c++[91,39,UInt8.ofNat (bt a b.p)]:=by simp only[T];rw[h.tx,h.mm];have r:¬bt a b.p=46:=om;have s:¬bt a b.p=91:=om;rcases w with⟨rfl,_⟩|⟨rfl,_⟩<;>simp[out,cS,q,r,s]
 have t:C a (b.p+1)=n+1:=by
  simp only[C];have:inc (M a b.p) (bt a b.p)=1:=by unfold inc;rw[p,aa si,ae];rw[h.mm];simp[cS];omega
  rw[this,h.ct]
 have J:run isLet a 8 b.p=run isLet a 7 (b.p+1):=by rw[run,ae m]
 have F:=fN isLet a 7 (b.p+1);have D:=iD isLet a 7 (b.p+1);have y:=gL isLet a 7 (b.p+1);have z:=g_ isLet a 7 (b.p+1);have g:=oo (ok:=isLet) (s:=a) (λf h=>jI h) 7 (b.p+1) H;obtain⟨j,B⟩:∃j,run isLet a 7 (b.p+1)=b.p+1+j:=⟨run isLet a 7 (b.p+1)-(b.p+1),om⟩;have K:bH a b={b with p:=b.p+1+j}:=by unfold bH;rw[ae h.e0,J,aa om,B]
 obtain⟨e,f,d⟩:=yN j 1 (b.p+1) u v t (λi P=>y _ om om) om;rw[B]at z g;have G:cd ⟨21,3,1+j,[],[]⟩ (bt a (b.p+1+j))=false:=by grind[cd]
 have N:T a (b.p+1+j)++[39,93]=c++([91,39]++sub a b.p (b.p+1+j)++[39,93]):=by rw[f,mz (s:=a) (a:=b.p) (b:=b.p+1) (c:=b.p+1+j) om om,iT lr o,sub_self];simp
 rw[K];left;refine⟨h.e0,h.nn,g,?_,?_,d,?_⟩;.grind
 .show nx (M a (b.p+1+j)) (bt a (b.p+1+j))=_;rw[e];refine oq (mx:=8) (ok:=isLet) (Y ⟨rfl,rfl,rfl⟩) om om _ ?_;grind
 grind
theorem DN(e:b.e=0)(g:b.n=0)(i:bt a b.p=91)(h:C a b.p=n)(d:nx (M a b.p) (bt a b.p)=cS 6 []):Live a (b.p+1) (n+1) 6 [] 0 (aH b):=by
 have f:=cQ (s:=a) (p:=b.p) om;have c:M a (b.p+1)=cS 6 []:=by simp only[M];exact d
 refine⟨e,g,f,aP _,by show T a (b.p+1)=_;rw[Z7,sub_self,gz],?_,?_,?_,?_⟩;.show C a (b.p+1)=n+1;simp only[C];grind[bt,cS,inc]
 .show p7 (M a (b.p+1))=true;rw[c];rfl
 .show 2<=(M a (b.p+1)).st;rw[c];simp[cS]
 show nx (M a (b.p+1)) _=_;rw[c]
theorem KY(h:m_ a n c b)(k:b.p<a.length)(g:ar a b 46=false):Ok a (b.p+1) (n+1) 6 [] 0 (aO a b [91])/\((aO a b [91]).e=0->T a (b.p+1)=c++[91]/\bt a b.p=91):=by
 have e:aO a b [91]=aK a b 91:=rfl;rw[e];unfold aK;rw[aL h.e0]at g⊢;simp only[beq_eq_false_iff_ne,ne_eq]at g;by_cases d:bt a b.p=91
 .rw[ae (by simp[d])];refine⟨Y (DN h.e0 h.nn d h.ct (by rw[h.ac,d];rfl)),λ_=>⟨?_,d⟩⟩;simp only[T];rw[d];rcases h.ty with⟨i,j⟩|⟨i,j,l,m⟩;.simp[out,i,j]
  grind[out]
 rw[aa (by simp[d]),fT h.e0];refine⟨I ⟨si,h.nn,⟨h.lv,?_,h.le,si⟩⟩,λh=>by simp at h⟩;show(M a (b.p+1)).st+2=2;simp only[M];have f:bt a b.p≠256:=by have:=rk k;omega
 rw[h.ac,nx3 f];grind[cS,cC,Tr.norm]
theorem KX(h:Wb a n 5 c b)(d:ar a b 91=true):Ok a (b.p+1) (n+1) 6 [] 0 (aO a b [91])/\T a (b.p+1)=c++[91]/\aO a b [91]=aH b:=by
 have e:aO a b [91]=aH b:=by show aK a b 91=aH b;unfold aK;rw[ae d]
 obtain⟨_,f⟩:=aF d;rw[e];refine⟨Y (DN h.e0 h.nn f h.ct (by rw[h.mm,f];rfl)),?_,rfl⟩;simp only[T];rw[h.tx,h.mm,f];rfl
theorem uu(h:Ok a n k 9 [] 0 b)(e:ar a b 44=true):Ok a n (k+1) 6 [] 0 (aH b):=by
 obtain⟨f,e⟩:=aF e;have h:=h.live f;have g:=cQ (s:=a) (p:=b.p) om;have c:nx (M a b.p) (bt a b.p)=cS 6 []:=by rw[h.ac,e];rfl
 have d:M a (b.p+1)=cS 6 []:=by simp only[M];exact c
 refine Y ⟨h.e0,h.nn,g,by have:=h.ge;simp[aH];omega,?_,?_,?_,?_,?_⟩;.show T a (b.p+1)=T a n++sub a n (b.p+1);simp only[T];rw[h.tx,vZ h.br,iT h.ge om,gh]
 .show C a (b.p+1)=k+1;simp only[C];have:inc (M a b.p) (bt a b.p)=1:=by unfold inc;rw[c,ae (by simp[cS])]
  rw[this,h.ct]
 .show p7 (M a (b.p+1))=true;rw[d];rfl
 .show 2<=(M a (b.p+1)).st;rw[d];simp[cS]
 show nx (M a (b.p+1)) _=_;rw[d]
theorem uv(h:Ok a n k 9 [] 0 b)(g:ar a b 44=false):qG a k (T a n++sub a n (aO a b [93]).p) (aO a b [93]):=by
 have e:aO a b [93]=aK a b 93:=rfl;rw[e];rcases h with h|h
 .unfold aK;rw[aL h.e0]at g⊢;simp only[beq_eq_false_iff_ne,ne_eq]at g;by_cases c:bt a b.p=93
  .rw[ae (by simp[c])];have i:=cQ (s:=a) (p:=b.p) om;have d:nx (M a b.p) (bt a b.p)=cS 3 []:=by rw[h.ac,c];rfl
   have f:M a (b.p+1)=cS 3 []:=by simp only[M];exact d
   refine Y ⟨h.e0,h.nn,i,?_,?_,?_,Y ⟨?_,?_⟩⟩;.show 2<=(M a (b.p+1)).st;rw[f];simp[cS]
   .show nx (M a (b.p+1)) _=_;rw[f]
   .show C a (b.p+1)=k;simp only[C];rw[DK h.br (by rw[d];simp[cS]),h.ct];rfl
   .show(M a (b.p+1)).st=3;rw[f];rfl
   show T a (b.p+1)=T a n++sub a n (b.p+1);simp only[T];rw[h.tx,vZ h.br,iT h.ge om,gh]
  rw[aa (by simp[c]),fT h.e0];refine I (h.bad 0 om ?_);grind[yM,iI,bt,cS,bN,Tr.norm]
 rw[uA _ h];exact I h
def bF(s:List UInt8):Prop:=(M s (s.length+1)).st=26
theorem v_(h:bF a){i:Nat}(b:i<=a.length+1):2<=(M a i).st:=by grind[Ld,bF]
theorem iM(h:bF a)(c:yH a n b):False:=by have d:=v_ h (i:=b.p+1) (by have:=c.er.le;omega);have e:=c.er.st;have f:=c.er.e3;have g:=c.ne;omega
theorem au(h:bF a)(e:Ok a n k i c j b):Live a n k i c j b:=e.resolve_right λd=>iM h d
theorem Le(h:bF a)(d:Live a n k i c j b):2<=(nx (cS i c) (bt a b.p)).st:=by rw[<-d.ac];exact v_ h (i:=b.p+1) (by have:=d.le;omega)
theorem Gl(b:n=7\/n=9\/n=14\/n=18)(c:O k=true):(nx (cS n a) k).st=0:=by grind(splits:=30)[cS,g0,aJ,fj,bJ,cd,aU,iH,dQ,dc,gA,bw,jg,cC,bN,cE,dM,l5,eo,dh,iW,O,isLet,aR,dR,Tr.norm,nx,bI,iA]
theorem kG(h:bF a)(d:Live a n k i c j b)(e:i=7\/i=9\/i=14\/i=18):O (bt a b.p)=false:=by cases f:O (bt a b.p)with|false=>rfl|true=>have:=Le h d;grind[Gl]
theorem Gm(b:isLet n=true):(nx (cS 11 a) n).st=0:=by grind(splits:=30)[cS,g0,aJ,fj,bJ,cd,aU,iH,dQ,dc,gA,bw,jg,cC,bN,cE,dM,l5,eo,dh,iW,O,isLet,aR,dR,Tr.norm,nx,bI,iA]
theorem ui(h:bF a)(d:Live a n k 11 c i b):isLet (bt a b.p)=false:=by cases e:isLet (bt a b.p)with|false=>rfl|true=>have:=Le h d;grind[Gm]
theorem run_eq{c:Nat->Bool}(f:k<=i)(e:∀b,k<=b->b<i->c (bt a b)=true)(d:c (bt a i)=false)(g:c (bt a (run c a n k))=false):run c a n k=i:=by grind[fN,gL]
def pfx(s:List UInt8):List Nat->Nat->Bool|[],_=>true|b::l,a=>bt s a==b&&pfx s l (a+1)
theorem jZ(h:(aK a b n).e=0):ar a b n=true/\aK a b n=aH b:=by grind(splits:=30)[aK,ar,wrong]
theorem iE:∀{l:List Nat}{t:St},(aO a t l).e=0->t.e=0/\pfx a l t.p=true/\aO a t l={t with p:=t.p+l.length}|[],t,h=>⟨h,rfl,rfl⟩|b::l,t,h=>by have e:aO a t (b::l)=aO a (aK a t b) l:=rfl;rw[e]at h⊢;obtain⟨c,d,f⟩:=iE h;obtain⟨g,i⟩:=jZ c;grind[aF,aH,bt,pfx]
def cm(b:Nat):Bool:=b==32||b==10
structure Sk(s:List UInt8)(i j:Nat):Prop where
 ge:i<=j
 all:∀k,i<=k->k<j->cm (bt s k)=true
 stop:cm (bt s j)=false
def sk(s:List UInt8)(i:Nat):Nat:=run cm s (s.length+1) i
theorem j6(s:List UInt8)(i:Nat):cm (bt s (sk s i))=false:=by
 rcases g_ cm s (s.length+1) i with h|h;.unfold sk;rw[h,jC om];rfl
 exact h
theorem e_(s:List UInt8)(i:Nat):i<=sk s i:=fN _ _ _ _
theorem Lf(s:List UInt8)(i:Nat):∀k,i<=k->k<sk s i->cm (bt s k)=true:=λk a b=>gL _ _ _ _ k a b
theorem Sk.eq(h:Sk a n k):sk a n=k:=run_eq h.ge h.all h.stop (j6 a n)
theorem gB{s:List UInt8}{i:Nat}(h:i<=s.length):sk s i<=s.length:=by
 rcases Nat.lt_or_ge s.length (sk s i)with a|a;.have:=Lf s i s.length h a;rw[jC lr]at this;cases this
 exact a
structure Sr where
 e:Nat
 p:Nat
 t:List UInt8
def dP(s:List UInt8):Nat->Nat->List UInt8->Sr|0,i,_=>⟨2,i,[]⟩|n+1,i,a=>if bt s i=34 then⟨0,i+1,a⟩else if bt s i=92 then(if bt s (i+1)=34\/bt s (i+1)=92 then dP s n (i+2) (a++[UInt8.ofNat (bt s (i+1))])else⟨2,i+1,[]⟩)else if bt s i<32\/126<bt s i then⟨2,i,[]⟩else dP s n (i+1) (a++[UInt8.ofNat (bt s i)])
def aM(s:List UInt8)(i:Nat):Sr:=if bt s i=34 then dP s (s.length+1) (i+1) []else⟨2,i,[]⟩
def i_(s:List UInt8)(p:Nat):Nat->Nat|0=>0|k+1=>10*i_ s p k+(bt s (p+k)-48)
def dF(s:List UInt8)(i:Nat):Nat:=if bt s i=45 then i+1 else i
def lJ(s:List UInt8)(i:Nat):Nat:=if bt s (dF s i)=48 then dF s i+1 else run O s 9 (dF s i)
def lO(s:List UInt8)(i:Nat):Int:=if bt s i=45 then-(i_ s (dF s i) (lJ s i-dF s i):Nat)else(i_ s (dF s i) (lJ s i-dF s i):Nat)
def qF(s:List UInt8)(i:Nat):Bool:=O (bt s (dF s i))&&!(bt s i==45&&bt s (dF s i)==48)
def dC(s:List UInt8):List Nat->Nat->Nat|[],i=>i|c::l,i=>if bt s i=c then dC s l (i+1)else i
structure jt where
 kind:Nat
 n:Int
 s:List UInt8
 name:List UInt8
 path:List UInt8
 af:Nat
 to:Nat
 cl:Int
structure Tv where
 d:jt
 ws:List Tv
def qk:Nat->Nat->List UInt8|0,_=>[]|f+1,n=>if n<10 then[UInt8.ofNat (48+n)]else qk f (n/10)++[UInt8.ofNat (48+n%10)]
def dec(n:Nat):List UInt8:=qk (n+1) n
theorem DP:∀f g n,n<f->n<g->qk f n=qk g n
 |0,_,_,h,_=>absurd h (Nat.not_lt_zero _)|_+1,0,_,_,h=>absurd h (Nat.not_lt_zero _)|f+1,g+1,n,a,b=>by
  unfold qk;by_cases h:n<10;.rw[ae h,ae h]
  rw[aa h,aa h,DP f g (n/10) om om]
theorem oW(h:n<10):dec n=[UInt8.ofNat (48+n)]:=by unfold dec qk;rw[ae h]
theorem oV(h:¬n<10):dec n=dec (n/10)++[UInt8.ofNat (48+n%10)]:=by grind[DP,dec,qk]
theorem nU:∀n,(dec n).length<=n+1:=by intro n;induction n using Nat.strongRecOn with|_ n a=>grind[oV,oW]
def hJ(b:UInt8):List UInt8:=if b=39\/b=92 then[92,b]else[b]
def h_(l:List UInt8):List UInt8:=[39]++l.flatMap hJ++[39]
def da(a b:Nat):Bool:=b==32||b==10||(a !=0&&(b==44||(a==4&&b==93)||(a==5&&b==125)))
def su:List Nat:=[116,114,117,101]
def sC:List Nat:=[102,97,108,115,101]
def sD:List Nat:=[110,117,108,108]
def bM(b:Nat):List Nat:=if b=116 then su else if b=102 then sC else sD
def bW(k:Nat):Nat:=if k=4 then 93 else 125
structure Rs where
 ws:List Tv
 e:Nat
 p:Nat
def iC(s:List UInt8)(b c:List UInt8)(a j:Nat):Rs:=if bt s j=34 then(if(aM s j).e=0 then⟨[⟨⟨2,0,(aM s j).t,b,c,j,(aM s j).p,((aM s j).p:Int)-1⟩,[]⟩],0,(aM s j).p⟩else⟨[],(aM s j).e,(aM s j).p⟩)else if bt s j=116\/bt s j=102\/bt s j=110 then(if dC s (bM (bt s j)) j=j+(bM (bt s j)).length then⟨[⟨⟨3,0,(bM (bt s j)).map UInt8.ofNat,b,c,j,dC s (bM (bt s j)) j,(dC s (bM (bt s j)) j:Int)-1⟩,[]⟩],0,dC s (bM (bt s j)) j⟩else⟨[],2,dC s (bM (bt s j)) j⟩)else if qF s j=true then⟨[⟨⟨1,lO s j,[],b,c,j,lJ s j,if da a (bt s (lJ s j))=true then(lJ s j:Int)else-1⟩,[]⟩],0,lJ s j⟩else⟨[],2,dF s j⟩
def held(k:Nat)(a b:List UInt8)(j:Nat)(r:Rs):Rs:=⟨[⟨⟨k,0,[],a,b,j,if r.e=0 then r.p else 0,if r.e=0 then(r.p:Int)-1 else-1⟩,r.ws⟩],r.e,r.p⟩
def rd(s:List UInt8):Nat->Bool->Nat->List UInt8->List UInt8->Nat->Nat->List Tv->Rs
 |0,_,_,_,_,_,i,_=>⟨[],2,i⟩|n+1,false,b,d,a,k,i,_=>if bt s (sk s i)=256 then⟨[],2,sk s i⟩else if bt s (sk s i)=91\/bt s (sk s i)=123 then(if 8<b then⟨[],3,sk s i⟩else held (if bt s (sk s i)=91 then 4 else 5) d a (sk s i) (if bt s (sk s (sk s i+1))=bW (if bt s (sk s i)=91 then 4 else 5)then⟨[],0,sk s (sk s i+1)+1⟩else rd s n true b [] a (if bt s (sk s i)=91 then 4 else 5) (sk s (sk s i+1)) []))else iC s d a k (sk s i)|n+1,true,b,_,a,k,i,c=>let r:=if k=4 then rd s n false (b+1) [] (a++[91]++dec c.length++[93]) 4 i []else if(aM s (sk s i)).e≠0 then⟨[],(aM s (sk s i)).e,(aM s (sk s i)).p⟩else if bt s (sk s (aM s (sk s i)).p)=58 then rd s n false (b+1) (aM s (sk s i)).t (a++[91]++h_ (aM s (sk s i)).t++[93]) 5 (sk s (aM s (sk s i)).p+1) []else⟨[],2,sk s (aM s (sk s i)).p⟩
  if r.e≠0 then⟨c++r.ws,r.e,r.p⟩else if bt s (sk s r.p)=44 then rd s n true b [] a k (sk s r.p+1) (c++r.ws)else if bt s (sk s r.p)=bW k then⟨c++r.ws,0,sk s r.p+1⟩else⟨c++r.ws,2,sk s r.p⟩
def aw(s:List UInt8):Rs:=let r:=rd s (2*s.length+3) false 1 [] [36] 0 0 []
 if r.e≠0 then r else if bt s (sk s r.p)=256 then⟨r.ws,0,sk s r.p⟩else⟨r.ws,2,sk s r.p⟩
structure gI where
 word:Bool
 name:List UInt8
 n:Int
def idx(l:List Tv)(n:Int):Option Tv:=if n<0 then none else l[n.toNat]?
def bj(v:Tv)(a:gI)(k:Nat):Option Tv:=if a.word=true then(if v.d.kind=5 then(v.ws.take k).find? (λc=>c.d.name==a.name)else none)else(if v.d.kind=4 then idx (v.ws.take k) (if a.n<0 then a.n+v.ws.length else a.n)else none)
def aY:Tv->List gI->Option Tv|v,[]=>some v|v,a::l=>(bj v a v.ws.length).bind λu=>aY u l
structure Kt where
 k:Nat
 n:Int
 t:List UInt8
def ij:List UInt8->List UInt8->Bool|_,[]=>false|[],_::_=>true|a::x,b::y=>decide (a<b)||(a==b&&ij x y)
def ei(c:Kt)(o:Option Tv):Bool:=o.any λv=>decide (v.d.kind<4)&&v.d.kind==c.k&&v.d.n==c.n&&v.d.s==c.t
def fS(c:Kt)(o:Option Tv):Bool:=o.any λv=>v.d.kind==c.k&&((v.d.kind==1&&decide (v.d.n<c.n))||(v.d.kind==2&&ij v.d.s c.t))
structure dz where
 sort:Nat
 name:List UInt8
 n:Int
 af:Int
 to:Int
 wh:Tv->Bool
def dz.late(x:dz):Bool:=x.sort==5||(x.sort==3&&decide (x.n<0))
def bn(x:dz)(a L i:Nat)(w:Tv):Bool:=if x.sort=1 then true else if x.sort=2 then a==5&&w.d.name==x.name else if x.sort=3 then a==4&&(i:Int)==(if x.n<0 then x.n+L else x.n)else if x.sort=4 then a==4&&decide (x.af<=i)&&(decide (x.to<0)||decide ((i:Int)<x.to))else x.wh w
def cq(x:dz)(v:Tv):List Tv:=(v.ws.zipIdx.filter λp=>bn x v.d.kind v.ws.length p.2 p.1).map (·.1)
structure Sg where
 deep:Bool
 l:List dz
def Sg.late(g:Sg):Bool:=g.l.any dz.late
def ai:Nat->Tv->List Tv|0,_=>[]|n+1,t=>t::t.ws.flatMap (ai n)
def fM(l:List dz)(v:Tv):List Tv:=l.flatMap λx=>cq x v
def dB(g:Sg)(v:Tv):List Tv:=if g.deep=true then(ai 10 v).flatMap (fM g.l)else fM g.l v
def aq:List Sg->List Tv->List Tv|[],l=>l|g::r,l=>aq r (l.flatMap (dB g))
def dX(b:List dz)(a L i:Nat)(c:Tv):Nat:=(b.map λx=>if bn x a L i c=true then 1 else 0).sum
def cD(a:List Sg):Nat:=(a.map λg=>g.l.length).sum
def ay(l:List Sg):Nat:=l.findIdx Sg.late
theorem yB(e:bF a)(h:m_ a n c b):bt a b.p=46\/bt a b.p=91\/bt a b.p=256:=by have d:2<=(M a (b.p+1)).st:=v_ e (by have:=h.le;omega);simp only[M]at d;rw[h.ac]at d;grind[nx3,bt,cS,cC,Tr.norm]
theorem uw(d:bF a)(h:m_ a n c b):isLet (bt a b.p)=false:=by rcases yB d h with e|e|e<;>rw[e]<;>rfl
theorem Qp(f:bF a)(h:Wb a n 5 c b):ar a b 46=false:=by
 rw[aL h.e0];by_cases e:bt a b.p=46;.exfalso;have d:2<=(M a (b.p+1)).st:=v_ f (by have:=h.le;omega);simp only[M]at d;rw[h.mm,e]at d;exact absurd d de
 simpa using e
theorem Qw(m:G)(b:Nat):(out m b).length<=3:=by grind[out]
theorem TF(s:List UInt8):∀i,(T s i).length<=3*i|0=>aP _|i+1=>by have:=TF s i;have:=Qw (M s i) (bt s i);simp only[T,List.length_append];omega
theorem m_.len(h:m_ a n c b):c.length<=3*b.p+2:=by
 have:=TF a b.p;rcases h.ty with⟨_,d⟩|⟨_,_,_,e⟩;.rw[<-d];omega
 rw[<-e];simp;omega
theorem xM{b:UInt8}(d:bt a n=b.toNat)(h:n<k):sub a n k=b::sub a (n+1) k:=by
 have c:bt a n<256:=by have:=b.toNat_lt;omega
 rw[mz (b:=n+1) om om,iT lr c,sub_self,d];simp
theorem TG(s:List UInt8):∀i,0<i->0<(T s i).length|0,h=>absurd h de|1,_=>by simp[T,M,out,g0]|i+2,_=>by have:=TG s (i+1) om;rw[T,cG];omega
theorem m_.ne(h:m_ a n c b)(i:0<b.p):c≠[]:=by
 have d:=TG a b.p i;intro e;rcases h.ty with⟨_,g⟩|⟨_,_,_,f⟩;.rw[g,e]at d;simp at d
 rw[e]at f;simp at f
def iS:List UInt8:=[116,114,117,101]
def fP:List UInt8:=[102,97,108,115,101]
def mM:List UInt8:=[110,117,108,108]
def bV(b:Nat->Bool)(s:List UInt8)(a:Nat):Nat:=run b s (s.length+1) a
theorem oM(b:Nat->Bool)(s:List UInt8)(a:Nat)(h:b 256=false):b (bt s (bV b s a))=false:=by
 rcases g_ b s (s.length+1) a with e|e;.grind[jC,bV]
 exact e
def b_(s:List UInt8)(a b:Nat):Nat:=i_ s a (b-a)
structure PS(α:Type)where
 v:α
 p:Nat
def bE(s:List UInt8):Nat->Nat->List gI->PS (List gI)|0,a,l=>⟨l,a⟩|n+1,a,l=>if bt s a=46 then bE s n (bV isLet s (a+1)) (l++[⟨true,sub s (a+1) (bV isLet s (a+1)),0⟩])else if bt s a=91 then(if bt s (a+1)=45 then bE s n (bV O s (a+2)+1) (l++[⟨false,[],-(b_ s (a+2) (bV O s (a+2)):Int)⟩])else bE s n (bV O s (a+1)+1) (l++[⟨false,[],(b_ s (a+1) (bV O s (a+1)):Int)⟩]))else⟨l,a⟩
def bA(s:List UInt8)(a:Nat):PS Kt:=if bt s a=116 then⟨⟨3,0,iS⟩,a+4⟩else if bt s a=102 then⟨⟨3,0,fP⟩,a+5⟩else if bt s a=110 then⟨⟨3,0,mM⟩,a+4⟩else if bt s a=39 then⟨⟨2,0,sub s (a+1) (bV aR s (a+1))⟩,bV aR s (a+1)+1⟩else if bt s a=45 then⟨⟨1,-(b_ s (a+1) (bV O s (a+1)):Int),[]⟩,bV O s (a+1)⟩else⟨⟨1,(b_ s a (bV O s a):Int),[]⟩,bV O s a⟩
def xe(s:List UInt8)(l:List gI)(a:Nat):PS (Tv->Bool):=if bt s a=61 then⟨λt=>ei (bA s (a+2)).v (aY t l),(bA s (a+2)).p⟩else if bt s a=33 then⟨λt=>!(ei (bA s (a+2)).v (aY t l)),(bA s (a+2)).p⟩else if bt s a=60 then(if bt s (a+1)=61 then⟨λt=>ei (bA s (a+2)).v (aY t l)||fS (bA s (a+2)).v (aY t l),(bA s (a+2)).p⟩else⟨λt=>fS (bA s (a+1)).v (aY t l),(bA s (a+1)).p⟩)else⟨λt=>(aY t l).isSome,a⟩
def n8(s:List UInt8)(a:Nat):PS (Tv->Bool):=xe s (bE s (s.length+1) (a+1) []).v (bE s (s.length+1) (a+1) []).p
def pC(s:List UInt8):Nat->Nat->Nat->(Tv->Bool)->PS (Tv->Bool)|0,_,a,b=>⟨b,a⟩|n+1,0,a,b=>if bt s a=33 then⟨λt=>!((pC s n 0 (a+1) b).v t),(pC s n 0 (a+1) b).p⟩else if bt s a=40 then⟨(pC s n 2 (a+1) b).v,(pC s n 2 (a+1) b).p+1⟩else n8 s a|n+1,1,a,b=>pC s n 3 (pC s n 0 a b).p (pC s n 0 a b).v|n+1,2,a,b=>pC s n 4 (pC s n 1 a b).p (pC s n 1 a b).v|n+1,3,a,b=>if bt s a=38 then pC s n 3 (pC s n 0 (a+2) b).p (λt=>b t&&(pC s n 0 (a+2) b).v t)else⟨b,a⟩|n+1,_+4,a,b=>if bt s a=124 then pC s n 4 (pC s n 1 (a+2) b).p (λt=>b t||(pC s n 1 (a+2) b).v t)else⟨b,a⟩
def bO(s:List UInt8)(a:Nat):PS dz:=if bt s a=42 then⟨⟨1,[],0,0,0,λ_=>false⟩,a+1⟩else if bt s a=39 then⟨⟨2,sub s (a+1) (bV aR s (a+1)),0,0,0,λ_=>false⟩,bV aR s (a+1)+1⟩else if bt s a=45 then⟨⟨3,[],-(b_ s (a+1) (bV O s (a+1)):Int),0,0,λ_=>false⟩,bV O s (a+1)⟩else if bt s a=63 then⟨⟨5,[],0,0,0,(pC s (4*s.length+9) 2 (a+1) λ_=>false).v⟩,(pC s (4*s.length+9) 2 (a+1) λ_=>false).p⟩else if bt s (bV O s a)=58 then⟨⟨4,[],0,(b_ s a (bV O s a):Int),(if bV O s (bV O s a+1)=bV O s a+1 then-1 else(b_ s (bV O s a+1) (bV O s (bV O s a+1)):Int)),λ_=>false⟩,bV O s (bV O s a+1)⟩else⟨⟨3,[],(b_ s a (bV O s a):Int),0,0,λ_=>false⟩,bV O s a⟩
def eD(s:List UInt8):Nat->Nat->List dz->PS (List dz)|0,a,l=>⟨l,a⟩|n+1,a,l=>if bt s (bO s a).p=44 then eD s n ((bO s a).p+1) (l++[(bO s a).v])else⟨l++[(bO s a).v],(bO s a).p⟩
def gg(s:List UInt8)(a:Nat):PS (List dz):=if bt s a=42 then⟨[⟨1,[],0,0,0,λ_=>false⟩],a+1⟩else⟨[⟨2,sub s a (bV isLet s a),0,0,0,λ_=>false⟩],bV isLet s a⟩
def zV(s:List UInt8)(a:Nat):PS (List dz):=⟨(eD s (s.length+1) (a+1) []).v,(eD s (s.length+1) (a+1) []).p+1⟩
def fX(s:List UInt8)(a:Nat):PS Sg:=if bt s a=91 then⟨⟨false,(zV s a).v⟩,(zV s a).p⟩else if bt s (a+1)=46 then(if bt s (a+2)=91 then⟨⟨true,(zV s (a+2)).v⟩,(zV s (a+2)).p⟩else⟨⟨true,(gg s (a+2)).v⟩,(gg s (a+2)).p⟩)else⟨⟨false,(gg s (a+1)).v⟩,(gg s (a+1)).p⟩
def jh(s:List UInt8):Nat->Nat->List Sg->List Sg|0,_,l=>l|n+1,a,l=>if a<s.length then jh s n (fX s a).p (l++[(fX s a).v])else l
def cK(s:List UInt8):List Sg:=jh s (s.length+1) 1 []
theorem Qx(s:List UInt8)(m a:Nat)(b:Tv->Bool):pC s 0 m a b=⟨b,a⟩:=by simp[pC]
