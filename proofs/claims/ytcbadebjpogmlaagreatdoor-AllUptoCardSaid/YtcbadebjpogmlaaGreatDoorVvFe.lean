import Derived.Test.YtcbadebjpogmlaaGreatDoorVvFc
namespace Tr
def je(b:Nat):Bool:=b==91||b==93||b==123||b==125||b==34||(decide (48<=b)&&decide (b<=57))||b==101||b==108
def room(l:List UInt8):Nat:=1+l.countP λb=>je b.toNat
def iB(z:Sn):Nat:=if z.st=9 then 1 else 0
def one(b:Nat):Nat:=if je b=true then 1 else 0
def xu(z:Sn):Prop:=z.st=10->z.rs.getLast?=some 101\/z.rs.getLast?=some 108
structure Nr(z:Sn)(b:Nat)(x:Sx):Prop where
 n:x.ts.length+iB x.z<=iB z+one b
 w:xu x.z
variable{f:Sn}{n k i j m:Nat}
theorem mL(b:k≠9)(a:k≠10):Nr f n (f.to k):=⟨by simp[Sn.to,iB,b],λh=>absurd h a⟩
theorem OJ(n:jm f)(x:xu f)(b:Nat)(A:b<256):Nr f b (an f b):=by
 have w:(b=93\/b=125)->Nr f b (cN f):=λh=>by
  have:one b=1:=by rcases h with e|e<;>rw[e]<;>rfl
  exact⟨by simp[cN,iB,this],λe=>by simp[cN]at e⟩
 have o:(aC f b).ts.length+iB (aC f b).z<=one b/\xu (aC f b).z:=by grind(splits:=30)[Sn.to,xu,gC,cm,je,gu,one,iB,aC,cN]
 have j:O b=true->one b=1:=λh=>by grind(splits:=30)[O,je,one]
 unfold an;by_cases s:f.st=6
 .rw[ae s];unfold iQ;split;.grind[mL]
  split;.grind[mL]
  split
  .rename_i q;have i:one b=1:=by rw[q];rfl
   unfold gf;split;.exact⟨by simp[gO,iB,i],λe=>by simp[gO]at e⟩
   exact⟨by simp[iB,i],λe=>by simp at e⟩
  exact⟨by simp[il,iB],λe=>by simp[il]at e⟩
 rw[aa s];by_cases t:f.st=7
 .rw[ae t];unfold kV;split;.grind[mL]
  exact⟨by simp[il,iB],λe=>by simp[il]at e⟩
 rw[aa t];by_cases p:f.st=8\/f.st=9
 .rw[ae p];unfold gG;split;.grind[mL]
  rename_i D;split;.rename_i q;have:=j q.1;exact⟨by simp[fe,iB,this],λe=>by simp[fe]at e⟩
  rename_i F;split;.grind[mL]
  have z:f.st=9:=by
   rcases p with y|y;.exfalso;have C:=n.m y;grind[O]
   exact y
  refine⟨?_,o.2⟩;grind[iB]
 rw[aa p];by_cases d:f.st=10
 .rw[ae d];have g:=x d;have r:=(n.w d).1;unfold fA;split;.grind[mL]
  rename_i v;cases u:f.rs with|nil=>exact absurd u r|cons a l=>
   rw[u]at g v;have m:b=a.toNat:=Decidable.byContradiction λk=>v (by simpa[bt]using k)
   cases l with|nil=>
    simp only[List.tail_cons,if_true];have i:one b=1:=by
     rcases g with e|e
     .have:a=101:=by simpa using e
      rw[m,this];rfl
     have:a=108:=by simpa using e
     rw[m,this];rfl
    exact⟨by simp[gO,iB,i],λe=>by simp[gO]at e⟩|cons c l=>simp only[List.tail_cons,reduceCtorEq,if_false];refine⟨by simp[iB],λ_=>?_⟩;simpa using g
 rw[aa d];split;.grind[mL]
 unfold bT;split;.exact⟨by have:=o.1;omega,o.2⟩
 split;.grind[mL]
 split;.rename_i q;exact w om
 split
 .unfold bm;have LT:∀k c,c<9->one b=1->Nr f b (jb f k c):=λk c B i=>by
   unfold jb;split;.grind[mL]
   exact⟨by simp[iB,i,show c≠9 by omega],λe=>absurd e (by simp only;omega)⟩
  split;.rename_i q;exact LT _ _ om (by rw[q];rfl)
  split;.rename_i q;exact LT _ _ om (by rw[q];rfl)
  split;.exact⟨by simp[dK,iB],λe=>by simp[dK]at e⟩
  split;.exact⟨by simp[cU,iB],λ_=>Y rfl⟩
  split;.exact⟨by simp[cU,iB],λ_=>Y rfl⟩
  split;.exact⟨by simp[cU,iB],λ_=>I rfl⟩
  unfold fL;split;.exact⟨by simp[iB],λe=>by simp at e⟩
  split;.rename_i q;have:=j q;exact⟨by simp[fe,iB,this],λe=>by simp[fe]at e⟩
  exact⟨by simp[iB],λe=>by simp at e⟩
 split;.exact⟨by simp[dK,iB],λe=>by simp[dK]at e⟩
 grind[mL]
theorem re:∀(l:List UInt8){z:Sn}{s:Sh},jm z->Lk z s->z.st<=10->z.at'+l.length<=4000000->xu z->(aj z l).ts.length+iB (aj z l).z<=iB z+l.countP (λb=>je b.toNat)/\xu (aj z l).z
 |[],_,_,_,_,_,_,h=>⟨by simp[aj],h⟩|b::l,z,s,j,k,m,n,p=>by
  have q:z.at'+(l.length+1)<=4000000:=by simpa using n
  have S:=gY j k m om b.toNat;have N:=OJ j p b.toNat (by have:=b.toNat_lt;omega);have o:(b::l).countP (λb=>je b.toNat)=l.countP (λb=>je b.toNat)+one b.toNat:=by rw[List.countP_cons];rfl
  rw[o,aj];have r:=N.n;by_cases g:(an z b.toNat).z.st=12;.rw[ae g];exact⟨by simp only;omega,N.w⟩
  rw[aa g];by_cases f:(an z b.toNat).z.st=11;.rw[ae f];exact⟨by simp only;omega,N.w⟩
  rw[aa f];have e:(an z b.toNat).z.st<=10:=by have:=S.st;omega
  have i:=S.at';have d:=S.ok e;have c:jm {(an z b.toNat).z with at':=(an z b.toNat).z.at'+1}:=⟨d.op,d.ne,d.tk,d.st,d.w,d.n,d.m,d.x⟩;have a:=re l (s:=bC s (an z b.toNat).ts) c (S.lk e) e (by simp only[i];omega) N.w;grind[iB,an]
theorem Ov{l:List UInt8}{s:Sh}(a:jm f)(b:Lk f s)(c:f.st<=10)(d:f.at'+l.length<=4000000)(e:xu f):(aj f l).ts.length<=room l:=by have:=(re l a b c d e).1;grind[iB,room]
def lD(a:List (Tv×Nat))(s:Fw):Fw:={s with told:=a++s.told}
theorem xE(b:List Sg)(a:List (Tv×Nat))(s:Fw)(d:jt):jk b (lD a s) d=lD a (jk b s d):=by unfold jk lD;simp only;split<;>rfl
theorem xF(b:List Sg)(a:List (Tv×Nat))(s:Fw)(t:Tv)(r:Nat):im b (lD a s) t r=lD a (im b s t r):=by grind(splits:=30)[lD,im]
theorem Fc(b:List Sg)(a:List (Tv×Nat))(s:Fw)(t:Tok):dE b (lD a s) t=lD a (dE b s t):=by
 unfold dE;split;.grind[xE,lD,jk,bK,aA]
 split;.show(match s.g.st with|[]=>lD a s|f::r=>{im b (lD a s) (f.tv t.to) r.length with g:=aA s.g t true})=_;cases s.g.st with|nil=>rfl|cons f r=>simp only;rw[xF];rfl
 grind[xE,xF,lD,jk,im,aB,bK,aA]
theorem xG(b:List Sg)(a:List (Tv×Nat)):∀(c:List Tok)(s:Fw),bU b (lD a s) c=lD a (bU b s c)|[],_=>rfl|t::r,s=>by show bU b (dE b (lD a s) t) r=lD a (bU b (dE b s t) r);rw[Fc,xG b a r]
def tO(s:Fw):Fw:={s with told:=[]}
theorem UJ(s:Fw):lD s.told (tO s)=s:=by unfold lD tO;simp
theorem qC(b:List Sg)(s:Fw)(a:List Tok):(bU b s a).told=s.told++(bU b (tO s) a).told/\tO (bU b s a)=tO (bU b (tO s) a):=by have e:=xG b s.told a (tO s);rw[UJ]at e;rw[e];exact⟨rfl,rfl⟩
theorem wW.no{a:List Sg}{s:Fw}(h:wW a s):wW a (tO s):=⟨by have:=h.n;simp[tO];omega,h.fr,h.tl,h.hd,h.ct,h.z⟩
def Zs(p:List UInt8):Sn:=(aj ah p).z
def Gt(p:List UInt8):Gs:=cT a_ (aj ah p).ts
variable{a d g:List UInt8}{l:UInt8}
theorem xH(h:(aj ah a).e=0):(aj ah (a++[l])).e=0↔((an (Zs a) l.toNat).z.st≠12/\(an (Zs a) l.toNat).z.st≠11):=by
 rw[eQ a [l] ah h];show(aj (Zs a) [l]).e=0↔_;rw[aj];split;.rename_i b;simp[b]
 rename_i b;split;.rename_i c;simp[c]
 rename_i c;simp[aj,b,c]
theorem IY(h:(aj ah (a++[l])).e=0):(aj ah a).e=0:=by grind[lM,ah,aj]
structure Sc(p:List UInt8)(b:UInt8):Prop where
 e:(aj ah p).e=0
 e2:(aj ah (p++[b])).e=0
 ok:jm (Zs p)lk:Lk (Zs p) (Gt p).sh
 st:(Zs p).st<=10
 at':(Zs p).at'=p.length
 nst:(an (Zs p) b.toNat).z.st<=10
 z:Zs (p++[b])={(an (Zs p) b.toNat).z with at':=(an (Zs p) b.toNat).z.at'+1}g:Gt (p++[b])=cT (Gt p) (an (Zs p) b.toNat).ts
 tok:kU (Gt p).sh (an (Zs p) b.toNat).ts
structure Rn(p:List UInt8):Prop where
 ok:jm (Zs p)lk:Lk (Zs p) (Gt p).sh
 st:(Zs p).st<=10
 at':(Zs p).at'=p.length
theorem SY(g:a.length<=4000000)(h:(aj ah a).e=0):Rn a:=by have R:=fW a aX.1 aX.2 (by simp[ah]) (by simp[ah];omega);obtain⟨c,d,e,f⟩:=R.ok h;refine⟨c,?_,d,e.trans (by simp[ah])⟩;have b:(Gt a).sh=bC ⟨[],0⟩ (aj ah a).ts:=jU (g:=a_) R.tok;rw[b];exact f
theorem YB{p:List UInt8}(g:p.length<4000000)(h:(aj ah (p++[l])).e=0):Sc p l:=by
 have a:=IY h;have R:=SY om a;have S:=gY R.ok R.lk R.st (by rw[R.at'];omega) l.toNat;obtain⟨f,d⟩:=(xH a).1 h;have e:aj (Zs p) [l]=⟨{(an (Zs p) l.toNat).z with at':=(an (Zs p) l.toNat).z.at'+1},0,(an (Zs p) l.toNat).ts⟩:=by grind[aj]
 have b:=eQ p [l] ah a;have c:(aj ah p).z=Zs p:=rfl;rw[c,e]at b;refine⟨a,h,R.ok,R.lk,R.st,R.at',by have:=S.st;omega,?_,?_,S.tok⟩;.unfold Zs at*;rw[b]
 unfold Gt;rw[b,kC]
theorem OQ(g:Gs){t:Tok}(h:t.k=2):(aA g t true).st=g.st/\(aA g t true).last=g.last:=by grind(splits:=30)[aA]
theorem YC{g:Gs}(h:Lk f g.sh):(g.st=[]↔f.op=[])/\g.st.length=f.op.length:=by have e:=h.op;grind[Gs.sh]
def Zi(s:List UInt8)(i:Nat):Sn:=Zs (s.take i)
def Gi(s:List UInt8)(i:Nat):Gs:=Gt (s.take i)
structure Oi(s:List UInt8)(i:Nat):Prop where
 e:(aj ah (s.take i)).e=0
 le:i<=s.length
 ml:s.length<=4000000
theorem Oi.rn(h:Oi a n):Rn (a.take n):=SY (by rw[List.length_take];have:=h.ml;omega) h.e
theorem Oi.at'(h:Oi a n):(Zi a n).at'=n:=by have:=h.rn.at';rw[List.length_take,Nat.min_eq_left h.le]at this;exact this
theorem Fe(h:n<a.length):a.take (n+1)=a.take n++[a[n]]:=eC h
theorem IZ(h:n<a.length):bt a n=(a[n]).toNat:=by simp[bt,h]
theorem Oi.step(h:Oi a n)(i:bt a n≠256){x:Sx}(f:an (Zi a n) (bt a n)=x)(g:x.z.st<=10):Oi a (n+1)/\Zi a (n+1)={x.z with at':=x.z.at'+1}/\Gi a (n+1)=cT (Gi a n) x.ts:=by
 have d:n<a.length:=cQ (by have:=xI a n;omega);have j:=h.ml;have e:=Fe d;rw[IZ d]at f;have b:an (Zs (a.take n)) (a[n]).toNat=x:=f;have c:(aj ah (a.take n++[a[n]])).e=0:=(xH h.e).2 (by rw[b];omega);have S:=YB (p:=a.take n) (by rw[List.length_take];omega) c;refine⟨⟨by rw[e];exact c,om,h.ml⟩,?_,?_⟩;.unfold Zi;rw[e,S.z,b]
 unfold Gi;rw[e,S.g,b]
def Bd(s:List UInt8)(e i:Nat):Prop:=Oi s i/\((e=2/\i<s.length/\(an (Zi s i) (bt s i)).z.st=12)\/(e=3/\i<s.length/\(an (Zi s i) (bt s i)).z.st=11)\/(e=2/\i=s.length/\aZ (Zi s i)=false))
theorem Bd.wrong(h:Oi a n)(c:bt a n≠256)(b:(an (Zi a n) (bt a n)).z.st=12):Bd a 2 n:=⟨h,Y ⟨rfl,cQ (by have:=xI a n;omega),b⟩⟩
theorem Bd.ends(h:Oi a n)(c:bt a n=256)(b:aZ (Zi a n)=false):Bd a 2 n:=by
 have:n=a.length:=by
  rcases Nat.lt_or_ge n a.length with y|y;.have:=rk y;omega
  have:=h.le;omega
 exact⟨h,I (I ⟨rfl,this,b⟩)⟩
theorem k9(h:(f.st≠5/\f.st≠9)\/f.op≠[]):aZ f=false:=by grind(splits:=30)[aZ]
structure At(s:List UInt8)(i st:Nat)(op:List Nat)(fs:List Fm)(ix:Nat)(nm:List UInt8):Prop where
 o:Oi s i
 st:(Zi s i).st=st
 op:(Zi s i).op=op
 fs:(Gi s i).st=fs
 ix:(Gi s i).ix=ix
 nm:(Gi s i).nm=nm
variable{c:List Nat}{b:List Fm}
theorem At.blank(h:At a n k c b i d)(o:k<=5)(m:cm (bt a n)=true):At a (n+1) k c b i d:=by
 have l:bt a n≠256:=λy=>by rw[y]at m;cases m
 have p:=h.st;have e:an (Zi a n) (bt a n)=(Zi a n).to k:=by grind(splits:=30)[an]
 obtain⟨f,g,j⟩:=h.o.step l e (by simp[Sn.to];omega);exact⟨f,by rw[g];rfl,by rw[g];exact h.op,by rw[j];exact h.fs,by rw[j];exact h.ix,by rw[j];exact h.nm⟩
theorem At.I1(f:n<=5):∀(e:Nat){i:Nat},At a i n c b k d->At a (run cm a e i) n c b k d
 |0,_,h=>h|e+1,i,h=>by
  rw[run];split;.rename_i g;exact At.I1 f e (h.blank f g)
  exact h
theorem At.sk(h:At a n k c b i d)(e:k<=5):At a (sk a n) k c b i d:=h.I1 e _
structure Is(s:List UInt8)(i k f:Nat)(acc:List UInt8)(op:List Nat)(fs:List Fm)(ix:Nat)(nm:List UInt8):Prop where
 a:At s i 6 op fs ix nm
 tx:(Zi s i).tx=acc
 tk:(Zi s i).tk=⟨k,4,f,0,0,[]⟩
structure Bs(s:List UInt8)(p k f:Nat)(t:List UInt8)(op:List Nat)(fs:List Fm)(ix:Nat)(nm:List UInt8):Prop where
 o:Oi s p
 op:(Zi s p).op=op
 ge:f<p
 r:(k=3/\(Zi s p).st=5/\∃j,Oi s j/\(Gi s j).st=fs/\(Gi s j).ix=ix/\(Gi s j).nm=nm/\Gi s p=aA (Gi s j) ⟨3,4,f,p,0,t⟩ true)\/(k=2/\(Zi s p).st=4/\(Gi s p).st=fs/\(Gi s p).ix=ix/\(Gi s p).nm=t)
theorem qE(x:n=2\/n=3):∀(m l:Nat)(o:List UInt8),Is a l n k o c b i d->k<l->a.length-l<m->((dP a m l o).e=0/\Bs a (dP a m l o).p n k (dP a m l o).t c b i d)\/((dP a m l o).e=2/\Bd a 2 (dP a m l o).p/\(Gi a (dP a m l o).p).st=b/\((Zi a (dP a m l o).p).st≠5/\(Zi a (dP a m l o).p).st≠9))
 |0,l,_,_,_,h=>absurd h om|m+1,l,o,h,F,H=>by
  have A:=h.a.st;have w:=h.a.o.at';rw[dP];by_cases t:bt a l=34
  .rw[ae t];left;refine⟨rfl,?_⟩;have e:an (Zi a l) (bt a l)=gf (Zi a l):=by grind(splits:=30)[an,iQ]
   have B:(Zi a l).tk.k=n:=by rw[h.tk]
   rcases x with rfl|rfl
   .have r:gf (Zi a l)=⟨{Zi a l with st:=4,tk:={(Zi a l).tk with t:=(Zi a l).tx},tx:=[]},[{(Zi a l).tk with t:=(Zi a l).tx}]⟩:=by unfold gf;rw[aa om]
    obtain⟨f,g,j⟩:=h.a.o.step om (e.trans r) si;refine⟨f,by rw[g];exact h.a.op,show k<l+1 by omega,I ⟨rfl,by rw[g],?_⟩⟩;have c2:Gi a (l+1)=aA (Gi a l) {(Zi a l).tk with t:=(Zi a l).tx} true:=j;have G:=OQ (Gi a l) (t:={(Zi a l).tk with t:=(Zi a l).tx}) B;refine⟨by rw[c2,G.1];exact h.a.fs,?_,?_⟩;.rw[c2];unfold aA;rw[aa (by simp only;omega),aa (by simp only;omega),ae (by simp only;omega)];exact h.a.ix
    rw[c2];unfold aA;rw[aa (by simp only;omega),aa (by simp only;omega),ae (by simp only;omega)];exact h.tx
   have r:gf (Zi a l)=gO {Zi a l with tk:={(Zi a l).tk with t:=(Zi a l).tx},tx:=[]}:=by unfold gf;rw[ae B]
   obtain⟨f,g,j⟩:=h.a.o.step om (e.trans r) (by simp[gO]);refine⟨f,by rw[g];exact h.a.op,show k<l+1 by omega,Y ⟨rfl,by rw[g];rfl,l,h.a.o,h.a.fs,h.a.ix,h.a.nm,?_⟩⟩;rw[j];show aA (Gi a l) {(Zi a l).tk with t:=(Zi a l).tx,to:=(Zi a l).at'+1} true=_;rw[h.tk,h.tx,w]
  rw[aa t];by_cases u:bt a l=92
  .rw[ae u];have y:l<a.length:=cQ om;have e:an (Zi a l) (bt a l)=(Zi a l).to 7:=by grind(splits:=30)[an,iQ]
   obtain⟨f,g,j⟩:=h.a.o.step om e (by simp[Sn.to]);have q:(Zi a (l+1)).st=7:=by rw[g];rfl
   have s:(Gi a (l+1)).st=b:=by rw[j];exact h.a.fs
   by_cases C:bt a (l+1)=34\/bt a (l+1)=92
   .rw[ae C];have r:an (Zi a (l+1)) (bt a (l+1))=il (Zi a (l+1)) (bt a (l+1)):=by grind(splits:=30)[kV,an]
    obtain⟨D,v,c2⟩:=f.step om r (by simp[il]);refine qE x m (l+2) _ ⟨⟨D,by rw[v];rfl,by rw[v];show(Zi a (l+1)).op=c;rw[g];exact h.a.op,by rw[c2];exact s,by rw[c2];show(Gi a (l+1)).ix=i;rw[j];exact h.a.ix,by rw[c2];show(Gi a (l+1)).nm=d;rw[j];exact h.a.nm⟩,?_,?_⟩ om om;.rw[v];show(Zi a (l+1)).tx++[UInt8.ofNat (bt a (l+1))]=_;rw[g];show(Zi a l).tx++_=_;rw[h.tx]
    rw[v];show(Zi a (l+1)).tk=_;rw[g];exact h.tk
   rw[aa C];right;refine⟨rfl,show Bd a 2 (l+1)from ?_,s,show(Zi a (l+1)).st≠5/\(Zi a (l+1)).st≠9 by rw[q];omega⟩;by_cases p:bt a (l+1)=256;.grind[Bd.ends,k9]
   refine Bd.wrong f p ?_;unfold an;rw[aa (by rw[q];omega),ae q];unfold kV;rw[ae om];rfl
  rw[aa u];by_cases z:bt a l<32\/126<bt a l
  .rw[ae z];right;refine⟨rfl,show Bd a 2 l from ?_,h.a.fs,show(Zi a l).st≠5/\(Zi a l).st≠9 by rw[A];omega⟩;by_cases p:bt a l=256;.exact Bd.ends h.a.o p (k9 (Y (by rw[A];omega)))
   refine Bd.wrong h.a.o p ?_;unfold an iQ;rw[ae A,ae z];rfl
  rw[aa z];have y:l<a.length:=cQ om;have e:an (Zi a l) (bt a l)=il (Zi a l) (bt a l):=by grind(splits:=30)[an,iQ]
  obtain⟨f,g,j⟩:=h.a.o.step om e (by simp[il]);refine qE x m (l+1) _ ⟨⟨f,by rw[g];rfl,by rw[g];exact h.a.op,by rw[j];exact h.a.fs,by rw[j];exact h.a.ix,by rw[j];exact h.a.nm⟩,?_,by rw[g];exact h.tk⟩ om om;rw[g];show(Zi a l).tx++_=_;rw[h.tx]
structure Iw(s:List UInt8)(i of f:Nat)(l:List UInt8)(op:List Nat)(fs:List Fm)(ix:Nat)(nm:List UInt8):Prop where
 a:At s i 10 op fs ix nm
 rs:(Zi s i).rs=l
 tk:(Zi s i).tk=⟨3,of,f,0,0,[]⟩
structure Bp(s:List UInt8)(p:Nat)(t:Tok)(op:List Nat)(fs:List Fm)(ix:Nat)(nm:List UInt8):Prop where
 o:Oi s p
 st:(Zi s p).st=5
 op:(Zi s p).op=op
 g:∃j,Oi s j/\(Gi s j).st=fs/\(Gi s j).ix=ix/\(Gi s j).nm=nm/\Gi s p=aA (Gi s j) t true
theorem I3{of f:Nat}{op:List Nat}{fs:List Fm}{ix:Nat}{nm:List UInt8}:∀(l:List UInt8)(i:Nat),l≠[]->Iw a i of f l op fs ix nm->(dC a (l.map UInt8.toNat) i=i+l.length/\Bp a (i+l.length) ⟨3,of,f,i+l.length,0,[]⟩ op fs ix nm)\/(dC a (l.map UInt8.toNat) i≠i+l.length/\Bd a 2 (dC a (l.map UInt8.toNat) i)/\(Gi a (dC a (l.map UInt8.toNat) i)).st=fs/\((Zi a (dC a (l.map UInt8.toNat) i)).st≠5/\(Zi a (dC a (l.map UInt8.toNat) i)).st≠9))
 |[],_,h,_=>absurd rfl h|c::l,i,_,h=>by
  have o:=h.a.st;have j:=h.a.o.at';have k:an (Zi a i) (bt a i)=fA (Zi a i) (bt a i):=by grind(splits:=30)[an]
  have p:dC a ((c::l).map UInt8.toNat) i=if bt a i=c.toNat then dC a (l.map UInt8.toNat) (i+1)else i:=rfl;rw[p];have er:bt (Zi a i).rs 0=c.toNat:=by rw[h.rs];rfl
  by_cases n:bt a i=c.toNat
  .rw[ae n];have q:=c.toNat_lt;have g:bt a i≠256:=om;cases l with
   |nil=>
    have m:fA (Zi a i) (bt a i)=gO {Zi a i with rs:=(Zi a i).rs.tail}:=by unfold fA;rw[aa (by rw[er];omega),ae (by rw[h.rs];rfl)]
    obtain⟨e,b,c2⟩:=h.a.o.step g (k.trans m) (by simp[gO]);refine Y ⟨rfl,e,by show(Zi a (i+1)).st=5;rw[b];rfl,by show(Zi a (i+1)).op=op;rw[b];exact h.a.op,i,h.a.o,h.a.fs,h.a.ix,h.a.nm,?_⟩;show Gi a (i+1)=_;rw[c2];show aA (Gi a i) {(Zi a i).tk with to:=(Zi a i).at'+1} true=_;rw[h.tk,j];rfl|cons d l=>
    have m:fA (Zi a i) (bt a i)=⟨{Zi a i with st:=10,rs:=(Zi a i).rs.tail},[]⟩:=by unfold fA;rw[aa (by rw[er];omega),aa (by rw[h.rs];simp)]
    obtain⟨e,b,c2⟩:=h.a.o.step g (k.trans m) si;have R:=I3 (op:=op) (fs:=fs) (ix:=ix) (nm:=nm) (of:=of) (f:=f) (d::l) (i+1) si ⟨⟨e,by rw[b],by rw[b];exact h.a.op,by rw[c2];exact h.a.fs,by rw[c2];exact h.a.ix,by rw[c2];exact h.a.nm⟩,by rw[b];show(Zi a i).rs.tail=_;rw[h.rs];rfl,by rw[b];exact h.tk⟩;grind
  rw[aa n];refine I ⟨by rw[nI];omega,?_,h.a.fs,by rw[o];omega⟩;by_cases g:bt a i=256;.exact Bd.ends h.a.o g (k9 (Y (by rw[o];omega)))
  refine Bd.wrong h.a.o g ?_;rw[k];unfold fA;rw[ae (by rw[er];omega)];rfl
structure YD(s:List UInt8)(i a m f:Nat)(sg:Int)(op:List Nat)(fs:List Fm)(ix:Nat)(nm:List UInt8):Prop where
 w:At s i 9 op fs ix nm
 e:i=a+m
 sz:(Zi s i).sz=m
 sgn:(Zi s i).sg=sg
 tk:(Zi s i).tk=⟨3,3,f,0,(i_ s a m:Int),[]⟩
theorem I4(b:O (bt a n)=true)(c:bt a n≠48):∀m,0<m->0<i_ a n m|0,h=>absurd h om|1,_=>by grind(splits:=30)[bt,i_,O]|m+2,_=>by have:=I4 b c (m+1) om;rw[i_];omega
variable{o:Int}
theorem I5(h:YD a n k i j o c b m d)(l:O (bt a k)=true)(p:bt a k≠48)(s:0<i)(q:i<9)(f:O (bt a n)=true):YD a (n+1) k (i+1) j o c b m d:=by
 have t:=h.w.st;have u:=I4 l p i s;have e:an (Zi a n) (bt a n)=fe (Zi a n) (bt a n):=by unfold an;rw[aa om,aa om,ae (I t)];unfold gG;rw[aa om,ae ⟨f,by rw[h.sz];exact q⟩]
 have r:bt a n≠256:=λy=>by rw[y]at f;cases f
 obtain⟨x,y,z⟩:=h.w.o.step r e (by simp[fe]);have g:(Zi a n).tk.n*10+((bt a n-48:Nat):Int)=(i_ a k (i+1):Int):=by rw[h.tk];show(i_ a k i:Int)*10+_=_;rw[i_,<-h.e];omega
 refine⟨⟨x,by rw[y];rfl,by rw[y];exact h.w.op,by rw[z];exact h.w.fs,by rw[z];exact h.w.ix,by rw[z];exact h.w.nm⟩,by rw[h.e,Nat.add_assoc],?_,by rw[y];exact h.sgn,?_⟩;.rw[y];show(if(Zi a n).tk.n*10+((bt a n-48:Nat):Int)=0 then 9 else(Zi a n).sz+1)=i+1;rw[g,aa (by rw[i_];omega),h.sz]
 rw[y];show({(Zi a n).tk with n:=(Zi a n).tk.n*10+((bt a n-48:Nat):Int)}:Tok)=_;rw[g,h.tk]
theorem CY(l:O (bt a n)=true)(p:bt a n≠48):∀(f m e:Nat),YD a e n m k o c b i d->0<m->m+f=9->∃g,run O a f e=n+g/\g<=9/\YD a (n+g) n g k o c b i d
 |0,m,e,h,_,q=>⟨m,by rw[run];exact h.e,om,by rw[<-h.e];exact h⟩|f+1,m,e,h,r,q=>by
  rw[run];by_cases j:O (bt a e)=true;.rw[ae j];exact CY l p f (m+1) (e+1) (I5 h l p r om j) om om
  rw[aa j];exact⟨m,h.e,om,by rw[<-h.e];exact h⟩
structure Pn(s:List UInt8)(p f:Nat)(n:Int)(op:List Nat)(fs:List Fm)(ix:Nat)(nm:List UInt8):Prop where
 w:At s p 9 op fs ix nm
 t:cw (Zi s p)=⟨3,3,f,p,n,[]⟩full:O (bt s p)=true->¬(Zi s p).sz<9
theorem rp{f:Nat}{sg:Int}{op:List Nat}{fs:List Fm}{ix:Nat}{nm:List UInt8}(c:Sn)(A:Oi a n)(C:an (Zi a n) (bt a n)=fe c (bt a n))(p:c.tk=⟨3,3,f,0,0,[]⟩)(t:c.sz=0)(u:c.sg=sg)(v:c.op=op)(l:(Gi a n).st=fs/\(Gi a n).ix=ix/\(Gi a n).nm=nm)(h:O (bt a n)=true):Pn a (if bt a n=48 then n+1 else run O a 9 n) f (if bt a n=48 then 0 else(i_ a n (run O a 9 n-n):Int)*sg) op fs ix nm:=by
 have B:bt a n≠256:=λy=>by rw[y]at h;cases h
 obtain⟨x,y,z⟩:=A.step B C (by simp[fe]);have i:=x.at';have g:At a (n+1) 9 op fs ix nm:=⟨x,by rw[y];rfl,by rw[y];exact v,by rw[z];exact l.1,by rw[z];exact l.2.1,by rw[z];exact l.2.2⟩;have o:c.tk.n*10+((bt a n-48:Nat):Int)=((bt a n-48:Nat):Int):=by rw[p];simp
 by_cases d:bt a n=48
 .rw[ae d,ae d];refine⟨g,?_,λ_=>?_⟩
  .have:cw (Zi a (n+1))=⟨3,3,f,(Zi a (n+1)).at',0,[]⟩:=by
    have s:(Zi a (n+1)).tk=⟨3,3,f,0,0,[]⟩:=by rw[y];show({c.tk with n:=c.tk.n*10+((bt a n-48:Nat):Int)}:Tok)=_;rw[o,p,d];rfl
    grind[cw]
   rw[this,i]
  rw[y];show¬(if c.tk.n*10+((bt a n-48:Nat):Int)=0 then 9 else c.sz+1)<9;grind
 rw[aa d,aa d];have w:48<bt a n:=by simp[O]at h;omega
 have r:YD a (n+1) n 1 f sg op fs ix nm:=by
  refine⟨g,rfl,?_,by rw[y];exact u,?_⟩;.rw[y];show(if c.tk.n*10+((bt a n-48:Nat):Int)=0 then 9 else c.sz+1)=1;rw[o,aa om,t]
  rw[y];show({c.tk with n:=c.tk.n*10+((bt a n-48:Nat):Int)}:Tok)=_;grind[bt,i_]
 have er:run O a 9 n=run O a 8 (n+1):=by rw[run,ae h]
 obtain⟨e,k,s,b⟩:=CY h d 8 1 (n+1) r om om;rw[er,k,show n+e-n=e by omega];refine⟨b.w,?_,λm=>?_⟩;.have j:=b.w.o.at';show({(Zi a (n+e)).tk with n:=(Zi a (n+e)).tk.n*(Zi a (n+e)).sg,to:=(Zi a (n+e)).at'}:Tok)=_;rw[b.tk,b.sgn,j]
 rw[b.sz];intro D;rcases g_ O a 8 (n+1)with q|q;.rw[k]at q;omega
 rw[k,m]at q;cases q
def Ak(d:jt):Int:=if d.cl<0 then-1 else if d.kind=1 then(d.to:Int)else(d.to:Int)-1
def Al:Nat->Tv->Tv->Prop|0,_,_=>False|n+1,v,u=>v.d={u.d with cl:=Ak u.d}/\v.ws.length=u.ws.length/\∀i(h:i<v.ws.length)(a:i<u.ws.length),Al n v.ws[i] u.ws[i]
def lE(n:Nat)(b a:List Tv):Prop:=b.length=a.length/\∀i(h:i<b.length)(c:i<a.length),Al n b[i] a[i]
theorem lE.nil(n:Nat):lE n [] []:=⟨rfl,λi h=>by cases h⟩
theorem lE.one{v u:Tv}(h:Al n v u):lE n [v] [u]:=⟨rfl,λi a b=>by grind⟩
theorem lE.app{a b c d:List Tv}(h:lE n a b)(k:lE n c d):lE n (a++c) (b++d):=by grind(splits:=30)[Al,lE,Ak]
def sv(a:Nat)(n:Int)(t b c:List UInt8)(f p:Nat):Tv:=⟨⟨zT a,n,OS ⟨3,a,f,p,n,t⟩,b,c,f,p,0⟩,[]⟩
theorem jW(g:Gs)(a f p:Nat)(n:Int)(t:List UInt8):aA g ⟨3,a,f,p,n,t⟩ true={g with st:=ku g.st true (sv a n t g.nm (iv g.st g.ix g.nm) f p),nm:=[],bd:=f+1,ix:=g.ix+1,last:=some (sv a n t g.nm (iv g.st g.ix g.nm) f p)}:=rfl
def VP(s:List UInt8)(p m:Nat)(v u:Tv)(d:List Nat)(a:List Fm)(b:Nat)(c:List UInt8)(k:Nat):Prop:=(At s p 5 d (ku a true u) (b+1) []/\(Gi s p).last=some u/\Al m v u)\/(∃f n,Pn s p f n d a b c/\u=sv 3 n [] c (iv a b c) f p/\v=⟨{u.d with cl:=if da k (bt s p)=true then(p:Int)else-1},[]⟩)
theorem xJ{m of f p:Nat}{n:Int}{t nm pt:List UInt8}(c:0<m)(d:of≠3)(a:of<=4):Al m ⟨⟨zT of,n,OS ⟨3,of,f,p,n,t⟩,nm,pt,f,p,(p:Int)-1⟩,[]⟩ (sv of n t nm pt f p):=by obtain⟨m,rfl⟩:∃b,m=b+1:=⟨m-1,om⟩;refine⟨?_,rfl,λi h=>by cases h⟩;grind[Ak,zT,sv]
theorem beg(h:At a n k c b i d)(e:k=0\/(k=1/\bt a n≠93))(f:cm (bt a n)=false):an (Zi a n) (bt a n)=bm (Zi a n) (bt a n):=by have g:=h.st;grind[Ip,bT,an]
def fD(s:List UInt8)(i:Nat):List Tv:=if(Zi s i).st=9 then[⟨{(sv 3 (cw (Zi s i)).n [] (Gi s i).nm (iv (Gi s i).st (Gi s i).ix (Gi s i).nm) (cw (Zi s i)).af i).d with cl:=-1},[]⟩]else[]
theorem mn(h:(Zi a n).st≠9):fD a n=[]:=by unfold fD;rw[aa h]
def UC(s:List UInt8)(j m:Nat)(d:List Nat)(a:List Fm)(b:Nat)(c:List UInt8)(k:Nat)(r:Rs):Prop:=(r.e=0/\j<r.p/\∃v u,r.ws=[v]/\VP s r.p m v u d a b c k)\/(r.e≠0/\Bd s r.e r.p/\r.ws=[]/\(Gi s r.p).st=a/\((Zi s r.p).st≠5/\(Zi s r.p).st≠9))
def wRs(s:List UInt8)(a b:List UInt8)(j:Nat):Rs:=if dC s (bM (bt s j)) j=j+(bM (bt s j)).length then⟨[⟨⟨3,0,(bM (bt s j)).map UInt8.ofNat,a,b,j,dC s (bM (bt s j)) j,(dC s (bM (bt s j)) j:Int)-1⟩,[]⟩],0,dC s (bM (bt s j)) j⟩else⟨[],2,dC s (bM (bt s j)) j⟩
def YE(s:List UInt8)(a b:List UInt8)(k j:Nat):Rs:=if qF s j=true then⟨[⟨⟨1,lO s j,[],a,b,j,lJ s j,if da k (bt s (lJ s j))=true then(lJ s j:Int)else-1⟩,[]⟩],0,lJ s j⟩else⟨[],2,dF s j⟩
theorem vu(h:At a n k c b j d)(y:an (Zi a n) (bt a n)=bm (Zi a n) (bt a n))(t:bt a n≠256)(D:0<i)(M:iv b j d=g)(r:Nat)(q:UInt8)(l:List UInt8)(L:bt a n=q.toNat)(C:l≠[])(F:r<=2)(x:bm (Zi a n) (bt a n)=cU (Zi a n) r l)(B:bM (bt a n)=(q::l).map UInt8.toNat)(K:∀p,OS ⟨3,r,n,p,0,[]⟩=((q::l).map UInt8.toNat).map UInt8.ofNat)(J:zT r=3):UC a n i c b j d m (wRs a d g n):=by
 have v:=h.o.at';unfold wRs;obtain⟨f,o,w⟩:=h.o.step t (y.trans x) (by simp[cU]);have e:Iw a (n+1) r n l c b j d:=by refine⟨⟨f,by rw[o];rfl,by rw[o];exact h.op,by rw[w];exact h.fs,by rw[w];exact h.ix,by rw[w];exact h.nm⟩,by rw[o];rfl,?_⟩;rw[o];show(⟨3,r,(Zi a n).at',0,0,[]⟩:Tok)=_;rw[v]
 have A:dC a (bM (bt a n)) n=dC a (l.map UInt8.toNat) (n+1):=by grind[bt,dC]
 have z:(bM (bt a n)).length=l.length+1:=by rw[B];simp
 have R:=I3 l (n+1) C e;rw[A,z,show n+(l.length+1)=n+1+l.length by omega];rcases R with⟨u,s⟩|⟨u,s,G,H⟩
 .rw[ae u,u];left;obtain⟨N,P,S,T,U,W⟩:=s.g;refine⟨rfl,by show n<n+1+l.length;omega,_,sv r 0 [] d g n (n+1+l.length),rfl,Y ⟨⟨s.o,s.st,s.op,?_,?_,?_⟩,?_,?_⟩⟩;.grind[jW,Gi]
  .grind[jW,Gi]
  .grind[jW,Gi]
  .grind[jW,Gi]
  have:=xJ (m:=i) (of:=r) (f:=n) (p:=n+1+l.length) (n:=0) (t:=[]) (nm:=d) (pt:=g) D om om;grind
 rw[aa u];exact I ⟨si,s,rfl,G,H⟩
theorem UK(h:At a n k c b j d)(M:k=0\/k=1)(G:an (Zi a n) (bt a n)=bm (Zi a n) (bt a n))(s:bt a n≠256)(L:iv b j d=g)(D:bm (Zi a n) (bt a n)=fL (Zi a n) (bt a n)):UC a n i c b j d m (YE a d g m n):=by
 have w:=h.o.at';have x:∀{p:Nat}{o:Int},Pn a p n o c b j d->n<p->lJ a n=p->lO a n=o->qF a n=true->UC a n i c b j d m (YE a d g m n):=λ{p o}P C z J u=>by unfold YE;rw[ae u,z,J];refine Y ⟨rfl,C,_,sv 3 o [] d (iv b j d) n p,rfl,I ⟨n,o,P,rfl,?_⟩⟩;rw[L];rfl
 by_cases q:bt a n=45
 .have A:fL (Zi a n) (bt a n)=⟨{Zi a n with st:=8,tk:=⟨3,3,(Zi a n).at',0,0,[]⟩,sz:=0,sg:=-1},[]⟩:=by unfold fL;rw[ae q]
  obtain⟨e,f,l⟩:=h.o.step s ((G.trans D).trans A) si;have y:(Zi a (n+1)).st=8:=by rw[f]
  have t:dF a n=n+1:=by unfold dF;rw[ae q]
  have F:an (Zi a (n+1)) (bt a (n+1))=gG (Zi a (n+1)) (bt a (n+1)):=by grind[an]
  by_cases v:49<=bt a (n+1)/\bt a (n+1)<=57
  .have B:O (bt a (n+1))=true:=by simp[O];omega
   have H:gG (Zi a (n+1)) (bt a (n+1))=fe (Zi a (n+1)) (bt a (n+1)):=by grind[gG]
   have P:=rp (f:=n) (sg:=-1) (op:=c) (fs:=b) (ix:=j) (nm:=d) (Zi a (n+1)) e (F.trans H) (by rw[f];show(⟨3,3,(Zi a n).at',0,0,[]⟩:Tok)=_;rw[w]) (by rw[f]) (by rw[f]) (by rw[f];exact h.op) ⟨by rw[l];exact h.fs,by rw[l];exact h.ix,by rw[l];exact h.nm⟩ B;grind[fN,O,qF,lJ,lO,run]
  have u:qF a n=false:=by grind[bt,O,qF]
  unfold YE;rw[aa (by rw[u];simp),t];refine I ⟨si,?_,rfl,by rw[l];exact h.fs,by rw[y];omega⟩;by_cases K:bt a (n+1)=256;.grind[Bd.ends,k9]
  refine Bd.wrong e K ?_;rw[F];unfold gG;rw[ae ⟨y,v⟩];rfl
 have t:dF a n=n:=by unfold dF;rw[aa q]
 by_cases v:O (bt a n)=true
 .have A:fL (Zi a n) (bt a n)=fe {Zi a n with tk:=⟨3,3,(Zi a n).at',0,0,[]⟩,sz:=0,sg:=1} (bt a n):=by unfold fL;rw[aa q,ae v]
  have P:=rp (f:=n) (sg:=1) (op:=c) (fs:=b) (ix:=j) (nm:=d) {Zi a n with tk:=⟨3,3,(Zi a n).at',0,0,[]⟩,sz:=0,sg:=1} h.o ((G.trans D).trans A) (by show(⟨3,3,(Zi a n).at',0,0,[]⟩:Tok)=_;rw[w]) rfl rfl h.op ⟨h.fs,h.ix,h.nm⟩ v;have u:qF a n=true:=by unfold qF;rw[t,v];simp[q]
  by_cases r:bt a n=48
  .rw[ae r,ae r]at P;have z:lJ a n=n+1:=by unfold lJ;rw[t,ae r]
   refine x P om z ?_ u;unfold lO;rw[aa q,z,t,show n+1-n=1 by omega];show((10*0+(bt a (n+0)-48):Nat):Int)=0;rw[Nat.add_zero,r];rfl
  grind[fN,O,lJ,lO,run]
 have u:qF a n=false:=by unfold qF;rw[t];simp[v]
 unfold YE;rw[aa (by rw[u];simp),t];refine I ⟨si,?_,rfl,h.fs,?_⟩;.refine Bd.wrong h.o s ?_;grind[fL]
 show(Zi a n).st≠5/\(Zi a n).st≠9;rw[h.st];omega
theorem OT{D m:Nat}{k:Nat}(h:At a n D c b i d)(C:D=0\/(D=1/\bt a n≠93))(M:cm (bt a n)=false)(q:bt a n≠256)(s:bt a n≠91)(o:bt a n≠123)(x:0<m)(z:iv b i d=g):UC a n m c b i d k (iC a d g k n):=by
 have u:=beg h C M;have B:=h.o.at';have U:=h.o.ml;have N:n<a.length:=cQ (by have:=xI a n;omega);unfold iC;by_cases r:bt a n=34
 .rw[ae r];have K:bm (Zi a n) (bt a n)=dK (Zi a n) 3:=by unfold bm;rw[aa s,aa o,ae r]
  obtain⟨f,j,l⟩:=h.o.step q (u.trans K) (by simp[dK]);have L:aM a n=dP a (a.length+1) (n+1) []:=by unfold aM;rw[ae r]
  have e:Is a (n+1) 3 n [] c b i d:=by
   refine⟨⟨f,by rw[j];rfl,by rw[j];exact h.op,by rw[l];exact h.fs,by rw[l];exact h.ix,by rw[l];exact h.nm⟩,?_,?_⟩;.rw[j];have S:=h.st;exact h.o.rn.ok.x (by show(Zi a n).st≠6/\(Zi a n).st≠7;omega)
   rw[j];show(⟨3,4,(Zi a n).at',0,0,[]⟩:Tok)=_;rw[B]
  rw[L];rcases qE (I rfl) (a.length+1) (n+1) [] e om om with⟨H,v⟩|⟨H,v,W,q4⟩
  .rw[ae H];left;generalize(dP a (a.length+1) (n+1) []).p=p at*;generalize(dP a (a.length+1) (n+1) []).t=t at*;rcases v.r with⟨_,P,T,r2,r3,R,r5,J⟩|⟨y,_⟩
   .refine⟨rfl,v.ge,_,sv 4 0 t d g n p,rfl,Y ⟨⟨v.o,P,v.op,?_,?_,?_⟩,?_,xJ (of:=4) x om om⟩⟩;.grind[jW]
    .rw[J,jW,R]
    .rw[J,jW]
    grind[jW]
   omega
  rw[aa om];right;grind
 rw[aa r];by_cases G:bt a n=116\/bt a n=102\/bt a n=110
 .rw[ae G];show UC a n m c b i d k (wRs a d g n);by_cases w:bt a n=116;.exact vu h u q x z 2 116 [114,117,101] w si om (by unfold bm;rw[aa s,aa o,aa r,ae w]) (by rw[w];rfl) (λp=>rfl) rfl
  by_cases A:bt a n=102;.exact vu h u q x z 1 102 [97,108,115,101] A si om (by unfold bm;rw[aa s,aa o,aa r,aa w,ae A]) (by rw[A];rfl) (λp=>rfl) rfl
  have F:bt a n=110:=om;exact vu h u q x z 0 110 [117,108,108] F si om (by unfold bm;rw[aa s,aa o,aa r,aa w,aa A,ae F]) (by rw[F];rfl) (λp=>rfl) rfl
 rw[aa G];exact UK h om u q z (by unfold bm;rw[aa s,aa o,aa r,aa om,aa om,aa om])
theorem CZ(u:List UInt8)(N b:Nat)(a:List dz):eD u (N+1) b a=if bt u (bO u b).p=44 then eD u N ((bO u b).p+1) (a++[(bO u b).v])else⟨a++[(bO u b).v],(bO u b).p⟩:=by rw[eD]
