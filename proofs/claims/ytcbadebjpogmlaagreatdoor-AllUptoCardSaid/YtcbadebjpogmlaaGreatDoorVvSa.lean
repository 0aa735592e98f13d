import Derived.Test.YtcbadebjpogmlaaGreatDoorVvPlain7
namespace Tr
structure Tok where
 k:Nat
 of:Nat
 af:Nat
 to:Nat
 n:Int
 t:List UInt8
structure Sn where
 st:Nat
 at':Nat
 op:List Nat
 tk:Tok
 tx:List UInt8
 rs:List UInt8
 sz:Nat
 sg:Int
structure Sx where
 z:Sn
 ts:List Tok
def Sn.to(z:Sn)(s:Nat):Sx:=⟨{z with st:=s},[]⟩
def gC(a:List Nat):Bool:=a.getLast?==some 6
def gu(a:List Nat)(b:Nat):Bool:=cm b||(!a.isEmpty&&(if gC a then(b==44||b==125)else(b==44||b==93)))
def cN(z:Sn):Sx:=⟨{z with st:=5,op:=z.op.dropLast},[⟨1,0,0,z.at'+1,0,[]⟩]⟩
def aC(z:Sn)(b:Nat):Sx:=if gu z.op b=false then z.to 12 else if cm b=true then z.to 5 else if b≠44 then cN z else if gC z.op=true then z.to 3 else z.to 0
def il(z:Sn)(b:Nat):Sx:=⟨{z with st:=6,tx:=z.tx++[UInt8.ofNat b]},[]⟩
def gO(z:Sn):Sx:=⟨{z with st:=5,tk:={z.tk with to:=z.at'+1}},[{z.tk with to:=z.at'+1}]⟩
def gf(z:Sn):Sx:=if z.tk.k=3 then gO {z with tk:={z.tk with t:=z.tx},tx:=[]}else⟨{z with st:=4,tk:={z.tk with t:=z.tx},tx:=[]},[{z.tk with t:=z.tx}]⟩
def iQ(z:Sn)(b:Nat):Sx:=if b<32\/126<b then z.to 12 else if b=92 then z.to 7 else if b=34 then gf z else il z b
def kV(z:Sn)(b:Nat):Sx:=if b≠34/\b≠92 then z.to 12 else il z b
def fe(z:Sn)(b:Nat):Sx:=⟨{z with st:=9,tk:={z.tk with n:=z.tk.n*10+((b-48:Nat):Int)},sz:=if z.tk.n*10+((b-48:Nat):Int)=0 then 9 else z.sz+1},[]⟩
def cw(z:Sn):Tok:={z.tk with n:=z.tk.n*z.sg,to:=z.at'}
def gG(z:Sn)(b:Nat):Sx:=if z.st=8/\¬(49<=b/\b<=57)then z.to 12 else if O b=true/\z.sz<9 then fe z b else if gu z.op b=false then z.to 12 else⟨(aC z b).z,cw z::(aC z b).ts⟩
def fA(z:Sn)(b:Nat):Sx:=if b≠bt z.rs 0 then z.to 12 else if z.rs.tail=[]then gO {z with rs:=z.rs.tail}else⟨{z with st:=10,rs:=z.rs.tail},[]⟩
def jb(z:Sn)(b a:Nat):Sx:=if z.op.length=8 then z.to 11 else⟨{z with st:=a,op:=z.op++[b]},[⟨0,b,z.at',0,0,[]⟩]⟩
def dK(z:Sn)(a:Nat):Sx:=⟨{z with st:=6,tk:=⟨a,4,z.at',0,0,[]⟩},[]⟩
def cU(z:Sn)(b:Nat)(a:List UInt8):Sx:=⟨{z with st:=10,tk:=⟨3,b,z.at',0,0,[]⟩,rs:=a},[]⟩
def fL(z:Sn)(b:Nat):Sx:=if b=45 then⟨{z with st:=8,tk:=⟨3,3,z.at',0,0,[]⟩,sz:=0,sg:=-1},[]⟩else if O b=true then fe {z with tk:=⟨3,3,z.at',0,0,[]⟩,sz:=0,sg:=1} b else⟨{z with st:=12,tk:=⟨3,3,z.at',0,0,[]⟩,sz:=0,sg:=1},[]⟩
def bm(z:Sn)(b:Nat):Sx:=if b=91 then jb z 5 1 else if b=123 then jb z 6 2 else if b=34 then dK z 3 else if b=116 then cU z 2 [114,117,101]else if b=102 then cU z 1 [97,108,115,101]else if b=110 then cU z 0 [117,108,108]else fL z b
def bT(z:Sn)(b:Nat):Sx:=if z.st=5 then aC z b else if z.st=4/\b=58 then z.to 0 else if(z.st=1/\b=93)\/(z.st=2/\b=125)then cN z else if z.st=1\/z.st=0 then bm z b else if z.st≠4/\b=34 then dK z 2 else z.to 12
def an(z:Sn)(b:Nat):Sx:=if z.st=6 then iQ z b else if z.st=7 then kV z b else if z.st=8\/z.st=9 then gG z b else if z.st=10 then fA z b else if cm b=true then z.to z.st else bT z b
def ah:Sn:=⟨0,0,[],⟨0,0,0,0,0,[]⟩,[],[],0,0⟩
structure Sf where
 z:Sn
 e:Nat
 ts:List Tok
def aj:Sn->List UInt8->Sf|z,[]=>⟨z,0,[]⟩|z,b::l=>if(an z b.toNat).z.st=12 then⟨(an z b.toNat).z,2,(an z b.toNat).ts⟩else if(an z b.toNat).z.st=11 then⟨(an z b.toNat).z,3,(an z b.toNat).ts⟩else⟨(aj {(an z b.toNat).z with at':=(an z b.toNat).z.at'+1} l).z,(aj {(an z b.toNat).z with at':=(an z b.toNat).z.at'+1} l).e,(an z b.toNat).ts++(aj {(an z b.toNat).z with at':=(an z b.toNat).z.at'+1} l).ts⟩
def aZ(z:Sn):Bool:=(z.st==5||z.st==9)&&z.op.isEmpty
def fF(z:Sn):List Tok:=if z.st=9 then[cw z]else[]
structure jm(z:Sn):Prop where
 op:z.op.length<=8/\∀k∈z.op,k=5\/k=6
 ne:z.st=1\/z.st=2\/z.st=3\/z.st=4->z.op≠[]tk:z.tk.k<=3/\z.tk.of<=6
 st:z.st=6\/z.st=7->z.tk.k=2\/z.tk.k=3
 w:z.st=10->z.rs≠[]/\z.rs.length<=4/\z.tk.k=3
 n:z.st=8\/z.st=9->z.sz<=9/\0<=z.tk.n/\z.tk.n<((10^z.sz:Nat):Int)/\(z.sg=1\/z.sg=-1)/\z.tk.k=3
 m:z.st=8->z.sz=0/\z.tk.n=0
 x:z.st≠6/\z.st≠7->z.tx=[]
structure Sh where
 op:List Nat
 bd:Nat
def fK(s:Sh)(t:Tok):Sh:=if t.k=0 then⟨s.op++[t.of],t.af+1⟩else if t.k=1 then⟨s.op.dropLast,s.bd⟩else if t.k=2 then s else⟨s.op,t.af+1⟩
def bC(s:Sh)(a:List Tok):Sh:=a.foldl fK s
structure eN(s:Sh)(t:Tok):Prop where
 k:t.k<=3
 of:t.of<=6
 af:t.af<4000000
 to:t.to<=4000000
 n:-1000000000<t.n/\t.n<1000000000
 k0:t.k=0->(t.of=5\/t.of=6)/\s.op.length<8/\t.n=0/\t.t=[]/\s.bd<=t.af
 k1:t.k=1->s.op≠[]k3:t.k=3->t.of<=4/\s.op.length<=8/\(t.of≠4->t.t=[])/\(t.of≠3->t.n=0)/\s.bd<=t.af
def kU:Sh->List Tok->Prop|_,[]=>True|s,t::r=>eN s t/\kU (fK s t) r
theorem kU.app:∀{a b:List Tok}{s:Sh},kU s a->kU (bC s a) b->kU s (a++b)|[],_,_,_,h=>h|_::_,_,_,h,k=>⟨h.1,kU.app h.2 k⟩
theorem oQ(s:Sh)(a b:List Tok):bC s (a++b)=bC (bC s a) b:=by simp[bC]
structure Lk(z:Sn)(s:Sh):Prop where
 op:s.op=z.op
 bd:s.bd<=z.at'
 tk:6<=z.st/\z.st<=10->s.bd<=z.tk.af/\z.tk.af<z.at'/\z.tk.af<4000000/\z.tk.to=0
 sS:z.st=6\/z.st=7->z.tk.n=0/\z.tk.of=4/\(z.tk.k=2->z.op≠[])sN:z.st=8\/z.st=9->z.tk.of=3/\z.tk.t=[]sW:z.st=10->z.tk.of<=2/\z.tk.t=[]/\z.tk.n=0
structure tI(z:Sn)(s:Sh)(x:Sx):Prop where
 st:x.z.st<=12
 at':x.z.at'=z.at'
 tx:x.z.tx.length<=z.tx.length+1
 no:11<=x.z.st->x.ts=[]ok:x.z.st<=10->jm x.z
 tok:kU s x.ts
 lk:x.z.st<=10->Lk {x.z with at':=x.z.at'+1} (bC s x.ts)
variable{b i:Sn}{a:Sh}{n k:Nat}
theorem fZ{z':Sn}(c:z'.at'=b.at')(d:z'.tx=b.tx)(e:11<=n/\n<=12):tI b a ⟨{z' with st:=n},[]⟩where
 st:=e.2
 at':=c
 tx:=by simp[d]
 no:=λ_=>rfl
 ok:=λh=>absurd h (by simp;omega)
 tok:=trivial
 lk:=λh=>absurd h (by simp;omega)
theorem BP(d:jm b)(c:Lk b a)(e:b.tx=[])(f:n=0\/n=5\/((n=1\/n=2\/n=3\/n=4)/\b.op≠[])):tI b a (b.to n)where
 st:=by simp[Sn.to];omega
 at':=rfl
 tx:=by simp[Sn.to]
 no:=λ_=>rfl
 ok:=λ_=>by
  refine⟨d.op,?_,d.tk,?_,?_,?_,?_,?_⟩<;>simp only[Sn.to]<;>intro h;.grind
  all_goals grind
 tok:=trivial
 lk:=λ_=>by
  refine⟨c.op,?_,?_,?_,?_,?_⟩<;>simp only[Sn.to,bC,List.foldl];.have:=c.bd;omega
  all_goals grind
theorem zu(d:jm b)(c:Lk b a)(j:b.tx=[])(f:b.op≠[])(g:b.at'<4000000):tI b a (cN b)where
 st:=by simp[cN]
 at':=rfl
 tx:=by simp[cN]
 no:=λh=>by simp[cN]at h
 ok:=λ_=>by
  refine⟨⟨?_,?_⟩,?_,d.tk,?_,?_,?_,?_,?_⟩<;>simp only[cN];.have:=d.op.1;simp;omega
  .exactλk i=>d.op.2 k (List.dropLast_subset _ i)
  all_goals grind
 tok:=by refine⟨⟨si,si,si,by simp;omega,si,si,λ_=>by rw[c.op];exact f,si⟩,trivial⟩
 lk:=λ_=>by
  have e:bC a (cN b).ts=⟨a.op.dropLast,a.bd⟩:=by simp[cN,bC,fK]
  rw[e];refine⟨by simp[cN,c.op],?_,?_,?_,?_,?_⟩<;>simp only[cN];.have:=c.bd;omega
  all_goals grind
theorem CH{a:List Nat}(h:gu a n=true)(b:cm n=false):a≠[]:=by intro e;simp[gu,b,e]at h
theorem sK(g:jm b)(f:Lk b a)(h:b.tx=[])(e:b.at'<4000000)(c:Nat):tI b a (aC b c):=by
 unfold aC;by_cases d:gu b.op c=false;.rw[ae d];exact fZ rfl rfl om
 grind[CH,zu,BP,gC,cm,gu]
theorem Em(e:jm b)(d:Lk b a)(f:b.st=6\/b.st=7)(c:Nat):tI b a (il b c)where
 st:=by simp[il]
 at':=rfl
 tx:=by simp[il]
 no:=λh=>by simp[il]at h
 ok:=λ_=>by refine⟨e.op,?_,e.tk,λ_=>e.st f,?_,?_,?_,?_⟩<;>simp only[il]<;>intro h<;>exfalso<;>omega
 tok:=trivial
 lk:=λ_=>by
  have h:=d.tk om;refine⟨d.op,?_,?_,λ_=>d.sS f,?_,?_⟩<;>simp only[il,bC,List.foldl];.have:=d.bd;omega
  .grind
  all_goals grind
theorem WG(d:jm b)(c:Lk b a)(e:b.st=6):tI b a (b.to 7)where
 st:=by simp[Sn.to]
 at':=rfl
 tx:=by simp[Sn.to]
 no:=λh=>by simp[Sn.to]at h
 ok:=λ_=>by refine⟨d.op,?_,d.tk,λ_=>d.st (Y e),?_,?_,?_,?_⟩<;>simp only[Sn.to]<;>intro h<;>exfalso<;>omega
 tok:=trivial
 lk:=λ_=>by
  have h:=c.tk om;refine⟨c.op,?_,?_,λ_=>c.sS (Y e),?_,?_⟩<;>simp only[Sn.to,bC,List.foldl];.have:=c.bd;omega
  .grind
  all_goals grind
variable{j:Tok}
theorem G'{at0:Nat}(m:i.st=5)(d:i.op=b.op)(c:b.op.length<=8/\∀k∈b.op,k=5\/k=6)(f:a.op=b.op)(l:i.tk.k<=3/\i.tk.of<=6)(g:i.tx=[])(n:i.at'=b.at')(q:eN a j)(p:j.k=3)(r:j.af<at0)(o:at0<=b.at'+1):tI b a ⟨i,[j]⟩where
 st:=by show i.st<=12;omega
 at':=n
 tx:=by simp[g]
 no:=λh=>by have:11<=i.st:=h;omega
 ok:=λ_=>by refine⟨by rw[d];exact c,?_,l,?_,?_,?_,?_,λ_=>g⟩<;>intro h<;>exfalso<;>revert h<;>show _->False<;>rw[show(Sx.mk i [j]).z=i from rfl]<;>omega
 tok:=⟨q,trivial⟩
 lk:=λ_=>by
  have e:bC a [j]=⟨a.op,j.af+1⟩:=by simp[bC,fK,p]
  show Lk _ (bC a [j]);rw[e];refine⟨by simp[d,f],by simp;omega,?_,?_,?_,?_⟩<;>intro h<;>exfalso<;>revert h<;>simp only[m]<;>omega
theorem zv(d:jm b)(c:Lk b a)(g:6<=b.st/\b.st<=10)(q:b.tk.of<=4)(t:b.tk.of≠4->b.tk.t=[])(k:b.tk.n=0)(s:b.at'<4000000)(l:i.op=b.op)(j:i.at'=b.at')(e:i.tk.k=3)(f:i.tk.of=b.tk.of)(m:i.tk.af=b.tk.af)(n:i.tk.n=b.tk.n)(o:b.tk.of≠4->i.tk.t=b.tk.t)(p:i.tx=[]):tI b a (gO i):=by
 have h:=c.tk g;refine G' (at0:=b.at') rfl l d.op c.op ⟨by simp[e],by simp[f];omega⟩ p j ?_ e (by show i.tk.af<b.at';omega) om;have r:=d.op.1;refine⟨by simp[e],by simp[f];omega,?_,?_,?_,?_,?_,?_⟩<;>simp only[j,e,f,m,n];.omega
 .omega
 .rw[k];omega
 .omega
 .omega
 intro _;exact⟨q,by rw[c.op];exact r,λx=>(o x).trans (t x),λ_=>k,h.1⟩
theorem Mm(c:jm b)(d:Lk b a)(g:b.st=6)(k:b.at'<4000000):tI b a (gf b):=by
 have i:=d.sS (Y g);have h:=d.tk om;unfold gf;by_cases j:b.tk.k=3;.grind[zv]
 rw[aa j];have f:b.tk.k=2:=by exact(c.st (Y g)).resolve_right j
 refine⟨si,rfl,si,λh=>by simp at h,λ_=>?_,?_,λ_=>?_⟩
 .refine⟨c.op,?_,c.tk,?_,?_,?_,?_,λ_=>rfl⟩<;>simp only<;>intro h;.exact i.2.2 f
  all_goals exfalso;omega
 .refine⟨⟨c.tk.1,c.tk.2,?_,?_,?_,?_,?_,?_⟩,trivial⟩<;>simp only[f,i.1]<;>omega
 have e:bC a [{b.tk with t:=b.tx}]=a:=by simp[bC,fK,f]
 simp only;rw[e];refine⟨d.op,by have:=d.bd;simp;omega,?_,?_,?_,?_⟩<;>simp only<;>intro h<;>exfalso<;>omega
theorem Rc(f:jm b)(e:Lk b a)(g:b.st=6)(d:b.at'<4000000)(c:Nat):tI b a (iQ b c):=by
 unfold iQ;split;.exact fZ rfl rfl om
 grind[Em,WG,Mm]
theorem Re(e:jm b)(d:Lk b a)(f:b.st=7)(c:Nat):tI b a (kV b c):=by
 unfold kV;split;.exact fZ rfl rfl om
 grind[Em]
theorem En(g:i.at'=b.at')(c:i.tx=b.tx)(d:i.op.length<=8/\∀k∈i.op,k=5\/k=6)(f:i.tk.k=3/\i.tk.of=3/\i.tk.t=[]/\i.tk.to=0)(e:i.tx=[])(q:i.sz<9/\0<=i.tk.n/\i.tk.n<((10^i.sz:Nat):Int)/\(i.sg=1\/i.sg=-1))(j:O n=true)(m:a.op=i.op)(l:a.bd<=i.tk.af/\i.tk.af<=i.at'/\i.tk.af<4000000):tI b a (fe i n):=by
 have o:n-48<=9:=by simp[O]at j;omega
 have p:i.tk.n*10+((n-48:Nat):Int)<((10^(i.sz+1):Nat):Int):=by grind
 refine⟨by simp[fe],g,by simp[fe,c],λh=>by simp[fe]at h,λ_=>?_,trivial,λ_=>?_⟩
 .refine⟨d,?_,by simp only[fe];omega,?_,?_,?_,?_,λ_=>e⟩<;>simp only[fe]<;>intro h;.exfalso;omega
  .exfalso;omega
  .exfalso;omega
  .grind
  exfalso;omega
 refine⟨m,by simp only[fe,bC,List.foldl];omega,λ_=>?_,?_,λ_=>⟨f.2.1,f.2.2.1⟩,?_⟩<;>simp only[fe,bC,List.foldl];.omega
 .intro h;exfalso;omega
 intro h;exfalso;omega
theorem Eo(h:n<=9):((10^n:Nat):Int)<=1000000000:=by have:10^n<=10^9:=Nat.pow_le_pow_right om h;grind
theorem rh(d:jm b)(c:Lk b a)(e:b.st=8\/b.st=9)(j:b.at'<=4000000):eN a (cw b):=by
 have f:=c.sN e;have h:=d.n e;have k:=c.tk om;have i:=d.op.1;have l:=Eo h.1;have g:-1000000000<b.tk.n*b.sg/\b.tk.n*b.sg<1000000000:=by grind
 refine⟨by simp[cw,h.2.2.2.2],by simp[cw,f.1],by simp only[cw];omega,by simp only[cw];omega,g,?_,?_,?_⟩<;>simp only[cw,h.2.2.2.2];.omega
 .omega
 intro _;exact⟨om,by rw[c.op];exact i,λ_=>f.2,λx=>absurd f.1 x,k.1⟩
theorem Rf(d:jm b)(f:Lk b a)(g:b.st=8\/b.st=9)(l:b.at'<4000000)(c:Nat):tI b a (gG b c):=by
 have i:b.tx=[]:=d.x om;have q:=f.sN g;have j:=d.n g;have n:=f.tk om;unfold gG;by_cases o:b.st=8/\¬(49<=c/\c<=57);.rw[ae o];exact fZ rfl rfl om
 rw[aa o];by_cases k:O c=true/\b.sz<9;.rw[ae k];exact En rfl rfl d.op ⟨j.2.2.2.2,q.1,q.2,n.2.2.2⟩ i ⟨k.2,j.2.1,j.2.2.1,j.2.2.2.1⟩ k.1 f.op ⟨n.1,om,n.2.2.1⟩
 rw[aa k];by_cases p:gu b.op c=false;.rw[ae p];exact fZ rfl rfl om
 rw[aa p];have u:=rh d f g om;have m:(cw b).k=3:=j.2.2.2.2;have e:fK a (cw b)=⟨a.op,b.tk.af+1⟩:=by simp[fK,m];rfl
 have r:Lk {b with st:=5} ⟨a.op,b.tk.af+1⟩:=by refine⟨f.op,by simp;omega,?_,?_,?_,?_⟩<;>simp only<;>intro h<;>exfalso<;>omega
 have s:jm {b with st:=5}:=by refine⟨d.op,?_,d.tk,?_,?_,?_,?_,λ_=>i⟩<;>simp only<;>intro h<;>exfalso<;>omega
 have B:=sK s r i l c;have t:aC {b with st:=5} c=aC b c:=rfl;rw[t]at B;have v:(aC b c).z.st<=10:=by grind(splits:=30)[Sn.to,aC,cN]
 refine⟨B.st,B.at',B.tx,λh=>?_,B.ok,⟨u,by rw[e];exact B.tok⟩,λh=>?_⟩;.grind
 have:=B.lk h;grind[aC,cw,bC]
theorem Mn(e:jm b)(d:Lk b a)(f:b.st=10)(l:b.at'<4000000)(c:Nat):tI b a (fA b c):=by
 have g:b.tx=[]:=e.x om;have k:=d.sW f;have n:=e.w f;have m:=d.tk om;unfold fA;by_cases i:c≠bt b.rs 0;.rw[ae i];exact fZ rfl rfl om
 rw[aa i];by_cases j:b.rs.tail=[];.grind[zv]
 rw[aa j];refine⟨si,rfl,si,λh=>by simp at h,λ_=>?_,trivial,λ_=>?_⟩
 .refine⟨e.op,?_,e.tk,?_,?_,?_,?_,λ_=>g⟩<;>simp only<;>intro h;.exfalso;omega
  .exfalso;omega
  .grind
  .exfalso;omega
  exfalso;omega
 refine⟨d.op,by have:=d.bd;simp[bC];omega,λ_=>?_,?_,?_,λ_=>k⟩<;>simp only[bC,List.foldl];.grind
 .intro h;exfalso;omega
 intro h;exfalso;omega
theorem Ep(f:jm b)(d:Lk b a)(i:b.tx=[])(n:b.at'<4000000)(k c:Nat)(p:k=5\/k=6)(q:c=1\/c=2):tI b a (jb b k c):=by
 unfold jb;by_cases l:b.op.length=8;.rw[ae l];exact fZ rfl rfl om
 rw[aa l];have m:=f.op.1;have g:=d.bd;refine⟨by simp;omega,rfl,si,λh=>by simp at h;omega,λ_=>?_,?_,λ_=>?_⟩
 .refine⟨⟨by simp;omega,?_⟩,?_,f.tk,?_,?_,?_,?_,λ_=>i⟩<;>simp only
  .intro j o;rcases gU.1 o with x|x;.exact f.op.2 j x
   grind
  .intro _ e;simp at e
  all_goals grind
 .refine⟨⟨si,by simp;omega,by simp;omega,si,si,λ_=>⟨p,by rw[d.op];omega,rfl,rfl,g⟩,si,si⟩,trivial⟩
 have e:bC a [⟨0,k,b.at',0,0,[]⟩]=⟨a.op++[k],b.at'+1⟩:=by simp[bC,fK]
 show Lk _ (bC a [⟨0,k,b.at',0,0,[]⟩]);rw[e];refine⟨by simp[d.op],si,?_,?_,?_,?_⟩<;>simp only<;>intro h<;>exfalso<;>omega
theorem zx(f:jm b)(c:Lk b a)(g:b.tx=[])(d:b.at'<4000000)(k:Nat)(i:k=3\/k=2/\b.op≠[]):tI b a (dK b k):=by
 have e:=c.bd;refine⟨by simp[dK],rfl,by simp[dK],λh=>by simp[dK]at h,λ_=>?_,trivial,λ_=>?_⟩;.refine⟨f.op,?_,by simp only[dK];omega,λ_=>by simp only[dK];omega,?_,?_,?_,λ_=>g⟩<;>simp only[dK]<;>intro h<;>exfalso<;>omega
 refine⟨c.op,by simp only[dK,bC,List.foldl];omega,λ_=>⟨e,tX _,d,rfl⟩,λ_=>⟨rfl,rfl,?_⟩,?_,?_⟩<;>simp only[dK]<;>intro h;.grind
 .exfalso;omega
 exfalso;omega
theorem pG(f:jm b)(c:Lk b a)(g:b.tx=[])(d:b.at'<4000000)(k:Nat)(j:k<=2)(l:List UInt8)(i:l≠[]/\l.length<=4):tI b a (cU b k l):=by
 have e:=c.bd;refine⟨by simp[cU],rfl,by simp[cU],λh=>by simp[cU]at h,λ_=>?_,trivial,λ_=>?_⟩;.refine⟨f.op,?_,by simp only[cU];omega,?_,λ_=>⟨i.1,i.2,rfl⟩,?_,?_,λ_=>g⟩<;>simp only[cU]<;>intro h<;>exfalso<;>omega
 refine⟨c.op,by simp only[cU,bC,List.foldl];omega,λ_=>⟨e,tX _,d,rfl⟩,?_,?_,λ_=>⟨j,rfl,rfl⟩⟩<;>simp only[cU]<;>intro h<;>exfalso<;>omega
theorem Mo(g:jm b)(d:Lk b a)(i:b.tx=[])(e:b.at'<4000000)(c:Nat):tI b a (fL b c):=by
 have f:=d.bd;unfold fL;by_cases k:c=45
 .rw[ae k];refine⟨si,rfl,si,λh=>by simp at h,λ_=>?_,trivial,λ_=>?_⟩;.refine⟨g.op,?_,by simp only;omega,?_,?_,λ_=>⟨si,si,si,si,rfl⟩,λ_=>⟨rfl,rfl⟩,λ_=>i⟩<;>simp only<;>intro h<;>exfalso<;>omega
  refine⟨d.op,by simp only[bC,List.foldl];omega,λ_=>⟨f,tX _,e,rfl⟩,?_,λ_=>⟨rfl,rfl⟩,?_⟩<;>simp only<;>intro h<;>exfalso<;>omega
 rw[aa k];by_cases j:O c=true;.rw[ae j];exact En rfl rfl g.op ⟨rfl,rfl,rfl,rfl⟩ i ⟨si,si,si,si⟩ j d.op ⟨f,aP _,e⟩
 rw[aa j];exact fZ (z':={b with tk:=⟨3,3,b.at',0,0,[]⟩,sz:=0,sg:=1}) rfl rfl om
theorem Ha(f:jm b)(e:Lk b a)(g:b.tx=[])(d:b.at'<4000000)(c:Nat):tI b a (bm b c):=by
 unfold bm;split;.grind[Ep]
 split;.grind[Ep]
 split;.grind[zx]
 split;.grind[pG]
 split;.exact pG f e g d 1 om _ ⟨si,si⟩
 grind[Mo,pG]
theorem Mp(d:jm b)(f:Lk b a)(h:b.st<=5)(e:b.at'<4000000)(c:Nat):tI b a (bT b c):=by
 have g:b.tx=[]:=d.x om;unfold bT;split;.grind[sK]
 split;.grind[BP]
 split;.exact zu d f g (d.ne om) e
 split;.grind[Ha]
 split;.exact zx d f g e 2 (I ⟨rfl,d.ne om⟩)
 exact fZ rfl rfl om
theorem gY(d:jm b)(e:Lk b a)(i:b.st<=10)(g:b.at'<4000000)(c:Nat):tI b a (an b c):=by
 unfold an;split;.grind[Rc]
 split;.grind[Re]
 split;.grind[Rf]
 split;.grind[Mn]
 split
 .have f:b.tx=[]:=d.x om;refine BP d e f ?_;by_cases h:b.st=0\/b.st=5;.omega
  exact I (I ⟨om,d.ne om⟩)
 grind[Mp]
structure Run(z:Sn)(s:Sh)(l:List UInt8)(f:Sf):Prop where
 tok:kU s f.ts
 ok:f.e=0->jm f.z/\f.z.st<=10/\f.z.at'=z.at'+l.length/\Lk f.z (bC s f.ts)e:f.e=0\/f.e=2\/f.e=3
 at':f.e≠0->z.at'<=f.z.at'/\f.z.at'<z.at'+l.length
 tx:f.z.tx.length<=z.tx.length+l.length
theorem fW:∀(l:List UInt8){z:Sn}{s:Sh},jm z->Lk z s->z.st<=10->z.at'+l.length<=4000000->Run z s l (aj z l)
 |[],z,s,g,i,j,_=>⟨trivial,λ_=>⟨g,j,rfl,i⟩,Y rfl,λh=>absurd rfl h,by simp[aj]⟩|b::l,z,s,g,i,j,m=>by
  have n:z.at'+(l.length+1)<=4000000:=by simpa using m
  have S:=gY g i j om b.toNat;rw[aj];by_cases f:(an z b.toNat).z.st=12
  .rw[ae f];refine⟨S.tok,λh=>by simp at h,I (Y rfl),λ_=>?_,?_⟩;.simp only[S.at',List.length_cons];omega
   have:=S.tx;simp only[List.length_cons];omega
  rw[aa f];by_cases e:(an z b.toNat).z.st=11
  .rw[ae e];refine⟨S.tok,λh=>by simp at h,I (I rfl),λ_=>?_,?_⟩;.simp only[S.at',List.length_cons];omega
   have:=S.tx;simp only[List.length_cons];omega
  rw[aa e];have d:(an z b.toNat).z.st<=10:=by have:=S.st;omega
  have k:=S.at';have c:=S.ok d;have a:jm {(an z b.toNat).z with at':=(an z b.toNat).z.at'+1}:=⟨c.op,c.ne,c.tk,c.st,c.w,c.n,c.m,c.x⟩;have R:=fW l a (S.lk d) d (by simp only[k];omega);refine⟨S.tok.app R.tok,λh=>?_,R.e,λh=>?_,?_⟩;.obtain⟨o,p,q,r⟩:=R.ok h;grind[oQ,an]
  .have:=R.at' h;grind
  have:=R.tx;have t:=S.tx;grind
theorem aX:jm ah/\Lk ah ⟨[],0⟩:=by refine⟨⟨by simp[ah],by simp[ah],by simp[ah],by simp[ah],by simp[ah],by simp[ah],by simp[ah],by simp[ah]⟩,⟨rfl,aT _,?_,?_,?_,?_⟩⟩<;>simp[ah]
theorem eQ:∀(a b:List UInt8)(z:Sn),(aj z a).e=0->(aj z (a++b))=⟨(aj (aj z a).z b).z,(aj (aj z a).z b).e,(aj z a).ts++(aj (aj z a).z b).ts⟩
 |[],b,z,_=>rfl|x::a,b,z,h=>by
  rw[List.cons_append,aj,aj];rw[aj]at h;split at h;.cases h
  rename_i d;split at h;.cases h
  rename_i c;rw[aa d,aa c,aa d,aa c];have:=eQ a b _ h;grind
theorem lM:∀(a b:List UInt8)(z:Sn),(aj z a).e≠0->aj z (a++b)=aj z a
 |[],_,_,h=>absurd rfl h|x::a,b,z,h=>by
  rw[List.cons_append,aj,aj];rw[aj]at h;split;.rfl
  rename_i d;rw[aa d]at h;split;.rfl
  rename_i c;rw[aa c]at h;rw[lM a b _ h]
structure Fm where
 d:jt
 ix:Nat
 kp:Bool
 ws:List Tv
structure Gs where
 st:List Fm
 nm:List UInt8
 ix:Nat
 bd:Nat
 last:Option Tv
def a_:Gs:=⟨[],[],0,0,none⟩
def Fm.tv(f:Fm)(a:Nat):Tv:=⟨{f.d with to:=a},f.ws⟩
def zT(a:Nat):Nat:=if a=3 then 1 else if a=4 then 2 else if a=5 then 4 else if a=6 then 5 else 3
def OS(t:Tok):List UInt8:=if t.of=4 then t.t else if t.of=2 then iS else if t.of=1 then fP else if t.of=0 then mM else[]
def ji(b:Nat)(a:List UInt8)(c:Nat)(d:List UInt8):List UInt8:=if b=4 then a++[91]++dec c++[93]else a++[91]++h_ d++[93]
def iv(c:List Fm)(a:Nat)(b:List UInt8):List UInt8:=match c with|[]=>[36]|f::_=>ji f.d.kind f.d.path a b
def bK(g:Gs)(t:Tok):jt:=⟨zT t.of,t.n,OS t,g.nm,iv g.st g.ix g.nm,t.af,0,0⟩
def aB(g:Gs)(t:Tok)(a:Bool):Fm:=⟨bK g t,g.ix,a,[]⟩
def dS(p:Fm)(a:Bool)(t:Tv):Fm:=if a=true then{p with ws:=p.ws++[t]}else p
def ku(r:List Fm)(a:Bool)(t:Tv):List Fm:=match r with|[]=>[]|p::q=>dS p a t::q
def aE(g:Gs)(f:Fm)(r:List Fm)(a:Nat):Gs:={g with st:=ku r f.kp (f.tv a),ix:=f.ix+1,last:=some (f.tv a)}
def aA(g:Gs)(t:Tok)(a:Bool):Gs:=if t.k=0 then{g with st:=aB g t a::g.st,nm:=[],ix:=0,bd:=t.af+1}else if t.k=1 then(match g.st with|[]=>g|f::r=>aE g f r t.to)else if t.k=2 then{g with nm:=t.t}else aE {g with nm:=[],bd:=t.af+1} (aB g t a) g.st t.to
def cT(g:Gs)(a:List Tok):Gs:=a.foldl (λg t=>aA g t true) g
theorem kC(g:Gs)(a b:List Tok):cT g (a++b)=cT (cT g a) b:=by simp[cT]
def fk(f:Fm):Nat:=if f.d.kind=4 then 5 else 6
def Gs.sh(g:Gs):Sh:=⟨(g.st.map fk).reverse,g.bd⟩
theorem Rh(p:Fm)(a:Bool)(t:Tv):fk (dS p a t)=fk p:=by unfold dS;split<;>rfl
theorem Ri(r:List Fm)(a:Bool)(t:Tv):(ku r a t).map fk=r.map fk:=by cases r<;>simp[ku,Rh]
theorem jj(g:Gs)(t:Tok)(b:Bool)(h:eN g.sh t):(aA g t b).sh=fK g.sh t:=by
 unfold aA fK;by_cases a:t.k=0
 .rw[ae a,ae a];have:=(h.k0 a).1;have e:fk (aB g t b)=t.of:=by rcases this with x|x<;>simp[fk,aB,bK,zT,x]
  simp[Gs.sh,e]
 grind[Ri,Gs.sh,aB,aE,bK]
def iO:List Fm->Nat->Prop|[],_=>True|f::r,a=>a=f.ws.length/\f.kp=true/\iO r f.ix
variable{l:List Fm}
theorem T6{f:Fm}(b:Nat)(a:f.kp=true)(h:iO l f.ix):iO (ku l f.kp (f.tv b)) (f.ix+1):=by cases l with|nil=>trivial|cons p q=>grind[dS,ku,iO]
variable{g:Gs}
theorem qv(h:iO g.st g.ix):iO (aA g j true).st (aA g j true).ix:=by
 unfold aA;by_cases b:j.k=0;.rw[ae b];exact⟨rfl,rfl,h⟩
 rw[aa b];by_cases c:j.k=1;.rw[ae c];cases a:g.st with|nil=>rw[a]at h;simpa[a]using h|cons f r=>rw[a]at h;exact T6 j.to h.2.1 h.2.2
 rw[aa c];by_cases d:j.k=2;.rw[ae d];exact h
 rw[aa d];exact T6 (f:=aB g j true) j.to rfl h
def rA(a:Nat):List Fm->Nat->Prop|[],_=>True|f::r,b=>f.ws.length<=b/\f.ix<=f.d.af/\f.d.af<a/\(f.d.kind=4\/f.d.kind=5)/\(f.kp=true->∀p q,r=p::q->f.ix=p.ws.length)/\rA a r f.ix
theorem rA.up(g:n<=k):∀{l:List Fm}{a:Nat},rA n l a->rA k l a|[],_,_=>trivial|_::_,_,⟨b,c,h,d,e,f⟩=>⟨b,c,om,d,e,rA.up g f⟩
structure UN(g:Gs):Prop where
 len:g.st.length<=8
 ix:g.ix<=g.bd
 bd:g.bd<=4000000
 ws:rA g.bd g.st g.ix
theorem xw:UN a_:=⟨by simp[a_],aP _,by simp[a_],trivial⟩
def jR(g:Gs)(a:Bool):Prop:=a=true->∀p q,g.st=p::q->g.ix=p.ws.length
theorem iO.may(h:iO g.st g.ix)(a:Bool):jR g a:=λ_ p q e=>by rw[e]at h;exact h.1
theorem T7{f:Fm}(a:Nat)(b:rA n l f.ix):rA n (ku l f.kp (f.tv a)) (f.ix+1):=by cases l with|nil=>trivial|cons p q=>grind(splits:=30)[dS,ku,rA]
theorem uZ(r:List Fm)(a:Bool)(t:Tv):(ku r a t).length=r.length:=by cases r<;>simp[ku]
theorem rq{k:Bool}(h:UN g)(a:eN g.sh j)(d:jR g k):UN (aA g j k):=by
 have B:g.sh.op.length=g.st.length:=by simp[Gs.sh]
 have u:g.sh.bd=g.bd:=rfl;have n:=h.len;have c:=h.ix;have o:=h.bd;unfold aA;by_cases b:j.k=0
 .rw[ae b];have y:=a.k0 b;have v:=a.af;refine⟨by simp;omega,si,by simp;omega,⟨by simp[aB],?_,by simp[aB,bK],?_,λw p q e=>d w p q e,h.ws.up (show g.bd<=j.af+1 by omega)⟩⟩;.show g.ix<=j.af;omega
  show zT j.of=4\/zT j.of=5;rcases y.1 with x|x<;>rw[x]<;>decide
 rw[aa b];by_cases l:j.k=1;.rw[ae l];cases i:g.st with|nil=>simp only;exact⟨by simp[i],c,o,by rw[i];trivial⟩|cons f r=>have s:=h.ws;rw[i]at s n;obtain⟨_,z,A,_,_,t⟩:=s;refine⟨by simp[aE,uZ];simp at n;omega,by simp only[aE];omega,o,T7 j.to t⟩
 rw[aa l];by_cases m:j.k=2;.rw[ae m];exact⟨h.len,h.ix,h.bd,h.ws⟩
 rw[aa m];have C:=a.k3 (by have:=a.k;omega);have v:=a.af;refine⟨by simp[aE,uZ];omega,by simp only[aE,aB];omega,by simp only[aE];omega,T7 (f:=aB g j k) j.to (h.ws.up (show g.bd<=j.af+1 by omega))⟩
def FB(a:Nat):Nat->Tv->Prop|0,_=>False|n+1,t=>t.d.af<a/\∀i(h:i<t.ws.length),FB a n t.ws[i]/\(t.ws[i]).d.path=ji t.d.kind t.d.path i (t.ws[i]).d.name
theorem FB.up(c:n<=k):∀{a:Nat}{t:Tv},FB n a t->FB k a t|0,_,h=>h|_+1,_,⟨d,b⟩=>⟨om,λi h=>⟨FB.up c (b i h).1,(b i h).2⟩⟩
def mN:List Fm->Prop|[]=>True|f::r=>f.d.path=iv r f.ix f.d.name/\mN r
structure Ct where
 eB:Nat
 al:Nat
def jc(b L i:Nat)(c:Tv):List Sg->List Ct->List Ct|s::r,a::d::e=>⟨(if s.deep=true then a.al else a.eB)*dX s.l b L i c,d.al+(if s.deep=true then a.al else a.eB)*dX s.l b L i c⟩::jc b L i c r (d::e)|_,_=>[]
def cZ(d:List Sg)(b L i:Nat)(c:Tv)(a:List Ct):List Ct:=⟨0,(a.headD ⟨0,0⟩).al⟩::jc b L i c d a
def b8(n:Nat):List Ct:=⟨1,1⟩::List.replicate n ⟨0,0⟩
def aG(a:List Ct)(k:Nat):Ct:=a.getD k ⟨0,0⟩
def b7(a:List Sg):Nat->Tv->List Ct->List (Tv×Nat)|0,_,_=>[]|n+1,t,b=>(t.ws.zipIdx.flatMap λp=>b7 a n p.1 (cZ a t.d.kind t.ws.length p.2 p.1 b))++(if 0<(aG b a.length).eB then[(t,(aG b a.length).eB)]else[])
structure Fw where
 g:Gs
 tl:List (List Ct)hd:Option Nat
 told:List (Tv×Nat)
def cJ:Fw:=⟨a_,[],none,[]⟩
def eO(a:List Sg)(s:Fw)(d:jt):List Ct:=match s.g.st with|[]=>b8 a.length|p::_=>cZ a p.d.kind p.ws.length s.g.ix ⟨d,[]⟩ (s.tl.getLastD [])
def jk(a:List Sg)(s:Fw)(d:jt):Fw:=if s.hd.isSome=true then s else{s with tl:=s.tl++[eO a s d],hd:=if ay a<a.length/\0<(aG (eO a s d) (ay a)).eB then some s.g.st.length else none}
def im(a:List Sg)(s:Fw)(t:Tv)(r:Nat):Fw:=if s.hd.isSome=true/\s.hd≠some r then s else{s with tl:=s.tl.dropLast,hd:=none,told:=s.told++b7 a 10 t (s.tl.getLastD [])}
def dE(a:List Sg)(s:Fw)(t:Tok):Fw:=if t.k=0 then{jk a s (bK s.g t)with g:=aA s.g t s.hd.isSome}else if t.k=1 then(match s.g.st with|[]=>s|f::r=>{im a s (f.tv t.to) r.length with g:=aA s.g t true})else if t.k=2 then{s with g:=aA s.g t true}else{im a (jk a s (bK s.g t)) ((aB s.g t true).tv t.to) s.g.st.length with g:=aA s.g t s.hd.isSome}
def bU(b:List Sg)(s:Fw)(a:List Tok):Fw:=a.foldl (dE b) s
theorem nB(c:List Sg)(s:Fw)(a b:List Tok):bU c s (a++b)=bU c (bU c s a) b:=by simp[bU]
def Deep:Nat->Tv->Prop|0,_=>False|n+1,t=>∀c∈t.ws,Deep n c
theorem fJ{b d:Type}{f g:b->List d}:∀{l:List b},(∀a∈l,f a=g a)->l.flatMap f=l.flatMap g|[],_=>rfl|a::l,h=>by rw[kD,kD,h a (dT),fJ λx c=>h x (f_ _ c)]
theorem du:∀{n m:Nat}{t:Tv},Deep n t->n<=m->ai m t=ai n t|0,_,_,h,_=>h.elim|n+1,0,_,_,b=>by omega|n+1,m+1,t,h,b=>by unfold ai;congr 1;exact fJ λc a=>du (h c a) om
theorem Deep.up:∀{n m:Nat}{t:Tv},Deep n t->n<=m->Deep m t|0,_,_,h,_=>h.elim|_+1,0,_,_,b=>by omega|_+1,_+1,_,h,b=>λc a=>(h c a).up om
def fr(t:Tv):Nat:=t.d.af
def Fb(n:Nat)(t:Tv):Prop:=(ai n t).Pairwise λa b=>fr a<fr b
variable{c d f m:Tv}
theorem bq(h:Deep n c):c∈ai n c:=by cases n with|zero=>exact h.elim|succ n=>unfold ai;exact dT
theorem mi(a:d∈c.ws):∀v∈ai n d,v∈ai (n+1) c:=λv b=>by grind(splits:=30)[ai]
theorem mj:∀{n:Nat}{t u v:Tv},Deep n t->u∈ai n t->v∈ai 10 u->n<=10->v∈ai n t
 |0,_,_,_,h,_,_,_=>h.elim|n+1,t,u,v,h,d,f,g=>by
  unfold ai at d;rcases fU.1 d with e|e;.grind[du]
  obtain⟨c,b,a⟩:=fE.1 e;exact mi b v (mj (h c b) a f om)
theorem gD(h:Fb n c)(a:d∈ai n c)(b:f∈ai n c)(e:fr d=fr f):d=f:=by obtain⟨i,g,rfl⟩:=gR.1 a;obtain⟨j,k,rfl⟩:=gR.1 b;have l:=List.pairwise_iff_getElem.1 h;grind
theorem sL:∀{n:Nat}{t u:Tv},Deep n t->u∈ai n t->∃m,m<=n/\Deep m u/\(ai m u).Sublist (ai n t)
 |0,_,_,h,_=>h.elim|n+1,t,u,h,g=>by
  unfold ai at g;rcases fU.1 g with e|e;.grind
  obtain⟨c,f,d⟩:=fE.1 e;obtain⟨m,l,i,j⟩:=sL (h c f) d;refine⟨m,om,i,j.trans ?_⟩;show(ai n c).Sublist (t::t.ws.flatMap (ai n));refine List.Sublist.cons _ ?_;obtain⟨a,b,k⟩:=List.append_of_mem f;grind
theorem vp(b:Deep n c)(h:Fb n c)(e:d∈ai n c)(i:n<=10):Fb 10 d/\Deep 10 d:=by obtain⟨m,f,a,g⟩:=sL b e;refine⟨?_,a.up om⟩;grind[du,Fb]
def ju(v:Tv)(l:List Tv):Nat:=l.countP λu=>fr u==fr v
def Mq(u v:Tv):Bool:=(ai 10 u).any λx=>fr x==fr v
def tJ(v:Tv)(l:List Tv):Nat:=l.countP λu=>Mq u v
theorem countP_flatMap{b c:Type}(p:c->Bool)(f:b->List c):∀(l:List b),(l.flatMap f).countP p=(l.map λa=>(f a).countP p).sum|[]=>rfl|a::l=>by rw[kD,List.countP_append,countP_flatMap p f l];simp
theorem BQ{b:Type}(p:b->Bool)(k:Nat)(f:b->Nat):∀(l:List b),(∀a∈l,f a=if p a=true then k else 0)->(l.map f).sum=l.countP p*k|[],_=>by simp|a::l,h=>by rw[List.map_cons,List.sum_cons,BQ p k f l λx c=>h x (f_ _ c),h a (dT),List.countP_cons];grind
theorem gZ(g:Deep n c)(h:d∈ai n c)(b:f∈d.ws):f∈ai n c:=by obtain⟨m,_,a,e⟩:=sL g h;refine e.subset ?_;cases m with|zero=>exact a.elim|succ m=>exact mi b f (bq (a f b))
theorem wC(k:Deep n c)(j:Fb n c)(l:d∈ai n c)(g:f∈d.ws):fr d<fr f:=by obtain⟨m,_,e,h⟩:=sL k l;have i:Fb m d:=j.sublist h;cases m with|zero=>exact e.elim|succ m=>have:(d::d.ws.flatMap (ai m)).Pairwise λa b=>fr a<fr b:=i;exact(List.pairwise_cons.1 this).1 f (fE.2 ⟨f,g,bq (e f g)⟩)
theorem j8(h:Fb n c)(f:d∈ai n c):fr c<=fr d:=by
 cases n with|zero=>cases f|succ n=>
  have g:(c::c.ws.flatMap (ai n)).Pairwise λa b=>fr a<fr b:=h;have f:d∈c::c.ws.flatMap (ai n):=f;rcases fU.1 f with e|e;.rw[e];exact aP _
  exact mR ((List.pairwise_cons.1 g).1 d e)
theorem UF{k:List Tv}(h:(k.flatMap (ai n)).Pairwise λa b=>fr a<fr b)(o:c∈k)(g:d∈k)(s:f∈ai n c)(hy:m∈ai n d)(e:fr f=fr m):c=d:=by obtain⟨_,l⟩:=List.pairwise_flatMap.1 h;obtain⟨i,p,rfl⟩:=gR.1 o;obtain⟨j,q,rfl⟩:=gR.1 g;have r:=List.pairwise_iff_getElem.1 l;grind
theorem nF:∀{n:Nat}{t u v d c:Tv},Deep n t->Fb n t->u∈ai n t->v∈ai n t->d∈u.ws->c∈v.ws->fr d=fr c->fr u=fr v
 |0,_,_,_,_,_,h,_,_,_,_,_,_=>h.elim|n+1,t,u,v,d,c,i,C,w,g,m,j,e=>by
  have B:(t::t.ws.flatMap (ai n)).Pairwise λa b=>fr a<fr b:=C;have r:=(List.pairwise_cons.1 B).2;have sub:∀k∈t.ws,Fb n k:=λk f=>(List.pairwise_flatMap.1 r).1 k f;have one:∀{k v d c:Tv},k∈t.ws->v∈ai n k->c∈v.ws->d∈t.ws->fr d=fr c->False:=λ{k v d c}f g z l e=>by have s:=gZ (i k f) g z;have:d=k:=UF r l f (bq (i d l)) s e;subst this;have D:=wC (i d f) (sub d f) g z;have F:=j8 (sub d f) g;omega
  have w:u∈t::t.ws.flatMap (ai n):=w;have g:v∈t::t.ws.flatMap (ai n):=g;rcases fU.1 w with x|x;.grind
  obtain⟨k,f,p⟩:=fE.1 x;rcases fU.1 g with y|y;.grind
  obtain⟨A,o,q⟩:=fE.1 y;have:k=A:=UF r f o (gZ (i k f) p m) (gZ (i A o) q j) e;subst this;exact nF (i k f) (sub k f) p q m j e
theorem uR(q:Tv×Nat->Bool){c:Tv}:∀(b:List Tv)(m j:Nat)(d:j<b.length),b[j]=c->(∀i(h:i<b.length),i≠j->fr b[i]≠fr c)->(b.zipIdx m).countP λp=>q p&&fr p.1==fr c=if q (c,m+j)=true then 1 else 0
 |[],_,_,d,_,_=>absurd d (Nat.not_lt_zero _)|a::b,m,0,_,e,h=>by
  have e:a=c:=e;subst e;have z:(b.zipIdx (m+1)).countP λp=>q p&&fr p.1==fr a=0:=by rw[List.countP_eq_zero];rintro⟨x,i⟩k;obtain⟨o,r,s⟩:=List.mem_zipIdx k;have:=h (i-(m+1)+1) (by simp;omega) om;grind
  rw[List.zipIdx_cons,List.countP_cons,z];simp|a::b,m,j+1,d,e,h=>by have n:=h 0 si om;have l:=uR q b (m+1) j (by simpa using d) e λi g t=>h (i+1) (by simpa using g) om;have f:m+1+j=m+(j+1):=om;rw[List.zipIdx_cons,List.countP_cons,l,f];grind
theorem aaw{a:Type}:∀(l:List a),(l.map λ_=>0).sum=0|[]=>rfl|_::l=>by rw[List.map_cons,List.sum_cons,aaw l]
theorem Et(u:Deep n c)(q:Fb n c)(r:d∈ai n c)(y:f∈ai n c)(h:k<f.ws.length)(l:List dz):ju f.ws[k] (fM l d)=if(fr d==fr f)=true then dX l f.d.kind f.ws.length k f.ws[k]else 0:=by
 unfold ju fM;rw[countP_flatMap];by_cases e:fr d=fr f
 .rw[ae (by simpa using e)];have:d=f:=gD q r y e;subst this;unfold dX;congr 1;apply List.map_congr_left;intro x _;unfold cq;rw[List.countP_map,List.countP_filter];have:=uR (c:=d.ws[k]) (λp=>bn x d.d.kind d.ws.length p.2 p.1) d.ws 0 k h rfl (λi j J H=>by
   obtain⟨m,_,g,o⟩:=sL u r;cases m with|zero=>exact g.elim|succ m=>
    have B:(d::d.ws.flatMap (ai m)).Pairwise λa b=>fr a<fr b:=q.sublist o;obtain⟨_,C⟩:=List.pairwise_flatMap.1 (List.pairwise_cons.1 B).2;have v:=List.pairwise_iff_getElem.1 C;rcases Nat.lt_or_ge i k with z|z;.have:=v i k j h z _ (bq (g _ (bP j))) _ (bq (g _ (bP h)));omega
    have:=v k i h j om _ (bq (g _ (bP h))) _ (bq (g _ (bP j)));omega);grind
 rw[aa (by simpa using e)];have:(l.map λx=>(cq x d).countP λw=>fr w==fr f.ws[k])=l.map λ_=>0:=by
  apply List.map_congr_left;intro x _;rw[List.countP_eq_zero];intro w A D;unfold cq at A;obtain⟨⟨G,i⟩,s,rfl⟩:=List.mem_map.1 A;have F:=(List.mem_filter.1 s).1;obtain⟨_,g,o⟩:=List.mem_zipIdx F;have t:G∈d.ws:=by rw[o];exact bP _
  exact e (nF u q r y t (bP h) (by simpa using D))
 rw[this];exact aaw l
