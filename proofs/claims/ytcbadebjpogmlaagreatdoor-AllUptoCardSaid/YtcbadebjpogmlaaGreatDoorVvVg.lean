import Derived.Test.YtcbadebjpogmlaaGreatDoorVvVd
set_option maxHeartbeats 2000000
set_option maxRecDepth 100000
namespace Go.Proofs.YtcbadebjpogmlaaGreatDoor
open Go.RowKit Tr Go.Proofs.Tryz
structure Rm(w:World)(b pb:Nat)(c:Tv)(pk i:Nat)(Mu:Value):Prop where
 c:∃Ya,V w b (kF c.d (pT pb) i Ya) 130
 p:∃dp par ixp,V w pb (kF dp par ixp Mu) 130/\I6 dp/\dp.kind=pk
 i:i<=4000000
def kl(w:World)(f:Value)(x:dz):Prop:=∃N d,f=.func (.func N) #[] d/\(∀a w,(callFunc N a).run prog w=.ok (.enter N a) w)/\∀(b o:Nat)(c:Tv)(h i L:Nat)(e:Value),Rm w b o c h i e->(x.late=true->(∃j l,e=.slice j L l)/\L<=4000000/\∃A D n g m,PT w A D n g m c/\A c.d.af=b)->∀q,Calls prog N (#[pT b]++d) (w.drewN q) λr p=>r=.returned (.bool (bn x h L i c))/\∃k,p=w.drewN k
structure SB(w:World)(b:Nat)(k:Int)(nm:ByteArray)(fr to:Int)(met:Value):Prop where b:V w b #[.int .i64 k,.string nm,.int .i64 fr,.int .i64 to,met] 239
theorem KH(w:World)(x:dz)(a:x.sort=1):kl w (.func (.func 209) #[] #[]) x:=by
 refine⟨_,_,rfl,λ_ _=>rfl,λb h c d i L f g _ q=>?_⟩;have e:bn x d L i c=true:=by simp[bn,a]
 rw[e];show Calls prog 209 #[pT b] _ _;go_enter func209,ntmps209;go_wp2;go_ret;exact⟨rfl,q,rfl⟩
variable{w v:World}{n k m o r t:Nat}{d f g:Int}{q:ByteArray}{a z:Value}
theorem KB(h:SB w n d q f g a)(x:dz)(A:x.sort=2)(v:x.name=E q):kl w (.func (.func 205) #[] #[pT n]) x:=by
 refine⟨_,_,rfl,λ_ _=>rfl,λb B c S i L K F _ j=>?_⟩;obtain⟨⟨J,p⟩,⟨k,H,G,z,u,rfl⟩,_⟩:=F;have e:bn x k.kind L i c=(k.kind==5&&c.d.name==E q):=by simp[bn,A,v]
 rw[e];have c1:w.cell? (aD n 1)=some (.string q):=h.b.cell 1;have c5:w.cell? (aD b 5)=some (pT B):=p.cell 5;have N:w.cell? (aD b 7)=some (.string (bR c.d.name)):=p.cell 7;have R:w.cell? (aD B 0)=some (.int .i64 (gr k:Nat)):=z.cell 0;have o:=(qo u).1;have r:Hid (((bR c.d.name).toList==q.toList)=(c.d.name==E q)):=by show _=_;grind[Wh,Ls,lQ,E]
 clear h p z u e v A;generalize(c.d.name==E q)=M at*;generalize k.kind=s at*;generalize gr k=C at*;show Calls prog 205 #[pT b,pT n] _ _;by_cases l:C=6;.have m:s=5:=o.1 l;subst l m;have D:=r.o;clear o r;go_enter func205,ntmps205;go_wp2;go_quiet(fail);go_wp2;go_ret;exact⟨si,_,fi _ _ _⟩
 have m:s≠5:=λy=>l (o.2 y);have P:((C:Int)==6)=false:=yY (b:=6) l;have t:(s==5)=false:=by simpa using m
 rw[t];clear o r l m t;go_enter func205,ntmps205;go_wp2;go_quiet(fail);go_wp2;go_ret;exact⟨rfl,_,fi _ _ _⟩
theorem KE(h:SB w n d q f g a)(x:dz)(F:x.sort=3)(B:x.n=f)(P:0<=f):kl w (.func (.func 206) #[] #[pT n]) x:=by
 refine⟨_,_,rfl,λ_ _=>rfl,λb u c T i L v D k j=>?_⟩;obtain⟨⟨K,r⟩,⟨l,J,G,s,A,rfl⟩,R⟩:=D;have c2:w.cell? (aD n 2)=some (.int .i64 f):=h.b.cell 2;have c3:w.cell? (aD n 3)=some (.int .i64 g):=h.b.cell 3;have c5:w.cell? (aD b 5)=some (pT u):=r.cell 5;have M:w.cell? (aD b 6)=some (.int .i64 (i:Nat)):=r.cell 6;have S:w.cell? (aD u 0)=some (.int .i64 (gr l:Nat)):=s.cell 0;have H:w.cell? (aD u 8)=some v:=s.cell 8;have p:=(qo A).2.1;have e:bn x l.kind L i c=(l.kind==4&&(i:Int)==f):=by simp only[bn,F];rw[B,aa (by omega:¬f<0)];simp
 rw[e];clear h r s A e k;generalize l.kind=t at*;generalize gr l=C at*;show Calls prog 206 #[pT b,pT n] _ _;clear H B;by_cases m:C=5;.have o:t=4:=p.1 m;subst m o;clear p;go_enter func206,ntmps206;go_wp2;go_quiet(fail);go_wp2;go_ret;exact⟨si,_,fi _ _ _⟩
 have o:t≠4:=λy=>m (p.2 y);have N:((C:Int)==5)=false:=yY (b:=5) m;have z:(t==4)=false:=by simpa using o
 rw[z];clear p m o z;go_enter func206,ntmps206;go_wp2;go_quiet(fail);go_wp2;go_ret;exact⟨rfl,_,fi _ _ _⟩
theorem V3(h:SB w n d q f g a)(x:dz)(C:x.sort=3)(B:x.n=-f)(H:0<f/\f<=1000):kl w (.func (.func 207) #[] #[pT n]) x:=by
 refine⟨_,_,rfl,λ_ _=>rfl,λb u c pk i L R J k j=>?_⟩;obtain⟨⟨P,r⟩,⟨l,N,M,s,z,rfl⟩,W⟩:=J;have A:x.late=true:=by simp[dz.late,C];omega
 obtain⟨⟨F,G,rfl⟩,U,_⟩:=k A;have c2:w.cell? (aD n 2)=some (.int .i64 f):=h.b.cell 2;have c3:w.cell? (aD n 3)=some (.int .i64 g):=h.b.cell 3;have c5:w.cell? (aD b 5)=some (pT u):=r.cell 5;have S:w.cell? (aD b 6)=some (.int .i64 (i:Nat)):=r.cell 6;have p0:w.cell? (aD u 0)=some (.int .i64 (gr l:Nat)):=s.cell 0;have p8:w.cell? (aD u 8)=some (.slice F L G):=s.cell 8;have p:=(qo z).2.1;have e:bn x l.kind L i c=(l.kind==4&&(i:Int)==(L:Int)-f):=by simp only[bn,C];rw[B,ae (by omega:-f<0),show-f+(L:Int)=(L:Int)-f by omega];simp
 rw[e];clear h r s z e k;generalize l.kind=t at*;generalize gr l=D at*;show Calls prog 207 #[pT b,pT n] _ _;have K:IntKind.i64.wrap ((L:Int)-f)=(L:Int)-f:=IntWalk.i64_in _ om;clear B A H;by_cases m:D=5;.have o:t=4:=p.1 m;subst m o;clear p;go_enter func207,ntmps207;go_wp2;go_quiet(fail);go_wp2;go_ret;exact⟨si,_,fi _ _ _⟩
 have o:t≠4:=λy=>m (p.2 y);have T:((D:Int)==5)=false:=yY (b:=5) m;have v:(t==4)=false:=by simpa using o
 rw[v];clear p m o v;go_enter func207,ntmps207;go_wp2;go_quiet(fail);go_wp2;go_ret;exact⟨rfl,_,fi _ _ _⟩
theorem KF(h:SB w n d q f g a)(x:dz)(T:x.sort=4)(R:x.af=f)(F:(x.to<0/\4000000<g)\/(0<=x.to/\x.to=g)):kl w (.func (.func 208) #[] #[pT n]) x:=by
 refine⟨_,_,rfl,λ_ _=>rfl,λb v c W i L z G l j=>?_⟩;obtain⟨⟨M,s⟩,⟨m,K,H,t,B,rfl⟩,S⟩:=G;have c2:w.cell? (aD n 2)=some (.int .i64 f):=h.b.cell 2;have c3:w.cell? (aD n 3)=some (.int .i64 g):=h.b.cell 3;have c5:w.cell? (aD b 5)=some (pT v):=s.cell 5;have N:w.cell? (aD b 6)=some (.int .i64 (i:Nat)):=s.cell 6;have U:w.cell? (aD v 0)=some (.int .i64 (gr m:Nat)):=t.cell 0;have J:w.cell? (aD v 8)=some z:=t.cell 8;have r:=(qo B).2.1;have e:bn x m.kind L i c=(m.kind==4&&decide (f<=(i:Int))&&decide ((i:Int)<g)):=by grind[bn]
 rw[e];clear h s t B e l;generalize m.kind=u at*;generalize gr m=C at*;show Calls prog 208 #[pT b,pT n] _ _;clear J F;by_cases o:C=5
 .have p:u=4:=r.1 o;subst o p;clear r;by_cases k:f<=(i:Int);focus rw[decide_eq_true k]
  rotate_left;focus rw[decide_eq_false k];have D:((i:Int)≥f)=False:=by simpa using k
  all_goals go_enter func208,ntmps208;go_wp2;go_quiet(fail);go_wp2;go_ret;exact⟨si,_,fi _ _ _⟩
 have p:u≠4:=λy=>o (r.2 y);have P:((C:Int)==5)=false:=yY (b:=5) o;have A:(u==4)=false:=by simpa using p
 rw[A];clear r o p A;go_enter func208,ntmps208;go_wp2;go_quiet(fail);go_wp2;go_ret;exact⟨rfl,_,fi _ _ _⟩
theorem KJ{b:Tv->Bool}(h:dt w a b)(x:dz)(d:x.sort=5)(c:x.wh=b):kl w a x:=by grind(splits:=30)[V,dt,PT,dz.late,kl,bR,kF,gr,jX,jf,bn,fP,iS]
theorem Jz:(prog.info? 71).map (λi=>(i.zero,i.size,i.bytes))=some (some (.pointer none),1,8):=by kernel_rfl
def lC(x:dz)(v:Tv)(m:Nat):List Tv:=(((v.ws.zipIdx).take m).filter λp=>bn x v.d.kind v.ws.length p.2 p.1).map (·.1)
theorem H9(x:dz)(v:Tv):lC x v v.ws.length=cq x v:=by unfold lC cq;rw[gv si]
theorem Ch(x:dz)(v:Tv)(h:n<v.ws.length):lC x v (n+1)=lC x v n++(if bn x v.d.kind v.ws.length n v.ws[n]=true then[v.ws[n]]else[]):=by unfold lC;rw[eC (by simpa using h),List.filter_append,fC];grind
theorem H_(x:dz)(v:Tv)(m:Nat):(lC x v m).length<=(cq x v).length:=by unfold lC cq;rw[eY,eY];exact(List.Sublist.filter _ (List.take_sublist _ _)).length_le
variable{b:List dz}
theorem zS(h:n<b.length)(v:Tv):(b.take (n+1)).flatMap (λx=>cq x v)=(b.take n).flatMap (λx=>cq x v)++cq b[n] v:=by rw[eC h,iy];simp
theorem SD(l:List dz)(k:Nat)(v:Tv):((l.take k).flatMap λx=>cq x v).length<=(fM l v).length:=by
 have e:fM l v=(l.take k++l.drop k).flatMap λx=>cq x v:=by rw[iU];rfl
 grind
structure PL(w:World)(A:Nat->Nat)(l:List Tv)(sv:Value)(w':World):Prop where
 f:Q w w'
 o:w'.ownsRow w.heap.size 71 1 sv l.length (l.map (jf A))
variable{c:Nat->Nat}
theorem PL.drewN{l:List Tv}(h:PL w c l a v)(k:Nat):PL w c l a (v.drewN k):=⟨h.f.drewN k,aQ h.o λ_ _=>rfl⟩
def lY(w:World)(f:Value)(F:Tv->List Tv):Prop:=∃N c,f=.func (.func N) #[] c/\(∀b w,(callFunc N b).run prog w=.ok (.enter N b) w)/\∀(A:Nat->Nat)(D:Nat->Prop)(n:Nat)(e:Value)(h:Nat)(t:Tv),PT w A D n e h t->n<=10->(∀k,D k->k<w.heap.size)->∀(a:List Tv)(sv:Value)(g:World),PL w A a sv g->a.length+(F t).length<=1000000000000->Calls prog N (#[(pT (A t.d.af)),sv]++c) g λr i=>∃d,r=.returned d/\PL w A (a++F t) d i
variable{i:List Value}
theorem KM(ho:w.ownsRow n 242 1 a i.length i)(hj:i.length<=1000)(hl:b.length=i.length)(h:∀d(h1:d<i.length)(h2:d<b.length),∀w',Q w w'->kl w' i[d] b[d])(hb:V w k #[a] 241):lY w (.func (.func 211) #[] #[pT k]) (fM b):=by
 obtain⟨i0,hi',hz0,hz1,eE⟩:=info_parts Jz;have HI:=Z hi';have iK:=Z hz0;have iz:=Z hz1;have ja:=Z eE;clear hi' hz0 hz1 eE;refine⟨_,_,rfl,λ_ _=>rfl,λA D p par ix t ht _ hD s sf w1 hP hN=>?_⟩;have Tb:k<w.heap.size:=hb.lt;have c0:w1.cell? (aD k 0)=some a:=(hP.f.cell (p:=aD k 0) Tb id).trans (hb.cell 0);have HB:Hid (∀wr:World,Q w wr->wr.cell? (aD k 0)=some a):=λwr T=>(T.cell (p:=aD k 0) Tb id).trans (hb.cell 0);have HH:=Z h;obtain⟨svt,v⟩:=ht.pc;have abl:=v.l;obtain⟨t0,tcp,rfl⟩:=X v.o;have hAt:A t.d.af<w.heap.size:=v.b.lt;have HC:Hid (∀wr:World,Q w wr->PC wr A t par ix (.slice t0 t.ws.length tcp)):=λwr T=>⟨v.b.fr T id,aS v.o T λ_ _ x=>x,v.d,v.l⟩;clear v;have HT:Hid (∀wr:World,Q w wr->PT wr A D p par ix t):=λwr T=>PT.keep (λf hk'=>T.block f (hD f hk') id) _ _ _ _ ht;have HD:=Z hD;have HP:=Z hP;have HN:=Z hN;obtain⟨j,R⟩:∃j,j=i.length:=⟨_,rfl⟩;rw[<-R]at hj ho hl;obtain⟨v0,MW,rfl⟩:=X ho;have HO:=Z ho;have HJ:=Z R;have HL:=Z hl;obtain⟨f0,f1,hfe⟩:=X hP.o;obtain⟨fl,P⟩:∃fl,fl=s.length:=⟨_,rfl⟩;rw[<-P]at hfe;subst hfe;have TZ:=Z P;clear h hb ht ho R hl hD hP hN P;show Calls prog 211 #[(pT (A t.d.af)),.slice f0 fl f1,pT k] _ _;go_enter func211,ntmps211;go_wp2;go_loopw[1,7,9,12]λo _ _ d wr=>∃(f:Nat),f<=j/\d=.int .i64 f/\PL w A (s++(b.take f).flatMap λx=>cq x t) o wrλ_ _ _ d _=>j-(intOf d).toNat;case atStart=>exact⟨0,aT _,rfl,by simpa using HP.o⟩
 case round=>
  clear HP c0;obtain⟨f,T,rfl,L⟩:=hrel;have S:=Z L;have c8:wr.cell? (aD (A t.d.af) 8)=some (.slice t0 t.ws.length tcp):=(HC.o wr L.f).b.cell 8;obtain⟨m0,m1,hme⟩:=X L.o;obtain⟨ml,hml⟩:∃ml,ml=(s++(b.take f).flatMap λx=>cq x t).length:=⟨_,rfl⟩;rw[<-hml]at hme;subst hme;clear L hml;by_cases hlt:f<j
  .have hlf:f<i.length:=by have:=HJ.o;omega
   have hlp:f<b.length:=by have:=HL.o;omega
   obtain⟨g,cap,hv,NK,nP⟩:=HO.o.form om;simp only[Value.slice.injEq,true_and]at hv;obtain⟨rfl,rfl⟩:=hv;have B:wr.cell? (aD g f)=some i[f]:=(S.o.f.cell (p:=aD g f) nP id).trans ((HO.o.cellAt f om).trans (fB hlf));have HX:=Z (HH.o f hlf hlp);have HDT:=Z (zS hlp t);have hdl:Hid (((b.take f).flatMap λx=>cq x t).length+(cq b[f] t).length<=(fM b t).length):=by have:=SD b (f+1) t;grind[zS]
   obtain⟨N,cp,he,hE,_⟩:=HX.o wr S.o.f;rw[he]at B HX;generalize b[f]=x at*;clear he;go_wp2;go_loopw[1,9,21]λo _ d wr=>∃(m:Nat),m<=t.ws.length/\d=.int .i64 m/\PL w A (s++(b.take f).flatMap (λx=>cq x t)++lC x t m) o wrλ_ _ d _=>t.ws.length-(intOf d).toNat;case atStart=>exact⟨0,aT _,rfl,by simpa[lC]using S.o⟩
   case round=>
    clear S c8 B;obtain⟨m,hm,rfl,L⟩:=hrel;have S:=Z L;obtain⟨l,U⟩:∃l,l=s++(b.take f).flatMap (λx=>cq x t)++lC x t m:=⟨_,rfl⟩;rw[<-U]at S;obtain⟨o0,o1,hoe⟩:=X S.o.o;obtain⟨J,H⟩:∃J,J=l.length:=⟨_,rfl⟩;rw[<-H]at hoe;subst hoe;have Xb:=S.o.o;rw[<-H]at Xb;have HOO:=Z Xb;have G:=Z U;have Il:=Z H;clear L Xb U H;by_cases W:m<t.ws.length
    .have Hw:(m:Int)<(t.ws.length:Int):=om;have v:=HC.o wr S.o.f;obtain⟨g2,cap2,Fi,afC⟩:=v.at_ W;simp only[Value.slice.injEq,true_and]at Fi;obtain⟨rfl,rfl⟩:=Fi;have F:=(HT.o wr S.o.f).Bt W;obtain⟨Ya,hkc⟩:=F.pc;have hva:Rm wr (A (t.ws[m]).d.af) (A t.d.af) t.ws[m] t.d.kind m (.slice (sA g2) t.ws.length tcp):=⟨⟨Ya,hkc.b⟩,⟨t.d,par,ix,v.b,v.d,rfl⟩,om⟩;obtain⟨N',cp',he',_,hN'⟩:=HX.o wr S.o.f;injection he' with M _ WE;injection M with M;subst M WE;have HC2:=Z (hN' _ _ _ _ _ _ _ hva λ_=>⟨⟨_,_,rfl⟩,abl,A,D,_,_,_,F,rfl⟩);have K:=Z (Ch x t W);have Qq:=H_ x t (m+1);have hlen:Hid (J+(if bn x t.d.kind t.ws.length m t.ws[m]=true then 1 else 0)<=1000000000000):=by have h1:=hdl.o;have h2:=HN.o;rw[K.o,cG]at Qq;show _<=_;rw[Il.o,G.o,cG,cG];split<;>simp_all<;>omega
     clear v F hkc hva hN' Qq;generalize t.ws[m]=c at*;generalize bn x t.d.kind t.ws.length m c=bb at*;cases bb
     .go_wp2_with fail;refine(HC2.o 0).mono ?_;rintro r w3⟨rfl,k3,rfl⟩;have S3:Hid (PL w A (s++(b.take f).flatMap (λx=>cq x t)++lC x t (m+1)) (.slice o0 J o1) (wr.drewN k3)):=by rw[K.o];simp only[Bool.false_eq_true,if_false,List.append_nil];rw[<-G.o];exact S.o.drewN k3
      go_wp2;go_roundw;case rel=>exact⟨m+1,om,by go_num,S3.o⟩
      case measure=>simp[intOf];omega
     have aiA:J+1<=1000000000000:=by have:=hlen.o;simpa using this
     go_wp2_with fail;refine(HC2.o 0).mono ?_;rintro r w3⟨rfl,k3,rfl⟩;have y:(wr.drewN k3).ownsRow w.heap.size 71 1 (.slice o0 J o1) J (l.map (jf A)):=aQ HOO.o λ_ _=>rfl;have hsz:w.heap.size<=(wr.drewN k3).heap.size:=S.o.f.size;have F4:=Z (S.o.f.drewN k3);generalize wr.drewN k3=w4 at*;go_wp2_with(at_builtin;refine wpList_append_own _ rfl _ _ 74 rfl w.heap.size 71 i0 _ 1 8 underlying74 HI.o iK.o iz.o ja.o rfl de _ _ _ rfl (y.alloc _) (aD w4.heap.size 0) 1 1 [(pT (A c.d.af))] rfl rfl ?c1 ?c2 ?c3 ?c4 ?c5 ?_);case c1=>intro j u hj;match j,hj with|0,hj=>simp at hj;subst hj;simp[Addr.add]
     case c2=>intro u hu;simp at hu;subst hu;rfl
     case c3=>unfold maxLen;omega
     case c4=>omega
     case c5=>simp;omega
     intro v' w5 z C _;have S5:Hid (PL w A (s++(b.take f).flatMap (λx=>cq x t)++lC x t (m+1)) v' w5):=by rw[K.o];simp only[if_true];rw[<-gh,<-G.o];refine⟨(F4.o.alloc _).grown C λq hq=>Y (by have:=(y.lt q hq).1;omega),?_⟩;rw[fC,cG,<-Il.o];exact z
     obtain⟨b5,k5,rfl⟩:=X z;clear z C y;go_wp2;go_roundw;case rel=>exact⟨m+1,om,by go_num,S5.o⟩
     case measure=>simp[intOf];omega
    have Hw:¬(m:Int)<(t.ws.length:Int):=om;have S3:Hid (PL w A (s++(b.take (f+1)).flatMap λx=>cq x t) (.slice o0 J o1) wr):=by rw[HDT.o,<-gh,<-H9,show t.ws.length=m by omega,<-G.o];exact S.o
    go_wp2;go_roundw;case rel=>exact⟨f+1,om,by go_num,S3.o⟩
    case measure=>simp[intOf];omega
  have HR:Hid (PL w A (s++fM b t) (.slice m0 ml m1) wr):=by have e:b.take f=b:=gv (by have:=HL.o;omega);have:=S.o;rw[e]at this;exact this
  go_wp2;go_ret;exact⟨_,rfl,HR.o⟩
variable{j:Nat->Prop}
theorem PT.all:∀(n:Nat){b:Value}{f:Nat}{t:Tv},PT w c j n b f t->∀m,n<=m->ai m t=ai n t|0,_,_,_,h,_,_=>absurd h id|n+1,_,_,t,h,m,g=>by obtain⟨m,rfl⟩:∃k,m=k+1:=⟨m-1,om⟩;show t::t.ws.flatMap (ai m)=t::t.ws.flatMap (ai n);congr 1;simp only[List.flatMap];congr 1;refine List.map_congr_left λa d=>?_;obtain⟨i,e,rfl⟩:=List.getElem_of_mem d;exact PT.all n (h.Bt e) m om
theorem Nw(F:Tv->List Tv)(n:Nat)(a:List Tv)(k:Nat)(h:k<a.length):(a.take (k+1)).flatMap (λc=>(ai n c).flatMap F)=(a.take k).flatMap (λc=>(ai n c).flatMap F)++(ai n a[k]).flatMap F:=by rw[eC h,iy];simp
theorem SE(F:Tv->List Tv)(n:Nat)(a:List Tv)(k:Nat):((a.take k).flatMap λc=>(ai n c).flatMap F).length<=(a.flatMap λc=>(ai n c).flatMap F).length:=by
 have e:a.flatMap (λc=>(ai n c).flatMap F)=(a.take k++a.drop k).flatMap λc=>(ai n c).flatMap F:=by rw[iU]
 grind
theorem Ny(F:Tv->List Tv)(n:Nat)(t:Tv):(ai (n+1) t).flatMap F=F t++t.ws.flatMap λc=>(ai n c).flatMap F:=by show(t::t.ws.flatMap (ai n)).flatMap F=_;rw[kD,List.flatMap_assoc]
variable{p:Tv->List Tv}
theorem Ci(h:lY w a p)(A:V w n #[a] 124)(B:V w k #[.func (.func 210) #[] #[pT n,pT k]] 124)(hD:∀d,j d->d<w.heap.size):∀(e:Nat)(q:Value)(M:Nat)(t:Tv),PT w c j e q M t->e<=10->∀(f:List Tv)(sv:Value)(R:World),PL w c f sv R->f.length+((ai e t).flatMap p).length<=1000000000000->Calls prog 210 #[(pT (c t.d.af)),sv,pT n,pT k] R λr w2=>∃F,r=.returned F/\PL w c (f++(ai e t).flatMap p) F w2:=by
 intro e;induction e with|zero=>intro q M t h;exact absurd h id|succ e ih=>
  intro q M t ht hn f sv R U hN;obtain⟨N,cap,rfl,hE,hT⟩:=h;obtain⟨svt,g⟩:=ht.pc;have abl:=g.l;obtain⟨t0,P,rfl⟩:=X g.o;have HC:Hid (∀wr:World,Q w wr->PC wr c t q M (.slice t0 t.ws.length P)):=λwr u=>⟨g.b.fr u id,aS g.o u λ_ _ x=>x,g.d,g.l⟩;have h2l:=A.lt;have h3l:=B.lt;have HB2:Hid (∀wr:World,Q w wr->wr.cell? (aD n 0)=some (.func (.func N) #[] cap)):=λwr u=>(u.cell (p:=aD n 0) h2l id).trans (A.cell 0);have HB3:Hid (∀wr:World,Q w wr->wr.cell? (aD k 0)=some (.func (.func 210) #[] #[pT n,pT k])):=λwr u=>(u.cell (p:=aD k 0) h3l id).trans (B.cell 0);have HA:=Z (Ny p e t);rw[HA.o,cG]at hN;rw[HA.o];have v:=Z (hT c j (e+1) q M t ht hn hD f sv R U om);have HIH:=Z λ(d:Nat)(u:d<t.ws.length)=>ih (jf c t) d t.ws[d] (ht.Bt u) om;have c2:=HB2.o R U.f;have HN:=Z hN;obtain⟨s0,s1,J⟩:=X U.o;obtain⟨sl,K⟩:∃sl,sl=f.length:=⟨_,rfl⟩;rw[<-K]at J;subst J;clear A B hT g ht ih U hN K HA;go_enter func210,ntmps210;go_wp2_with fail;refine(v.o).mono ?_;rintro r w2⟨F,rfl,s⟩;have S:=Z s;have c8:w2.cell? (aD (c t.d.af) 8)=some (.slice t0 t.ws.length P):=(HC.o w2 s.f).b.cell 8;obtain⟨a0,a1,l⟩:=X s.o;obtain⟨T,m⟩:∃T,T=(f++p t).length:=⟨_,rfl⟩;rw[<-m]at l;subst l;clear s v c2 m;go_wp2;go_loopw[1,8,18]λo _ i wr=>∃(d:Nat),d<=t.ws.length/\i=.int .i64 d/\PL w c (f++p t++(t.ws.take d).flatMap λb=>(ai e b).flatMap p) o wrλ_ _ i _=>t.ws.length-(intOf i).toNat;case atStart=>exact⟨0,aT _,rfl,by simpa using S.o⟩
  case round=>
   clear S c8;obtain⟨d,u,rfl,hS⟩:=hrel;have S:=Z hS;obtain⟨m0,m1,H⟩:=X hS.o;obtain⟨ml,D⟩:∃ml,ml=(f++p t++(t.ws.take d).flatMap λb=>(ai e b).flatMap p).length:=⟨_,rfl⟩;rw[<-D]at H;subst H;have HML:=Z D;clear hS D;by_cases C:d<t.ws.length
   .have hki:(d:Int)<(t.ws.length:Int):=om;have g:=HC.o wr S.o.f;obtain⟨g2,cap2,L,W⟩:=g.at_ C;simp only[Value.slice.injEq,true_and]at L;obtain⟨rfl,rfl⟩:=L;have c3:=HB3.o wr S.o.f;have G:=Z (Nw p e t.ws d C);have y:(f++p t++(t.ws.take d).flatMap λb=>(ai e b).flatMap p).length+((ai e t.ws[d]).flatMap p).length<=1000000000000:=by have h1:=SE p e t.ws (d+1);rw[G.o,cG]at h1;have h2:=HN.o;grind
    have CA:=Z (HIH.o d C _ _ wr S.o y);clear g y;generalize t.ws[d]=b at*;go_wp2_with fail;refine(CA.o).mono ?_;rintro r w3⟨sv3,rfl,z⟩;have S3:Hid (PL w c (f++p t++(t.ws.take (d+1)).flatMap λb=>(ai e b).flatMap p) sv3 w3):=by rw[G.o,<-gh];exact z
    obtain⟨a3,a4,l⟩:=X z.o;obtain⟨al3,m⟩:∃T,T=(f++p t++(t.ws.take d).flatMap (λb=>(ai e b).flatMap p)++(ai e b).flatMap p).length:=⟨_,rfl⟩;rw[<-m]at l;subst l;clear z m CA;go_wp2;go_roundw;case rel=>exact⟨d+1,om,by go_num,S3.o⟩
    case measure=>simp[intOf];omega
   have hki:¬(d:Int)<(t.ws.length:Int):=om;have HR:Hid (PL w c (f++(p t++t.ws.flatMap λb=>(ai e b).flatMap p)) (.slice m0 ml m1) wr):=by grind
   go_wp2;go_ret;exact⟨_,rfl,HR.o⟩
theorem F_(h:lY w a p)(d:V w n #[a] 124)(e:V w k #[.func (.func 210) #[] #[pT n,pT k]] 124):lY w (.func (.func 210) #[] #[pT n,pT k]) λt=>(ai 10 t).flatMap p:=by refine⟨_,_,rfl,λ_ _=>Tryz.call210 _ _,λA D b f o t m l g c sv q j i=>?_⟩;grind[PT.all,Ci]
theorem Nz(h:n<b.length)(a L i:Nat)(c:Tv):dX (b.take (n+1)) a L i c=dX (b.take n) a L i c+(if bn b[n] a L i c=true then 1 else 0):=by unfold dX;rw[eC h,fC,List.sum_append];simp
theorem NC:∀(a:List dz)(b L i:Nat)(c:Tv),dX a b L i c<=a.length|[],_,_,_,_=>aP _|x::a,b,L,i,c=>by have:=NC a b L i c;grind[dX]
def nj(w:World)(h:List dz)(b:Nat)(c:Tv)(L:Nat)(d:Value):Prop:=h.any dz.late=true->(∃e f,d=.slice e L f)/\L<=4000000/\∃A D n a g,PT w A D n a g c/\A c.d.af=b
variable{l:Tv}
theorem EU(G:w.ownsRow n 242 1 a i.length i)(hj:i.length<=1000)(M:b.length=i.length)(h:∀r(h1:r<i.length)(h2:r<b.length),kl w i[r] b[r])(p:Nat)(hn:p<=1000000000000000)(D:Rm w k m l o r z)(v:0<p->nj w b k l t z)(q:Nat):Calls prog 213 #[.int .i64 (p:Nat),a,pT k] (w.drewN q) λf w'=>f=.returned (.int .i64 ((p*dX b o t r l:Nat):Int))/\∃c,w'=w.drewN c:=by
 have HH:=Z h;have HV:=Z D;have J:=Z v;obtain⟨j,y⟩:∃j,j=i.length:=⟨_,rfl⟩;rw[<-y]at hj G M;obtain⟨v0,MW,rfl⟩:=X G;have T:=Z G;have HJ:=Z y;have S:=Z M;clear h G y M D v;go_enter func213,ntmps213;go_wp2;go_loopw[7,9,12]λs _ P wr=>∃c q d:Nat,c<=j/\P=.int .i64 c/\s=.int .i64 (d:Nat)/\d=p*dX (b.take c) o t r l/\wr=w.drewN qλ_ _ P _=>j-(intOf P).toNat;case atStart=>exact⟨0,q,0,aT _,rfl,rfl,by simp[dX],rfl⟩
 case round=>
  obtain⟨c,q,d,hk,rfl,rfl,U,rfl⟩:=hrel;have F:=Z U;clear U;by_cases hlt:c<j
  .have C:c<i.length:=by have:=HJ.o;omega
   have A:c<b.length:=by have:=S.o;omega
   have u:=Z (Nz A o t r l);have hcl:d<=1000000000000000000:=by have h1:=NC (b.take c) o t r l;have h2:=List.length_take_le c b;rw[F.o];calc p*dX (b.take c) o t r l<=1000000000000000*1000:=Nat.mul_le_mul hn om
     _=_:=rfl
   obtain⟨g,cap,D,NK,nP⟩:=T.o.form om;simp only[Value.slice.injEq,true_and]at D;obtain⟨rfl,rfl⟩:=D;have x:w.cell? (aD g c)=some i[c]:=(T.o.cellAt c om).trans (fB C);obtain⟨N,cp,L,hE,K⟩:=HH.o c C A;rw[L]at x;by_cases h0:p=0
   .subst h0;have B:Hid (d=0*dX (b.take (c+1)) o t r l):=by show _=_;rw[F.o];simp
    clear K L u;go_wp2;go_roundw;case rel=>exact⟨c+1,q,d,om,by go_num,rfl,B.o,rfl⟩
    case measure=>simp[intOf];omega
   have W:(0:Int)<(p:Int):=om;have H:=Z (K k m l o r t z HV.o λhx=>(J.o om) (List.any_eq_true.2 ⟨_,bP A,hx⟩));clear K L;generalize bn b[c] o t r l=bb at*;cases bb
   .have B:Hid (d=p*dX (b.take (c+1)) o t r l):=by show _=_;rw[u.o,F.o];simp
    clear u;go_wp2_with fail;refine(H.o _).mono ?_;rintro f w1⟨rfl,R,rfl⟩;go_wp2;go_roundw;case rel=>exact⟨c+1,R,d,om,by go_num,rfl,B.o,rfl⟩
    case measure=>simp[intOf];omega
   have B:Hid (d+p=p*dX (b.take (c+1)) o t r l):=by show _=_;rw[u.o,F.o];simp[Nat.mul_add]
   clear u;go_wp2_with fail;refine(H.o _).mono ?_;rintro f w1⟨rfl,R,rfl⟩;go_wp2;go_roundw;case rel=>exact⟨c+1,R,d+p,om,by go_num,by go_num,B.o,rfl⟩
   case measure=>simp[intOf];omega
  have HR:Hid (d=p*dX b o t r l):=by have e:b.take c=b:=gv (by have:=S.o;omega);grind
  go_wp2;go_ret;exact⟨by rw[<-HR.o];rfl,q,rfl⟩
def lZ(w:World)(f:Value)(e:Bool)(l:List dz):Prop:=∃N g,f=.func (.func N) #[] g/\(∀d w,(callFunc N d).run prog w=.ok (.enter N d) w)/\∀(a j:Nat),a<=1000000000000000->j<=1000000000000000->∀(b m:Nat)(c:Tv)(k i L:Nat)(h:Value),Rm w b m c k i h->(0<(if e then j else a)->nj w l b c L h)->Calls prog N (#[.agg #[.int .i64 (a:Nat),.int .i64 (j:Nat)],pT b]++g) w λr n=>r=.returned (.int .i64 (((if e then j else a)*dX l k L i c:Nat):Int))/\Q w n
theorem Rm.keep{w w':World}(h:Rm w n k l m o a)(f:Q w w'):Rm w' n k l m o a:=by obtain⟨⟨d,g⟩,⟨e,c,b,p,i⟩,j⟩:=h;exact⟨⟨d,g.fr f id⟩,⟨e,c,b,p.fr f id,i⟩,j⟩
theorem PT.lt:∀(n:Nat){a:Value}{e:Nat}{t:Tv},PT w c j n a e t->PT w c (λk=>k<w.heap.size) n a e t|0,_,_,_,h=>h|n+1,_,_,_,⟨_,g,o,⟨sv,b,_,d⟩,f⟩=>⟨b.lt,g,o,⟨sv,b,λk m=>(d.lt k m).2,d⟩,λi l=>PT.lt n (f i l)⟩
theorem PT.up(h:PT w c j n a k l)(f:Q w v):PT v c (λb=>b<w.heap.size) n a k l:=PT.keep (λb d=>f.block b d id) _ _ _ _ (PT.lt n h)
theorem nj.keep{w w':World}(h:nj w b n l k a)(f:Q w w'):nj w' b n l k a:=λm=>by obtain⟨e,g,A,D,c,d,o,i,j⟩:=h m;exact⟨e,g,A,_,c,d,o,i.up f,j⟩
theorem yw(o:w.ownsRow n 242 1 a i.length i)(B:i.length<=1000)(C:b.length=i.length)(h:∀d(s:d<i.length)(z:d<b.length),∀v,Q w v->kl v i[d] b[d])(m:V w k #[a] 241):lZ w (.func (.func 214) #[] #[pT k]) false b:=by
 refine⟨_,_,rfl,λ_ _=>Tryz.call214 _ _,λg q s z y J c K d L F u f=>?_⟩;have c0:w.cell? (aD k 0)=some a:=m.cell 0;obtain⟨M,G,rfl⟩:=X o;obtain⟨W,t⟩:∃W,W=w.alloc (.cells #[.int .i64 (g:Nat),.int .i64 (q:Nat)] 200):=⟨_,rfl⟩;have j:Q w W:=by rw[t];exact(Fr.refl _ w).alloc _
 simp only[Bool.false_eq_true,if_false]at f⊢;have H:=Z (EU (aS o j λ_ _ x=>x) B C (λe p D=>h e p D W j) g s (u.keep j) (λx=>(f x).keep j) 0);have HK:=Z j;have A:k<w.heap.size:=m.lt;subst t;clear h o m u f j;show Calls prog 214 #[.agg #[.int .i64 (g:Nat),.int .i64 (q:Nat)],pT y,pT k] _ _;go_enter func214,ntmps214;go_wp2_with fail;refine(H.o).mono ?_;rintro r N⟨rfl,p,rfl⟩;have l:=Z (HK.o.drewN p);clear HK H c0;go_wp2;go_ret;exact⟨rfl,l.o⟩
theorem vS(p:w.ownsRow n 242 1 a i.length i)(B:i.length<=1000)(C:b.length=i.length)(h:∀d(z:d<i.length)(s:d<b.length),∀v,Q w v->kl v i[d] b[d])(o:V w k #[a] 241):lZ w (.func (.func 212) #[] #[pT k]) true b:=by
 refine⟨_,_,rfl,λ_ _=>Tryz.call212 _ _,λj m z s y J c K d L F u f=>?_⟩;have c0:w.cell? (aD k 0)=some a:=o.cell 0;obtain⟨M,G,rfl⟩:=X p;obtain⟨W,t⟩:∃W,W=w.alloc (.cells #[.int .i64 (j:Nat),.int .i64 (m:Nat)] 200):=⟨_,rfl⟩;have g:Q w W:=by rw[t];exact(Fr.refl _ w).alloc _
 simp only[if_true]at f⊢;have H:=Z (EU (aS p g λ_ _ x=>x) B C (λe q D=>h e q D W g) m s (u.keep g) (λx=>(f x).keep g) 0);have HK:=Z g;have A:k<w.heap.size:=o.lt;subst t;clear h p o u f g;show Calls prog 212 #[.agg #[.int .i64 (j:Nat),.int .i64 (m:Nat)],pT y,pT k] _ _;go_enter func212,ntmps212;go_wp2_with fail;refine(H.o).mono ?_;rintro r N⟨rfl,q,rfl⟩;have l:=Z (HK.o.drewN q);clear HK H c0;go_wp2;go_ret;exact⟨rfl,l.o⟩
