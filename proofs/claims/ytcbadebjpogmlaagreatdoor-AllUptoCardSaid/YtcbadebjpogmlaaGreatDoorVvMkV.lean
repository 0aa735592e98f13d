import Derived.Test.YtcbadebjpogmlaaGreatDoorVvMkQ
import Derived.Test.YtcbadebjpogmlaaGreatDoorVvVg
set_option maxHeartbeats 2000000
set_option maxRecDepth 100000
namespace Go.Proofs.YtcbadebjpogmlaaGreatDoor
open Go.RowKit Tr Go.Proofs.Tryz
theorem yv(l:List SV)(i c:Nat)(d:c<5)(h:i<l.length):(kK l)[i*5+c]?=(l[i]).cells[c]?:=by induction l generalizing i with|nil=>cases h|cons a l f=>have e:kK (a::l)=a.cells++kK l:=rfl;have b:a.cells.length=5:=rfl;grind
def AW(B:Nat)(c:Nat->Prop)(w:World)(P:World->Value->Prop)(r:Ending)(a:World):Prop:=(∃f D,r=.returned f/\(∀k,D k->c k\/w.heap.size<=k)/\Ft D B a/\fg D a λb=>P b f)/\Below w.heap.size w a
variable{n k i t S U:Nat}{w v u:World}{q:ByteArray}{o p R:Int}{a c m:Value}{j:dz}
theorem adB(i:a=.nilFunc\/∃f j y,a=.func f j y)(g:n<=w.heap.size)(h:(j.sort=2/\o=1/\j.name=E q)\/(j.sort=3/\o=2/\j.n=p/\0<=p)\/(j.sort=3/\o=3/\j.n=-p/\0<p/\p<=1000)\/j.sort=4/\o=4/\j.af=p/\((j.to<0/\4000000<R)\/(0<=j.to/\j.to=R))):Calls prog 161 #[.agg #[.int .i64 o,.string q,.int .i64 p,.int .i64 R,a]] w (AW n (λ_=>False) w λw f=>kl w f j):=by rcases h with⟨d,rfl,c⟩|⟨d,rfl,c,e⟩|⟨d,rfl,c,e⟩|⟨d,rfl,c,e⟩<;>rcases i with rfl|⟨f,y,z,rfl⟩;all_goals go_enter func161,ntmps161;go_wp2;go_ret;refine⟨⟨_,λo=>o=w.heap.size,rfl,λo l=>I om,Ft.one (V.new _ _ _) de g,λk s=>?_⟩,((Fr.refl (λ_=>False) w).alloc _).below⟩;have b:=(V.new w _ _).sm s rfl;first|exact KB ⟨b⟩ j d c|exact KE ⟨b⟩ j d c e|exact V3 ⟨b⟩ j d c e|exact KF ⟨b⟩ j d c e
theorem adC(d:a=.nilFunc\/∃f j y,a=.func f j y)(e:j.sort=1):Calls prog 161 #[.agg #[.int .i64 0,.string q,.int .i64 o,.int .i64 p,a]] w (AW n (λ_=>False) w λw f=>kl w f j):=by rcases d with rfl|⟨f,y,z,rfl⟩;all_goals go_enter func161,ntmps161;go_wp2;go_ret;exact⟨⟨_,λ_=>False,rfl,λk c=>c.elim,Ft.none _ _,λb s=>KH b j e⟩,((Fr.refl (λ_=>False) w).alloc _).below⟩
variable{d z:Nat->Prop}
theorem adD(h:Ft d n w)(c:fg d w λw=>dt w a j.wh)(r:j.sort=5):Calls prog 161 #[.agg #[.int .i64 5,.string q,.int .i64 o,.int .i64 p,a]] w (AW n d w λw f=>kl w f j):=by obtain⟨N,b,rfl,_,_⟩:=c.self;have g:=Z h;have l:=Z c;clear h c;go_enter func161,ntmps161;go_wp2;go_ret;have i:=Sm.alloc g.o (.cells #[.int .i64 5,.string q,.int .i64 o,.int .i64 p,.func (.func N) #[] b] 239);exact⟨⟨_,d,rfl,λk m=>Y m,g.o.keep i,λe s=>KJ (l.o e (i.trans s)) j r rfl⟩,((Fr.refl (λ_=>False) w).alloc _).below⟩
variable{F:Ending}
theorem AW.more{P:World->Value->Prop}(a:∀k,d k->z k)(h:AW n d w P F v):AW n z w P F v:=by grind(splits:=30)[AW,fg,Sm]
variable{A:SV}
theorem KL(i:Ft d n w)(g:fg d w λw=>lz w A j)(l:n<=w.heap.size):Calls prog 161 #[A.agg] w (AW n d w λw f=>kl w f j):=by
 have h:=g.self;obtain⟨k,q,fr,r,m,e⟩:=A;unfold SV.agg;rcases h with⟨b,c⟩|h|h|h|h|⟨b,c,p⟩;.obtain rfl:k=0:=c;exact(adC e b).mono λ_ _=>AW.more λ_ h=>h.elim
 iterate 4 exact(adB e l (by first|exact Y h|exact I (Y h)|exact I (I (Y h))|exact I (I (I h)))).mono λ_ _=>AW.more λ_ h=>h.elim
 obtain rfl:k=5:=c;refine adD i (λo A=>?_) b;rcases g o A with⟨a,_⟩|⟨a,_⟩|⟨a,_⟩|⟨a,_⟩|⟨a,_⟩|⟨_,_,h⟩;iterate 5 rw[b]at a;cases a
 exact h
theorem Qm(h:lz w A j):(A.k==3||A.k==5)=j.late:=by grind(splits:=30)[V,dt,PT,dz.late,lz,E,bR,kF,gr,jX,jf,fP,iS]
theorem V4(h:lz w A j):Calls prog 162 #[A.agg] w λr e=>r=.returned (.bool j.late)/\Below w.heap.size w e:=by
 rw[<-Qm h];clear h;obtain⟨k,f,fr,g,d,c⟩:=A;unfold SV.agg;simp only;clear c;by_cases a:k=3;focus subst a
 rotate_left;focus
  have b:(k==3)=false:=by simpa using a
  rw[b]
 all_goals go_enter func162,ntmps162;go_wp2;go_ret;exact⟨rfl,((Fr.refl (λ_=>False) w).alloc _).below⟩
theorem Ft.up(h:Ft d n w)(f:Q w v):Sm d w v:=Sm.fr h f λ_ _ x=>x
theorem pr{F:Tv->List Tv}(j:Ft d n w)(f:fg d w λw=>lY w a F)(q:n<=w.heap.size):Calls prog 163 #[a] w (AW n d w λw a=>lY w a λt=>(ai 10 t).flatMap F):=by
 obtain⟨N,b,rfl,_,_⟩:=f.self;have h:=Z j;have m:=Z f;clear j f;go_enter func163,ntmps163;go_wp2;go_ret;have l:∀(o e:Obj),Sm d w ((w.alloc o).alloc e):=λo e=>Sm.fr (K:=λ_=>False) h.o (((Fr.refl _ w).alloc o).alloc e) λ_ _ x=>x;have i:=(V.new w #[.func (.func N) #[] b] 124).alloc (.cells #[.func (.func 210) #[] #[pT w.heap.size,(pT (w.heap.size+1))]] 124);have c:=V.new (w.alloc (.cells #[.func (.func N) #[] b] 124)) #[.func (.func 210) #[] #[pT w.heap.size,(pT (w.heap.size+1))]] 124;have p:(w.alloc (.cells #[.func (.func N) #[] b] 124)).heap.size=w.heap.size+1:=si;rw[p]at c;refine⟨⟨_,λx=>(d x\/x=w.heap.size)\/x=w.heap.size+1,rfl,λk r=>?_,((h.o.keep (l _ _)).or (Ft.one i de q)).or (Ft.one c de om),λg s=>?_⟩,((Fr.refl (λ_=>False) w).alloc _|>.alloc _).below⟩;.grind
 exact F_ (m.o g ((l _ _).trans (s.less λ_ x=>Y (Y x)))) (i.sm s (Y (I rfl))) (c.sm s (I rfl))
variable{g:List Value}{f:List dz}
theorem oa(h:Row 242 n (λi w b=>∀x,f[i]?=some x->kl w b x) d a g w)(v:f.length=g.length)(u:g.length<=1000)(F:n<=w.heap.size):Calls prog 164 #[a] w (AW n (λk=>d k\/a.ownBlock=some k) w λw b=>lY w b (fM f)):=by obtain⟨r,t,y⟩:=X h.o;obtain⟨j,l⟩:∃j,j=g.length:=⟨_,rfl⟩;rw[<-l]at y;subst y;have H:=Z h;have B:=Z v;have A:=Z u;clear h v u l;go_enter func164,ntmps164;go_wp2;go_ret;have m:=H.o.JL de;have c:=(m.keep (Sm.alloc m _)).or (Ft.one (V.new w #[.slice r j t] 241) de F);refine⟨⟨_,λx=>(d x\/(.slice r j t:Value).ownBlock=some x)\/x=w.heap.size,rfl,λk p=>p.imp id λe=>by omega,c,λG s=>?_⟩,((Fr.refl (λ_=>False) w).alloc _).below⟩;have z:=(Sm.alloc m _).trans (s.less λ_=>Y);have o:=c.keep s;exact KM (aQ H.o.o λk p=>z k (I p)) A.o B.o (λi C D J q=>H.o.ok i C J ((z.less λ_=>Y).trans ((o.up q).less λ_ x=>Y (Y x))) _ (fB D)) ((V.new w _ _).sm s (I rfl))
theorem tE(h:Row 242 n (λi w b=>∀x,f[i]?=some x->kl w b x) d a g w)(v:f.length=g.length)(u:g.length<=1000)(F:n<=w.heap.size):Calls prog 166 #[a] w (AW n (λk=>d k\/a.ownBlock=some k) w λw b=>lZ w b false f):=by obtain⟨r,t,y⟩:=X h.o;obtain⟨j,l⟩:∃j,j=g.length:=⟨_,rfl⟩;rw[<-l]at y;subst y;have H:=Z h;have B:=Z v;have A:=Z u;clear h v u l;go_enter func166,ntmps166;go_wp2;go_ret;have m:=H.o.JL de;have c:=(m.keep (Sm.alloc m _)).or (Ft.one (V.new w #[.slice r j t] 241) de F);refine⟨⟨_,λx=>(d x\/(.slice r j t:Value).ownBlock=some x)\/x=w.heap.size,rfl,λk p=>p.imp id λe=>by omega,c,λG s=>?_⟩,((Fr.refl (λ_=>False) w).alloc _).below⟩;have z:=(Sm.alloc m _).trans (s.less λ_=>Y);have o:=c.keep s;exact yw (aQ H.o.o λk p=>z k (I p)) A.o B.o (λi C D J q=>H.o.ok i C J ((z.less λ_=>Y).trans ((o.up q).less λ_ x=>Y (Y x))) _ (fB D)) ((V.new w _ _).sm s (I rfl))
theorem od(h:Row 242 n (λi w b=>∀x,f[i]?=some x->kl w b x) d a g w)(v:f.length=g.length)(u:g.length<=1000)(F:n<=w.heap.size):Calls prog 165 #[a] w (AW n (λk=>d k\/a.ownBlock=some k) w λw b=>lZ w b true f):=by obtain⟨r,t,y⟩:=X h.o;obtain⟨j,l⟩:∃j,j=g.length:=⟨_,rfl⟩;rw[<-l]at y;subst y;have H:=Z h;have B:=Z v;have A:=Z u;clear h v u l;go_enter func165,ntmps165;go_wp2;go_ret;have m:=H.o.JL de;have c:=(m.keep (Sm.alloc m _)).or (Ft.one (V.new w #[.slice r j t] 241) de F);refine⟨⟨_,λx=>(d x\/(.slice r j t:Value).ownBlock=some x)\/x=w.heap.size,rfl,λk p=>p.imp id λe=>by omega,c,λG s=>?_⟩,((Fr.refl (λ_=>False) w).alloc _).below⟩;have z:=(Sm.alloc m _).trans (s.less λ_=>Y);have o:=c.keep s;exact vS (aQ H.o.o λk p=>z k (I p)) A.o B.o (λi C D J q=>H.o.ok i C J ((z.less λ_=>Y).trans ((o.up q).less λ_ x=>Y (Y x))) _ (fB D)) ((V.new w _ _).sm s (I rfl))
theorem AX:(prog.info? 242).map (λi=>(i.zero,i.size,i.bytes))=some (some .nilFunc,1,8):=by kernel_rfl
variable{B:TypeId}
theorem Row.ZU{P:Nat->World->Value->Prop}(h:Row B n P d a g w)(l:∀k,z k->a.ownBlock≠some k)(b:Ft z n w)(C:fg z w λt=>P g.length t m)(r:v.ownsRow n B 1 c (g.length+1) (g++[m]))(f:w.grownBy v a.ownBlock)(p:c.ownBlock=a.ownBlock\/c.ownBlock=some w.heap.size):Row B n P (λk=>d k\/z k) c (g++[m]) v:=by
 have o:Sm d w v:=Sm.grown h.ft f h.ne;have s:Sm z w v:=Sm.grown b f l;refine⟨by simpa using r,(h.ft.keep o).or (b.keep s),λk j e=>?_,λi A=>?_⟩
 .rcases p with x|x;.rw[x]at e;exact j.elim (λy=>h.ne k y e) λy=>l k y e
  rw[x]at e;have u:w.heap.size=k:=cI e;have:k<w.heap.size:=j.elim (λy=>h.ft.lt y) λy=>b.lt y;omega
 by_cases q:i<g.length;.have:=((h.ok i q).keep o).more (D':=λk=>d k\/z k) λk=>Y;grind
 grind(splits:=30)[fg,Sm]
structure KN(w:World)(B:Nat)(xs:List dz)(D:Nat->Prop)(sv:Value)(fs:List Value)(i:Nat)(wr:World):Prop where
 bl:Below w.heap.size w wr
 bk:V wr w.heap.size #[.nilFunc,.nilFunc,.bool false] 128
 row:Row 242 B (λi w f=>∀x,xs[i]?=some x->kl w f x) D sv fs wr
 fl:fs.length=i
 nd:∀k,D k->k≠w.heap.size
 nr:∀k,sv.ownBlock=some k->w.heap.size<k
theorem KN.below(h:KN w n f d a g k v)(b:Below v.heap.size v u):KN w n f d a g k u:=⟨(((Fr.aN (K:=λ_=>False) h.bl)).trans (Fr.aN b)).below,h.bk.fr (Fr.aN (K:=λ_=>False) b) id,h.row.below b,h.fl,h.nd,h.nr⟩
theorem KN.alloc{w:World}{b:World}(h:KN w n f d a g k b)(o:Obj):KN w n f d a g k (b.alloc o):=h.below ((Fr.refl (λ_=>False) b).alloc o).below
theorem KN.next(h:KN w n f d a g k v)(C:f[k]?=some j)(x:Ft z n v)(D:fg z v λp=>kl p m j)(t:∀b,z b->b≠w.heap.size/\a.ownBlock≠some b)(l:v.grownBy u a.ownBlock)(B:u.ownsRow n 242 1 c (k+1) (g++[m]))(q:c.ownBlock=a.ownBlock\/c.ownBlock=some v.heap.size):KN w n f (λb=>d b\/z b) c (g++[m]) (k+1) u:=by
 have o:¬a.ownBlock=some w.heap.size:=λe=>by have:=h.nr _ e;omega
 have A:=h.bk.lt;refine⟨?_,(l.block w.heap.size h.bk.lt λe=>o e.symm).trans h.bk,h.row.ZU (λb i=>(t b i).2) x (λp s F r=>?_) (by rw[h.fl];exact B) l q,by simp[h.fl],λb i=>i.elim (h.nd b) λy=>(t b y).1,λb i=>?_⟩;.have f1:Fr (λ_=>False) w u:=(Fr.aN h.bl).grown l λb i=>Y (by have:=h.nr b i;omega);exact f1.below
 .rw[h.fl,C]at r;cases r;exact D p s
 rcases q with e|e;.rw[e]at i;exact h.nr b i
 grind
variable{H:Ending->World->Prop}{D:Act}
theorem KQ(i:D.defers=[])(h:D.tmps[4]?.getD undef=pT n)(b:V w n #[a,c,m] 128)(g:H (.returned (.agg #[a,c,m])) w):bodyPost prog f116 H .ret D w:=by have d:=b.cell 0;have e:=b.cell 1;have f:=b.cell 2;simp at d e f;refine bodyPost_ret (v:=.agg #[a,c,m]) ?_ i g;simp[results,results116,go_sem,h,d,e,f]
structure SgV(w:World)(f f':Value)(x:Sg):Prop where t:lY w f (dB x)c:lZ w f' x.deep x.l
def SgB(B:Nat)(w:World)(x:Sg)(r:Ending)(a:World):Prop:=(∃f b D,r=.returned (.agg #[f,b,.bool x.late])/\Ft D B a/\fg D a λw=>SgV w f b x)/\Below w.heap.size w a
theorem KT(h:f[n]?=some j):(f.take (n+1)).any dz.late=((f.take n).any dz.late||j.late):=by obtain⟨a,rfl⟩:=List.getElem?_eq_some_iff.1 h;rw[eC a,List.any_append];simp
variable{L:Option Addr}
theorem yx{l:List SV}(th:Bool)(h:vR n f d (.slice L k i) l w)(hxl:f.length=k)(hlen:l.length=k)(hj:k<=1000)(hB:n<=w.heap.size):Calls prog 116 #[.bool th,.slice L k i] w (SgB n w ⟨th,f⟩):=by
 obtain⟨i0,hi,hz0,hz1,eE⟩:=info_parts AX;have HI:=Z hi;have iK:=Z hz0;have iz:=Z hz1;have ja:=Z eE;have HS:=Z h;have ho0:w.ownsRow n 239 5 (.slice L k i) k (kK l):=hlen▸h.o;have H:=Z ho0;have HX:=Z hxl;clear h hi hz0 hz1 eE ho0 hxl;have S:Hid (KN w n f (λ_=>False) (.slice none 0 0) [] 0 (w.alloc (.cells #[.nilFunc,.nilFunc,.bool false] 128))):=⟨((Fr.refl (λ_=>False) w).alloc _).below,V.new _ _ _,Row.nil _ _ _ _,rfl,λ_ h=>h.elim,λo hk=>by cases hk⟩;go_enter func116,ntmps116;go_wp2;go_loopw[5,6,8,11]λsv lt _ m wr=>∃(o:Nat)(fs:List Value)(D:Nat->Prop),o<=k/\m=.int .i64 o/\lt=.bool ((f.take o).any dz.late)/\KN w n f D sv fs o wrλ_ _ _ m _=>k-(intOf m).toNat;case atStart=>exact⟨0,[],_,aT _,rfl,rfl,S.o⟩
 case round=>
  clear S;obtain⟨o,fs,D,hk,rfl,rfl,hS⟩:=hrel;have S:=Z hS;clear hS;by_cases hlt:o<k
  .obtain⟨g,cap,hv,NK,nP⟩:=H.o.form om;simp only[Value.slice.injEq,true_and]at hv;obtain⟨rfl,rfl⟩:=hv;have nV:∀c:Nat,wr.cell? (aD g c)=w.cell? (aD g c):=λc=>S.o.bl.cell (p:=aD g c) nP;have B:∀c:Nat,c<5->wr.cell? (aD g (o*5+c))=(l[o]).cells[c]?:=λc hc=>((nV _).trans (H.o.cellAt (o*5+c) om)).trans (yv l o c hc om);have Vc:=B 0 de;have Vd:=B 1 de;have XH:=B 2 de;have kc3:=B 3 de;have kc4:=B 4 de;clear B nV;have hkx:o<f.length:=by have:=HX.o;omega
   obtain⟨x,hx⟩:∃x,f[o]?=some x:=⟨_,fB hkx⟩;have OKS:Hid (fg d w λw=>lz w l[o] x):=λw' s=>HS.o.ok o om w' s x hx;have FT0:=Z HS.o.ft;have HXX:=Z hx;have HAT:=Z (KT hx);clear hx;generalize l[o]=s at*;simp only[SV.cells,List.getElem?_cons_zero,List.getElem?_cons_succ,Nat.add_zero]at Vc Vd XH kc3 kc4;have sm:∀W,Below w.heap.size w W->Sm d w W:=λW A=>Sm.fr (K:=λ_=>False) FT0.o (Fr.aN A) λ_ _ y=>y;have TK:Hid (∀W,Below w.heap.size w W->Calls prog 161 #[s.agg] W (AW n d W λw j=>kl w j x)):=λW A=>KL (FT0.o.keep (sm W A)) (OKS.o.keep (sm W A)) (az hB A.size);have LT:Hid (∀W,Below w.heap.size w W->Calls prog 162 #[s.agg] W λr w'=>r=.returned (.bool x.late)/\Below W.heap.size W w'):=λW A=>V4 (OKS.o W (sm W A));have adG:Hid (∀o,d o->o<w.heap.size):=λo hk=>FT0.o.lt hk;clear sm OKS FT0;have hmm:=s.hm;unfold SV.agg at TK LT;generalize s.k=sk at*;generalize s.nm=sn at*;generalize s.fr=sf at*;generalize s.to=st at*;generalize s.met=sm at*;obtain⟨b0,k0,N6⟩:=X S.o.row.o;rw[S.o.fl]at N6;subst N6;generalize hlb:(f.take o).any dz.late=lb at*;clear hlb;rcases hmm with rfl|⟨f0,x0,y0,rfl⟩;all_goals
    go_wp2_with fail;refine(TK.o _ (S.o.alloc _).bl).mono ?_;rintro r w1⟨⟨v1,D1,rfl,F',ZV,V6⟩,Tz⟩;obtain⟨N1,F,rfl,_,_⟩:=V6.self;have U:=Z ((S.o.alloc _).below Tz);have B1:=Z ((V.new wr _ 239).fr (Fr.aN (K:=λ_=>False) Tz) id);have akv:wr.heap.size<w1.heap.size:=B1.o.lt;have x_:w.heap.size<wr.heap.size:=S.o.bk.lt;have adI:Hid ((.slice b0 o k0:Value).ownBlock≠some wr.heap.size):=λe=>by have:=(S.o.row.o.lt _ e).2;omega
    have ND:Hid (∀q,D1 q->q≠w.heap.size/\(.slice b0 o k0:Value).ownBlock≠some q):=λq R=>by
     rcases F' q R with y|y;.have y1:=adG.o q y;exact⟨om,λe=>by have:=S.o.nr q e;omega⟩
     simp at y;exact⟨om,λe=>by have:=(S.o.row.o.lt _ e).2;omega⟩
    have G:=Z ZV;have T:=Z V6;have ZW:w1.ownsRow n 242 1 (.slice b0 o k0) o fs:=U.o.fl▸U.o.row.o;clear Tz Vc Vd XH kc3 kc4 F' ZV V6;go_wp2_with(at_builtin;refine wpList_append_own_at _ rfl _ _ 241 rfl n 242 i0 .nilFunc 1 8 underlying241 HI.o iK.o iz.o ja.o rfl de _ _ _ rfl (ZW.alloc _) (aD w1.heap.size 0) 1 1 [.func (.func N1) #[] F] rfl rfl ?c1 ?c2 ?c3 ?c4 ?c5 ?_);case c1=>intro k u hj;match k,hj with|0,hj=>simp at hj;subst hj;simp[Addr.add]
    case c2=>intro u hu;simp at hu;subst hu;rfl
    case c3=>unfold maxLen;omega
    case c4=>omega
    case c5=>simp;omega
    intro v' w5 M K _ qm;have S5:=Z ((U.o.alloc _).next HXX.o (G.o.keep (Sm.alloc G.o _)) (T.o.keep (Sm.alloc G.o _)) ND.o K M (by simpa using qm));have B5:=Z ((K.block _ (V.alloc B1.o _).lt λe=>adI.o e.symm).trans (V.alloc B1.o _));obtain⟨b5,k5,rfl⟩:=X M;clear M K U B1 ZW;have z0:=V.cell B5.o 0;have z1:=V.cell B5.o 1;have z2:=V.cell B5.o 2;have z3:=V.cell B5.o 3;have z4:=V.cell B5.o 4;simp at z0 z1 z2 z3 z4;cases lb
    .go_wp2_with fail;refine mo (LT.o _ S5.o.bl) λw6 hb6=>?_;have S6:=Z (S5.o.below hb6);clear hb6 S5 B5 z0 z1 z2 z3 z4;go_wp2;go_roundw;case rel=>exact⟨o+1,_,_,om,by go_num,by rw[HAT.o];simp,S6.o⟩
     case measure=>simp[intOf];omega
    go_wp2;go_roundw;case rel=>exact⟨o+1,_,_,om,by go_num,by rw[HAT.o];simp,S5.o⟩
    case measure=>simp[intOf];omega
  have hkj:o=k:=om;subst hkj;obtain⟨b0,k0,N6⟩:=X S.o.row.o;rw[S.o.fl]at N6;subst N6;have hge:w.heap.size<wr.heap.size:=S.o.bk.lt;have hfl:fs.length=o:=S.o.fl;have hall:(f.take o).any dz.late=Sg.late ⟨th,f⟩:=by rw[gv (by have:=HX.o;omega)];rfl
  rw[hall];have hD:Hid (∀q,D q\/(.slice b0 o k0:Value).ownBlock=some q->q≠w.heap.size):=λq R=>R.elim (S.o.nd q) (λe=>by have:=S.o.nr q e;omega);have FF:=Z hfl;clear hall hfl;generalize hlb:Sg.late ⟨th,f⟩=lb at*;have TA:=Z hlb;clear hlb;cases th
  .have eS:dB ⟨false,f⟩=fM f:=by funext v;simp[dB]
   have ES:=Z eS;clear eS;go_wp2_with fail;refine(oa S.o.row (by have:=HX.o;have:=FF.o;omega) (by have:=FF.o;omega) om).mono ?_;rintro r w1⟨⟨f1,D1,rfl,N,z,p⟩,A⟩;obtain⟨N1,F,rfl,_,_⟩:=p.self;have ND1:Hid (∀q,D1 q->q≠w.heap.size):=λq R=>(N q R).elim (hD.o q) (λe=>by omega);have G:=Z z;have T:=Z p;have BB1:=Z A;have U:=Z (S.o.below A);have adK:w.heap.size<w1.heap.size:=U.o.bk.lt;clear N z p A;go_wp2_with fail;refine(tE U.o.row (by have:=HX.o;have:=FF.o;omega) (by have:=FF.o;omega) om).mono ?_;rintro r w2⟨⟨f2,D2,rfl,N,z,p⟩,A⟩;obtain⟨N2,C,rfl,_,_⟩:=p.self;have ND2:Hid (∀q,D2 q->q≠w.heap.size):=λq R=>(N q R).elim (hD.o q) (λe=>by omega);have FT2:=Z z;have XQ:=Z p;have BBc:=Z A;have J:=Z (U.o.below A);have ZX:w.heap.size<w2.heap.size:=J.o.bk.lt;clear N z p A;have z0:=J.o.bk.cell 0;have z1:=J.o.bk.cell 1;have z2:=J.o.bk.cell 2;have hfz:=J.o.bk.fz;simp at z0 z1 z2;go_wp2;refine KQ rfl rfl (((J.o.bk.set 0 _).set 1 _).set 2 _) ?_;have hr:∀{P:Nat->Prop}(_:∀q,P q->q≠w.heap.size){W:World}(x:Sm P w2 W)(m:Nat)(y:Value),Sm P w2 (W.setCell (aD w.heap.size m) y):=λhn _ x m y o hk=>(Below.heap_setCell _ _ _ _ (by show o≠w.heap.size;exact hn o hk)).trans (x o hk);have s5:∀{P:Nat->Prop}(_:∀q,P q->q≠w.heap.size)(a b c:Value),Sm P w2 (((w2.setCell (aD w.heap.size 0) a).setCell (aD w.heap.size 1) b).setCell (aD w.heap.size 2) c):=λhn a b c=>hr hn (hr hn (hr hn (λ_ _=>rfl) 0 a) 1 b) 2 c;have sA:=Sm.trans (Sm.fr (K:=λ_=>False) G.o (Fr.aN BBc.o) λ_ _ y=>y) (s5 ND1.o (.func (.func N1) #[] F) (.func (.func N2) #[] C) (.bool lb));have sB:=s5 ND2.o (.func (.func N1) #[] F) (.func (.func N2) #[] C) (.bool lb);refine⟨⟨.func (.func N1) #[] F,.func (.func N2) #[] C,λo=>D1 o\/D2 o,by rw[TA.o],(G.o.keep sA).or (FT2.o.keep sB),λw'' s=>⟨?_,?_⟩⟩,?_⟩;.have:=T.o w'' (sA.trans (s.less λ_=>Y));rw[ES.o];exact this
   .exact XQ.o w'' (sB.trans (s.less λ_=>I))
   exact((((Fr.aN (K:=λ_=>False) J.o.bl).setCell (aD w.heap.size 0) (I lr) _).setCell (aD w.heap.size 1) (I lr) _).setCell (aD w.heap.size 2) (I lr) _).below
  have eS:dB ⟨true,f⟩=λt=>(ai 10 t).flatMap (fM f):=by funext v;simp[dB]
  have ES:=Z eS;clear eS;go_wp2_with fail;refine(oa S.o.row (by have:=HX.o;have:=FF.o;omega) (by have:=FF.o;omega) om).mono ?_;rintro r w1⟨⟨f1,D1,rfl,N,z,p⟩,A⟩;obtain⟨N1,F,rfl,_,_⟩:=p.self;have ND1:Hid (∀q,D1 q->q≠w.heap.size):=λq R=>(N q R).elim (hD.o q) (λe=>by omega);have G:=Z z;have T:=Z p;have BB1:=Z A;have U:=Z (S.o.below A);have adK:w.heap.size<w1.heap.size:=U.o.bk.lt;clear N z p A;go_wp2_with fail;refine(pr G.o T.o om).mono ?_;rintro r w3⟨⟨f3,D3,rfl,N,z,p⟩,A⟩;obtain⟨N3,Ks,rfl,_,_⟩:=p.self;have ND3:Hid (∀q,D3 q->q≠w.heap.size):=λq R=>(N q R).elim (ND1.o q) (λe=>by omega);have FT3:=Z z;have FZ:=Z p;have BB3:=Z A;have S3:=Z (U.o.below A);have ZY:w.heap.size<w3.heap.size:=S3.o.bk.lt;clear N z p A;go_wp2_with fail;refine(od S3.o.row (by have:=HX.o;have:=FF.o;omega) (by have:=FF.o;omega) om).mono ?_;rintro r w2⟨⟨f2,D2,rfl,N,z,p⟩,A⟩;obtain⟨N2,C,rfl,_,_⟩:=p.self;have ND2:Hid (∀q,D2 q->q≠w.heap.size):=λq R=>(N q R).elim (hD.o q) (λe=>by omega);have FT2:=Z z;have XQ:=Z p;have BBc:=Z A;have J:=Z (S3.o.below A);have ZX:w.heap.size<w2.heap.size:=J.o.bk.lt;clear N z p A;have z0:=J.o.bk.cell 0;have z1:=J.o.bk.cell 1;have z2:=J.o.bk.cell 2;have hfz:=J.o.bk.fz;simp at z0 z1 z2;go_wp2;refine KQ rfl rfl (((J.o.bk.set 0 _).set 1 _).set 2 _) ?_;have hr:∀{P:Nat->Prop}(_:∀q,P q->q≠w.heap.size){W:World}(x:Sm P w2 W)(m:Nat)(y:Value),Sm P w2 (W.setCell (aD w.heap.size m) y):=λhn _ x m y o hk=>(Below.heap_setCell _ _ _ _ (by show o≠w.heap.size;exact hn o hk)).trans (x o hk);have s5:∀{P:Nat->Prop}(_:∀q,P q->q≠w.heap.size)(a b c:Value),Sm P w2 (((w2.setCell (aD w.heap.size 0) a).setCell (aD w.heap.size 1) b).setCell (aD w.heap.size 2) c):=λhn a b c=>hr hn (hr hn (hr hn (λ_ _=>rfl) 0 a) 1 b) 2 c;have sA:=Sm.trans (Sm.fr (K:=λ_=>False) FT3.o (Fr.aN BBc.o) λ_ _ y=>y) (s5 ND3.o (.func (.func N3) #[] Ks) (.func (.func N2) #[] C) (.bool lb));have sB:=s5 ND2.o (.func (.func N3) #[] Ks) (.func (.func N2) #[] C) (.bool lb);refine⟨⟨.func (.func N3) #[] Ks,.func (.func N2) #[] C,λo=>D3 o\/D2 o,by rw[TA.o],(FT3.o.keep sA).or (FT2.o.keep sB),λw'' s=>⟨?_,?_⟩⟩,?_⟩;.have:=FZ.o w'' (sA.trans (s.less λ_=>Y));rw[ES.o];exact this
  .exact XQ.o w'' (sB.trans (s.less λ_=>I))
  exact((((Fr.aN (K:=λ_=>False) J.o.bl).setCell (aD w.heap.size 0) (I lr) _).setCell (aD w.heap.size 1) (I lr) _).setCell (aD w.heap.size 2) (I lr) _).below
variable{b r:List UInt8}
theorem Mk.below(h:Mk n q k b i a c w)(f:Below w.heap.size w v):Mk n q k b i a c v:=⟨h.b.fr (Fr.aN (K:=λ_=>False) f) id,h.o,FY h.row f,h.le⟩
theorem Mk.na(h:Mk n q k b i a c w)(f:Nat):Mk n q k b f a c (w.setCell (aD n 4) (.int .i64 (f:Nat))):=⟨h.b.set 4 _,h.o,aS h.row ((Fr.refl (λd=>d=n) w).setCell (aD n 4) (Y rfl) _) λd g e=>by omega,h.le⟩
structure FU(g:Nat)(w w':World):Prop where
 os:w'.os=w.os
 tape:w'.tape=w.tape
 output:w'.output=w.output
 size:w.heap.size<=w'.heap.size
 low:∀k,k<g->k<w.heap.size->w'.heap[k]?=w.heap[k]?
 typ:∀k cs T fz,k≠g->T≠5->w.heap[k]?=some (.cells cs T fz)->w'.heap[k]?=w.heap[k]?
theorem FU.trans(h:FU n w v)(k:FU n v u):FU n w u:=⟨k.os.trans h.os,k.tape.trans h.tape,k.output.trans h.output,az h.size k.size,λi a f=>(k.low i a (aI f h.size)).trans (h.low i a f),λi b T c a d e=>(k.typ i b T c a d ((h.typ i b T c a d e).trans e)).trans (h.typ i b T c a d e)⟩
theorem FU.refl(g:Nat)(w:World):FU g w w:=⟨rfl,rfl,rfl,aP _,λ_ _ _=>rfl,λ_ _ _ _ _ _ _=>rfl⟩
theorem FU.of(h:Mk n q k b i a c w)(f:Fr (KG n c) w v):FU n w v:=by
 refine⟨f.os,f.tape,f.output,f.size,λd g o=>f.block d o ?_,λd s T u g y m=>f.block d (bo m) ?_⟩
 .rintro(e|e);.omega
  have:=(h.row.lt d e).1;omega
 rintro(e|e);.exact g e
 rcases h.row.2 with⟨x,_⟩|⟨p,j,l,r,_,z,_⟩;.rw[x]at e;cases e
 rw[r]at e;have t:p=d:=cI e;grind
theorem FU.px(f:Fr (λk=>k=n) w v):FU n w v:=⟨f.os,f.tape,f.output,f.size,λk a c=>f.block k c om,λk _ _ _ a _ b=>f.block k (bo b) a⟩
theorem FU.aN(f:Below w.heap.size w v):FU n w v:=FU.px (Fr.aN f)
theorem FU.drewN(h:FU n w v)(a:Nat):FU n w (v.drewN a):=⟨h.os,h.tape,h.output,h.size,h.low,h.typ⟩
theorem Er.fu(h:Er n w)(f:FU n w v)(g:6<n):Er n v:=by obtain⟨⟨b,c,d⟩,e,a⟩:=h;exact⟨⟨b,(World.cell?_of_block (w:=w) (a:=aD 6 0) (f.low _ g a)).trans c,d⟩,e,aI a f.size⟩
def ZZ(g:Nat)(q:ByteArray)(a n:Nat)(w:World)(r:Ending)(d:World):Prop:=∃(c:St)(e:Nat)(b:List UInt8)(i j f h:Value)(x:Sg)(D:Nat->Prop),m_ (E q) e b c/\a<c.p/\e=n+x.l.length/\r=.returned (.agg #[f,h,.bool x.late])/\fX (E q) a=⟨x,c.p⟩/\(Ft D w.heap.size d/\fg D d λw=>SgV w f h x)/\Mk g q c.p b e i j d/\FU g w d
def yy(g:Nat)(q:ByteArray)(a n:Nat)(R:PS (List dz))(w:World)(r:Ending)(d:World):Prop:=∃(c:St)(j h:Nat)(f:Option Addr)(b:List UInt8)(i k:Value)(l:List SV)(e:List dz)(D:Nat->Prop),m_ (E q) (n+j) b c/\a<=c.p/\j<=q.size/\r=.returned (.slice f j h)/\(vR w.heap.size e D (.slice f j h) l d/\e.length=j/\l.length=j/\R=⟨e,c.p⟩)/\Mk g q c.p b n i k d/\FU g w d
variable{l:St}
theorem m_.few(h:m_ b n r l):n<=l.p:=by have:=Qn b l.p;have:=h.ct;omega
theorem KV{q:ByteArray}{a:Nat}(h:bt (E q) a≠46\/bt (E q) (a+1)≠46):tk q a ⟨#[46,46]⟩=false:=by rw[k_];show(bt (E q) a==46&&(bt (E q) (a+1)==46&&true))=false;rcases h with h|h<;>simp[h]
theorem Qo(h:bt (E q) n=46)(a:bt (E q) (n+1)=46):tk q n ⟨#[46,46]⟩=true:=by rw[k_];show(bt (E q) n==46&&(bt (E q) (n+1)==46&&true))=true;simp[h,a]
variable{N:PS (List dz)}
theorem yy.le(a:i<=k)(h:yy n q k t N w F v):yy n q i t N w F v:=by grind(splits:=30)[V,dt,PT,vR,SV.cells,lz,yy,E,bR,kF,gr,jX,jf,fP,iS]
variable{P:UInt8}
theorem adO(h:tk q n ⟨#[P]⟩=true):bt (E q) n=P.toNat:=by rw[k_]at h;have:(bt (E q) n==P.toNat&&true)=true:=h;simpa using this
theorem Z0(h:tk q n ⟨#[P]⟩=false):bt (E q) n≠P.toNat:=by rw[k_]at h;have:(bt (E q) n==P.toNat&&true)=false:=h;simpa using this
theorem yz{w:World}(b:n<=w.heap.size)(s:SV)(x:dz)(h:∀w,lz w s x):vR n [x] (λ_=>False) (.slice (sA w.heap.size) 1 1) [s] (w.alloc (.cells #[.int .i64 s.k,.string s.nm,.int .i64 s.fr,.int .i64 s.to,s.met] 239)):=bQ.one (Ft.none _ _) (λc _ y a=>by simp at a;subst a;exact h c) (yt w n s b)
theorem FU.AY(h:FU n w v)(g:w.heap.size<=k)(i:Nat)(z:Value):FU n w (v.setCell (aD k i) z):=⟨h.os,h.tape,h.output,by simp[World.setCell];exact h.size,λj a f=>(Below.heap_setCell _ _ _ _ (by show j≠k;omega)).trans (h.low j a f),λj c T d a e b=>(Below.heap_setCell _ _ _ _ (by show j≠k;have:=bo b;omega)).trans (h.typ j c T d a e b)⟩
theorem FU.blk(h:FU n w v){a:Array Value}(b:V w k a B)(c:B≠5)(d:k≠n):V v k a B:=(h.typ k a B (0,0) d c b).trans b
theorem Mk.rV(h:Mk n q k b i a c w)(p:¬KG n c t)(d:Nat)(x:Value):Mk n q k b i a c (w.setCell (aD t d) x):=by
 have u:n≠t:=λe=>p (Y e.symm);have f:Fr (λg=>g=t) w (w.setCell (aD t d) x):=(Fr.refl (λg=>g=t) w).setCell (aD t d) (Y rfl) _;refine⟨h.b.fr f u,h.o,?_,h.le⟩;refine⟨h.row.1,?_⟩;rcases h.row.2 with x|⟨g,j,l,m,r,o,s⟩;.exact Y x
 refine I ⟨g,j,l,m,r,(f.block g (bo o) λe=>p (I (by rw[m,<-e];rfl))).trans o,s⟩
structure WdB(s:List UInt8)(c:Nat)(acc:List UInt8)(t:St):Prop where
 e0':t.e=0
 b:m_ s c (acc++([91,39]++sub s t.p (bH s t).p++[39,93])) (bH s t)
theorem WdB.e0(h:WdB b n r l):(bH b l).e=0:=h.b.e0
theorem TB(hq:q.size<=1000)(K:bF (E q))(J:Er n w)(hG:6<n){t:St}(h:Mk n q t.p b k a c w)(hl:b.length<=10000)(i:tk q t.p ⟨#[91]⟩=true)(y:Hid (bt (E q) t.p=91))(TX:Hid (T (E q) (t.p+1)=b++[91]))(U:Hid (Live (E q) (t.p+1) (k+1) 6 [] 0 {t with p:=t.p+1})):Calls prog 115 #[pT n] w (yy n q (t.p+1) k (zV (E q) t.p) w):=by
 have R:=Z J;have S:=Z K;have L:=h.le;have d0:w.cell? (aD n 0)=some (.string q):=h.b.cell 0;have d1:w.cell? (aD n 1)=some (.int .i64 ((t.p:Nat):Int)):=h.b.cell 1;have e1:((t.p:Nat):Int)<=(q.size:Int):=om;have g:=Z h;clear h J K;go_enter func115,ntmps115;go_wp2_with fail;go_quiet((go_at_call 113;exact Calls.quiet_of_same (iV _ _)));rw[rW,i];have C:Hid (Mk n q t.p b k a c (w.drewN nq)):=⟨g.o.b,g.o.o,g.o.row,g.o.le⟩;have x:Hid (FU n w (w.drewN nq)):=(FU.refl n w).drewN nq;have H:Hid (Er n (w.drewN nq)):=R.o.fu x.o hG;clear g d0 d1 e1;generalize w.drewN nq=w3 at*;go_wp2_with fail;refine(yu (t:=t) hq S.o H.o C.o om i U.o).mono ?_;rintro r w4⟨t4,F,sv4,p4,v4,l4,G,N,e,o,hj4,rfl,⟨d,v,f,m⟩,l,j⟩;obtain⟨ao,cp,s⟩:=X d.o;rw[f]at s;subst s;have B:=Z v;have A:=Z f;have z:=Z m;have u:w.heap.size<=w3.heap.size:=x.o.size;have p:t.p<t4.p:=o;have M:Hid (m_ (E q) (k+F) (b++sub (E q) (t.p) t4.p) t4):=by have D:m_ (E q) (k+F) (T (E q) (t.p+1)++sub (E q) (t.p+1) t4.p) t4:=e;rw[show T (E q) (t.p+1)=b++[91]from TX.o]at D;rw[xM (b:=91) y.o p];grind
 have P:Hid (FU n w w4):=x.o.trans (FU.of C.o j);have R4:=Z d;have W:=Z l;clear e o d l j C x H v f m;go_wp2;go_ret;exact⟨t4,F,cp,ao,_,p4,v4,l4,G,N,M.o,om,om,rfl,⟨bQ.low R4.o u,B.o,A.o,z.o⟩,W.o,P.o⟩
theorem Dz(C:q.size<=1000)(B:bF (E q))(A:Er n w)(S:6<n){t u:St}(h:Mk n q t.p b k a c w)(hl:b.length<=10000)(s:tk q t.p ⟨#[91]⟩=false)(F:tk q t.p ⟨#[46]⟩=false/\u=t\/tk q t.p ⟨#[46]⟩=true/\u=aH t)(f:tk q u.p ⟨#[42]⟩=true)(H:Hid (m_ (E q) (k+1) (b++[91,42,93]) (aH u))):Calls prog 115 #[pT n] w (yy n q u.p k (gg (E q) u.p) w):=by
 have L:=Z A;have HF:=Z B;have D:=h.le;have d0:w.cell? (aD n 0)=some (.string q):=h.b.cell 0;have d1:w.cell? (aD n 1)=some (.int .i64 ((t.p:Nat):Int)):=h.b.cell 1;have R:((t.p:Nat):Int)<=(q.size:Int):=om;have d:=Z h;have y:Hid ((if tk q t.p ⟨#[46]⟩then t.p+(⟨#[46]⟩:ByteArray).size else t.p)=u.p):=by
  rcases F with⟨e,rfl⟩|⟨e,rfl⟩;.rw[e];exact Z rfl
  rw[e];exact Z rfl
 clear h A B F;go_enter func115,ntmps115;go_wp2_with fail;go_quiet((go_at_call 113;exact Calls.quiet_of_same (iV _ _)));rw[rW,s];have o:Hid (Mk n q t.p b k a c (w.drewN nq)):=⟨d.o.b,d.o.o,d.o.row,d.o.le⟩;have l:Hid (FU n w (w.drewN nq)):=(FU.refl n w).drewN nq;have J:Hid (Er n (w.drewN nq)):=L.o.fu l.o S;clear d d0 d1 R;generalize w.drewN nq=w3 at*;go_wp2_with fail;refine mo (mq o.o.qt C ⟨#[46]⟩) λG i=>?_;rw[y.o]at i;clear y;generalize tk q t.p ⟨#[46]⟩=x4 at*;have p:Hid (Mk n q u.p b k a c G):=o.o.step i;have x:Hid (FU n w G):=l.o.trans (FU.px i.f);clear i o l J;go_wp2_with fail;refine(Qj C p.o om f).mono ?_;rintro r j⟨rfl,U,W,v,f5⟩;have N:Hid (gg (E q) (u.p)=⟨[⟨1,[],0,0,0,λ_=>false⟩],u.p+1⟩):=by show _=_;unfold gg;rw[ae (show bt (E q) _=42 from adO f)]
 have z:=Z v;have T:u.p+1<=q.size:=v.le;have m:Hid (FU n w j):=x.o.trans (FU.of p.o f5);clear v f5 p x;have g:w.heap.size<=j.heap.size:=m.o.size;have P:=Z (yz (w:=j) g ⟨0,⟨#[]⟩,0,0,.nilFunc,Y rfl⟩ ⟨1,[],0,0,0,λ_=>false⟩ λ_=>Y ⟨rfl,rfl⟩);have M:=Z (z.o.alloc (.cells #[.int .i64 0,.string ⟨#[]⟩,.int .i64 0,.int .i64 0,.nilFunc] 239));have K:=Z (m.o.trans (FU.aN ((Fr.refl (λ_=>False) j).alloc (.cells #[.int .i64 0,.string ⟨#[]⟩,.int .i64 0,.int .i64 0,.nilFunc] 239)).below));clear z m;go_wp2;go_ret;exact⟨aH u,1,1,_,_,U,W,_,_,_,H.o,by show _<=u.p+1;omega,om,rfl,⟨P.o,rfl,rfl,N.o⟩,M.o,K.o⟩
theorem DC(K:q.size<=1000)(H:bF (E q))(G:Er n w)(hG:6<n){t u:St}(h:Mk n q t.p b k a c w)(hl:b.length<=10000)(z:tk q t.p ⟨#[91]⟩=false)(M:tk q t.p ⟨#[46]⟩=false/\u=t\/tk q t.p ⟨#[46]⟩=true/\u=aH t)(i:tk q u.p ⟨#[42]⟩=false)(f:Hid (WdB (E q) (k+1) b u)):Calls prog 115 #[pT n] w (yy n q u.p k (gg (E q) u.p) w):=by
 have S:=Z G;have T:=Z H;have L:=h.le;have d0:w.cell? (aD n 0)=some (.string q):=h.b.cell 0;have d1:w.cell? (aD n 1)=some (.int .i64 ((t.p:Nat):Int)):=h.b.cell 1;have e1:((t.p:Nat):Int)<=(q.size:Int):=om;have g:=Z h;have D:Hid ((if tk q t.p ⟨#[46]⟩then t.p+(⟨#[46]⟩:ByteArray).size else t.p)=u.p):=by
  rcases M with⟨e,rfl⟩|⟨e,rfl⟩;.rw[e];exact Z rfl
  rw[e];exact Z rfl
 clear h G H M;go_enter func115,ntmps115;go_wp2_with fail;go_quiet((go_at_call 113;exact Calls.quiet_of_same (iV _ _)));rw[rW,z];have x:Hid (Mk n q t.p b k a c (w.drewN nq)):=⟨g.o.b,g.o.o,g.o.row,g.o.le⟩;have s:Hid (FU n w (w.drewN nq)):=(FU.refl n w).drewN nq;have P:Hid (Er n (w.drewN nq)):=S.o.fu s.o hG;clear g d0 d1 e1;generalize w.drewN nq=w3 at*;go_wp2_with fail;refine mo (mq x.o.qt K ⟨#[46]⟩) λN m=>?_;rw[D.o]at m;clear D;generalize tk q t.p ⟨#[46]⟩=x4 at*;have y:Hid (Mk n q u.p b k a c N):=x.o.step m;have C:Hid (FU n w N):=s.o.trans (FU.px m.f);clear m x s P;go_wp2_with fail;refine(Qk K y.o om i).mono ?_;rintro r p⟨d,o,rfl,p5,v5,A,f5⟩;have W:Hid (gg (E q) (u.p)=⟨[⟨2,sub (E q) (u.p) d,0,0,0,λ_=>false⟩],d⟩):=by show _=_;unfold gg;rw[aa (show¬bt (E q) _=42 from Z0 i),o.eq de]
 have j:bH (E q) u={u with p:=d}:=Da f.o.e0' f.o.e0 (uw T.o f.o.b) o;have hkg:u.p<=d:=o.ge;have B:Hid (m_ (E q) (k+1) (b++([91,39]++sub (E q) (u.p) d++[39,93])) {u with p:=d}):=by have:=f.o.b;rw[j]at this;exact this
 have F:=Z A;have hlq:d<=q.size:=A.le;have J:k+1<=d:=m_.few B.o;have v:Hid (FU n w p):=C.o.trans (FU.of y.o f5);clear A f5 y C o j f;have l:w.heap.size<=p.heap.size:=v.o.size;have R6:=Z (yz (w:=p) l ⟨1,q.extract (u.p) d,0,0,.nilFunc,Y rfl⟩ ⟨2,sub (E q) (u.p) d,0,0,0,λ_=>false⟩ λ_=>I (Y ⟨rfl,rfl,(dD _ _ _).symm⟩));have U:=Z (F.o.alloc (.cells #[.int .i64 1,.string (q.extract (u.p) d),.int .i64 0,.int .i64 0,.nilFunc] 239));have R:=Z (v.o.trans (FU.aN ((Fr.refl (λ_=>False) p).alloc (.cells #[.int .i64 1,.string (q.extract (u.p) d),.int .i64 0,.int .i64 0,.nilFunc] 239)).below));clear F v;go_wp2;go_ret;exact⟨{u with p:=d},1,1,_,_,p5,v5,_,_,_,B.o,by show _<=d;omega,om,rfl,⟨R6.o,rfl,rfl,W.o⟩,U.o,R.o⟩
theorem V7(i:D.defers=[])(h:D.tmps[2]?.getD undef=pT n)(b:V w n #[a,c,m] 128)(g:H (.returned (.agg #[a,c,m])) w):bodyPost prog f87 H .ret D w:=by have d:=b.cell 0;have e:=b.cell 1;have f:=b.cell 2;simp at d e f;refine bodyPost_ret (v:=.agg #[a,c,m]) ?_ i g;simp[results,results87,go_sem,h,d,e,f]
theorem rX{J:Bool}{A:Nat}(hq:q.size<=1000)(h:Mk n q l.p b k a c w)(hn:k<=1000)(hl:b.length<=9000)(T2:tk q l.p ⟨#[46,46]⟩=J)(hd:J=false/\i=l.p/\r=b\/J=true/\i=l.p+2/\r=b++[46,46])(hA:l.p<A)(SS:∀(p' v':Value)(w':World),Mk n q i r k p' v' w'->FU n w w'->Calls prog 115 #[pT n] w' (yy n q A k N w'))(hP:fX (E q) l.p=⟨⟨J,N.v⟩,N.p⟩):Calls prog 87 #[pT n] w (ZZ n q l.p k w):=by
 have HS:=Z SS;have HP:=Z hP;clear hP;have MM:=Z (h.alloc (.cells #[.nilFunc,.nilFunc,.bool false] 128));have B0:=Z (V.new w #[.nilFunc,.nilFunc,.bool false] 128);have FW:Hid (FU n w (w.alloc (.cells #[.nilFunc,.nilFunc,.bool false] 128))):=FU.aN ((Fr.refl (λ_=>False) w).alloc _).below;obtain⟨u,B⟩:∃u,u=w.alloc (.cells #[.nilFunc,.nilFunc,.bool false] 128):=⟨_,rfl⟩;have F0:Hid (FU n u u):=FU.refl _ _;have nV:n<w.heap.size:=h.b.lt;rw[<-B]at MM B0 FW;have HW:=Z B;clear h SS B;go_enter func87,ntmps87;go_wp2_with fail;rw[<-HW.o];refine mo (mq MM.o.qt hq ⟨#[46,46]⟩) λw1 h1=>?_;rw[T2]at h1⊢;have M1:=Z (MM.o.step h1);have F1:Hid (FU n u w1):=F0.o.trans (FU.px h1.f);clear h1 MM F0 T2;go_upto_if 7 with fail;go_cut[]from 8λwc=>∃p2 v2,Mk n q i r k p2 v2 wc/\FU n u wc;case first=>
  rcases hd with⟨rfl,rfl,rfl⟩|⟨rfl,rfl,rfl⟩;.go_wp2;go_meet;exact⟨a,c,M1.o,F1.o⟩
  go_wp2_with fail;refine(n_ M1.o ⟨#[46,46]⟩ (by show b.length+2<=_;omega)).mono ?_;rintro s w2⟨rfl,p2,v2,S,f2⟩;have R:Hid (Mk n q (l.p+2) (b++[46,46]) k p2 v2 w2):=S;have H:=Z (F1.o.trans (FU.of M1.o f2));clear S f2;go_wp2;go_meet;exact⟨p2,v2,R.o,H.o⟩
 case rest=>
 obtain⟨p2,v2,S,f2⟩:=hcut;have R:=Z S;have H:=Z f2;clear S f2 M1 F1 hd;go_wp2_with fail;refine(HS.o _ _ _ R.o (FW.o.trans H.o)).mono ?_;rintro s K⟨t',j,cp,ao,adQ,p3,v3,p,xs,D,hb,hlt,hj,rfl,⟨z,U,T,hR⟩,hM,hF⟩;have P:=Z U;have tq:=Z T;have HR:=Z hR;have hgB:n<wc.heap.size:=R.o.b.lt;have F7:u.heap.size<=wc.heap.size:=H.o.size;have ads:wc.heap.size<=K.heap.size:=hF.size;have BB:=Z hb;have F3:Hid (FU n u K):=H.o.trans hF;have c4:K.cell? (aD n 4)=some (.int .i64 (k:Nat)):=hM.b.cell 4;have fz4:=hM.b.fz 4;have M4:=Z (hM.na (k+j));have e4:((k+j:Nat):Int)=(k:Int)+(j:Int):=om;have f0:Fr (λo=>o=n) K (K.setCell (aD n 4) (.int .i64 ((k+j:Nat):Int))):=(Fr.refl (λo=>o=n) K).setCell (aD n 4) (Y rfl) _;have F4:=Z (F3.o.trans (FU.px f0));have R4:=Z (bQ.fr z f0 λo hk e=>by omega);rw[e4]at M4 F4 R4;clear hb hM hF F3 H R z f0 e4 U T hR;go_wp2_with fail;refine(yx J R4.o P.o tq.o om (by simp[World.setCell];omega)).mono ?_;rintro s w5⟨⟨f1,f2,L,rfl,v,t⟩,C⟩;obtain⟨N1,akA,rfl,_,_⟩:=t.self.t;obtain⟨N2,cap2,rfl,_,_⟩:=t.self.c;have M:=Z v;have XR:=Z t;clear v t;have M5:=Z (M4.o.below C);have F5:=Z (F4.o.trans (FU.aN C));clear C M4 F4 R4;have G:Hid (V w5 w.heap.size #[.nilFunc,.nilFunc,.bool false] 128):=F5.o.blk B0.o de om;have z0:=G.o.cell 0;have z1:=G.o.cell 1;have z2:=G.o.cell 2;have hfz:=G.o.fz;simp at z0 z1 z2;go_wp2;refine V7 rfl rfl (((G.o.set 0 _).set 1 _).set 2 _) ?_;have F:¬KG n v3 w.heap.size:=M5.o.apart G.o de om;have hWs:u.heap.size=w.heap.size+1:=by rw[HW.o];simp
 have nd:∀q,L q->q≠w.heap.size:=λq hq=>by have:=M.o.ge q hq;omega
 have hr:∀{W:World}(x:Sm L w5 W)(m:Nat)(y:Value),Sm L w5 (W.setCell (aD w.heap.size m) y):=λx m y o hk=>(Below.heap_setCell _ _ _ _ (by show o≠w.heap.size;exact nd o hk)).trans (x o hk);have s5:∀(d f g:Value),Sm L w5 (((w5.setCell (aD w.heap.size 0) d).setCell (aD w.heap.size 1) f).setCell (aD w.heap.size 2) g):=λd f g=>hr (hr (hr (λ_ _=>rfl) 0 d) 1 f) 2 g;refine⟨t',k+j,adQ,p3,v3,_,_,⟨J,xs⟩,L,BB.o,om,by show k+j=k+xs.length;rw[P.o],rfl,by rw[HP.o,HR.o],⟨(M.o.keep (s5 _ _ _)).low om,XR.o.keep (s5 _ _ _)⟩,((M5.o.rV F 0 _).rV F 1 _).rV F 2 _,(((FW.o.trans F5.o).AY lr 0 _).AY lr 1 _).AY lr 2 _⟩
theorem V8(h:ar b l 91=true):aO b l [91]=aH l:=by show aK b l 91=aH l;unfold aK;rw[ae h]
theorem lp{t:St}(e:t.e=0)(h:bt b t.p=n):ar b t n=true:=by simp[ar,e,h]
theorem mw{t:St}(h:bt b t.p≠n):ar b t n=false:=by simp[ar,h]
theorem yA{q:ByteArray}{t:St}(e:t.e=0)(c:UInt8)(h:bt (E q) t.p=c.toNat):tk q t.p ⟨#[c]⟩=true:=(tZ q e c).trans (lp e h)
theorem vT{q:ByteArray}{t:St}(e:t.e=0)(c:UInt8)(h:bt (E q) t.p≠c.toNat):tk q t.p ⟨#[c]⟩=false:=(tZ q e c).trans (mw h)
theorem Ga(r:q.size<=1000)(i:bF (E q))(A:Er n w)(m:6<n)(z:m_ (E q) k b l)(S:l.p<q.size)(h:Mk n q l.p b k a c w):Calls prog 87 #[pT n] w (ZZ n q l.p k w):=by
 have U:=m_.few z;have T:=z.len;have g:=z.e0;have D:l.p<(E q).length:=by rw[ak];exact S
 rcases yB i z with e|e|e
 .have L:=lp g e;have N:=vU z L;by_cases G:bt (E q) (l.p+1)=46
  .have u:=DD N (lp (t:=aH l) g G);have B:=Qo e G;have y:∀R,(bt (E q) (l.p+2)=91/\R=zV (E q) (l.p+2))\/(bt (E q) (l.p+2)≠91/\R=gg (E q) (l.p+2))->fX (E q) l.p=⟨⟨true,R.v⟩,R.p⟩:=by grind[fX]
   have j:(b++[46,46]).length<=10000:=by simp;omega
   by_cases v:bt (E q) (l.p+2)=91;.obtain⟨C,F,P⟩:=KX u (lp (t:=aH (aH l)) g v);rw[P]at C;refine rX (A:=l.p+2) r h om om B (I ⟨rfl,rfl,rfl⟩) om (λH J K s f=>?_) (y _ (Y ⟨v,rfl⟩));exact(TB (t:=aH (aH l)) r i (A.fu f m) m s j (yA (t:=aH (aH l)) g 91 v) v F (au i C)).mono λ_ _ x=>x.le (gT _)
   have p:=vT (q:=q) (t:=aH (aH l)) g 91 v;have o:tk q (l.p+2) ⟨#[46]⟩=false:=(tZ q (t:=aH (aH l)) g 46).trans (Qp i u);by_cases t:bt (E q) (l.p+2)=42;.refine rX (A:=l.p+2) r h om om B (I ⟨rfl,rfl,rfl⟩) om (λH J K s f=>?_) (y _ (I ⟨v,rfl⟩));exact Dz (t:=aH (aH l)) r i (A.fu f m) m s j p (Y ⟨o,rfl⟩) (yA (t:=aH (aH l)) g 42 t) ((og (I rfl) u (lp (t:=aH (aH l)) g t)).resolve_right λd=>iM i d)
   refine rX (A:=l.p+2) r h om om B (I ⟨rfl,rfl,rfl⟩) om (λH J K s f=>?_) (y _ (I ⟨v,rfl⟩));exact DC (t:=aH (aH l)) r i (A.fu f m) m s j p (Y ⟨o,rfl⟩) (vT (t:=aH (aH l)) g 42 t) ⟨g,(oh (I ⟨rfl,mw (t:=aH (aH l)) v⟩) u (mw (t:=aH (aH l)) t)).resolve_right λd=>iM i d⟩
  have B:=KV (q:=q) (a:=l.p) (I G);have y:fX (E q) l.p=⟨⟨false,(gg (E q) (l.p+1)).v⟩,(gg (E q) (l.p+1)).p⟩:=by grind[fX]
  refine rX (A:=l.p+1) r h om om B (Y ⟨rfl,rfl,rfl⟩) om (λH J K s f=>?_) y;have j:b.length<=10000:=om;have p:=vT (q:=q) g 91 (by rw[e];decide);have o:=yA (q:=q) g 46 e;by_cases t:bt (E q) (l.p+1)=42;.exact Dz (u:=aH l) r i (A.fu f m) m s j p (I ⟨o,rfl⟩) (yA (t:=aH l) g 42 t) ((og (Y rfl) N (lp (t:=aH l) g t)).resolve_right λd=>iM i d)
  exact DC (u:=aH l) r i (A.fu f m) m s j p (I ⟨o,rfl⟩) (vT (t:=aH l) g 42 t) ⟨g,(oh (Y ⟨rfl,mw (t:=aH l) G⟩) N (mw (t:=aH l) t)).resolve_right λd=>iM i d⟩
 .have M:=lp g e;obtain⟨C,F⟩:=KY z D (mw (by rw[e];decide));rw[V8 M]at C F;have y:fX (E q) l.p=⟨⟨false,(zV (E q) l.p).v⟩,(zV (E q) l.p).p⟩:=by unfold fX;rw[ae e]
  refine rX (A:=l.p+1) r h om om (KV (Y (by rw[e];decide))) (Y ⟨rfl,rfl,rfl⟩) om (λH J K s f=>?_) y;exact TB r i (A.fu f m) m s om (yA g 91 e) e (F g).1 (au i C)
 have:=rk D;omega
theorem KZ:(prog.info? 128).map (λi=>(i.zero,i.size,i.bytes))=some (some (.agg #[.nilFunc,.nilFunc,.bool false]),3,24):=by kernel_rfl
structure GV where
 f:Fn
 x:Array Value
 y:Array Value
 f':Fn
 x':Array Value
 y':Array Value
 b:Bool
def GV.cells(s:GV):List Value:=[.func s.f s.x s.y,.func s.f' s.x' s.y',.bool s.b]
theorem GV.one(s:GV):∀u∈s.cells,u.oneCell'=true:=by intro u a;simp[GV.cells]at a;rcases a with rfl|rfl|rfl<;>rfl
def jH(l:List GV):List Value:=l.flatMap GV.cells
theorem vV(l:List GV):(jH l).length=l.length*3:=by induction l with|nil=>rfl|cons a l b=>simp only[jH,List.flatMap_cons,List.length_append,List.length_cons]at*;rw[b];simp[GV.cells];omega
theorem lS(l:List GV)(i c:Nat)(d:c<3)(h:i<l.length):(jH l)[i*3+c]?=(l[i]).cells[c]?:=by induction l generalizing i with|nil=>cases h|cons a l f=>have e:jH (a::l)=a.cells++jH l:=rfl;have b:a.cells.length=3:=rfl;grind
def lA(l:List GV):Nat:=l.findIdx λs=>s.b
theorem K8{l:List GV}(h:w.ownsRow n 128 3 (.slice L k i) k (jH l))(hj:k<=1000):Calls prog 89 #[.slice L k i] w λr w'=>r=.returned (.int .i64 (lA l:Nat))/\Below w.heap.size w w':=by
 have q:l.length=k:=by have:=h.1;rw[vV]at this;omega
 have H:=Z h;clear h;go_enter func89,ntmps89;go_wp2;go_loopw[3,4,7]λ_ _ d wr=>∃f:Nat,f<=k/\d=.int .i64 f/\(∀m(o:m<l.length),m<f->(l[m]).b=false)/\Below w.heap.size w wrλ_ _ d _=>k-(intOf d).toNat;case atStart=>exact⟨0,aT _,rfl,λm _ o=>by omega,(Fr.refl (λ_=>False) w).below⟩
 case round=>
  obtain⟨f,hk,rfl,t,N⟩:=hrel;have y:=Z t;have S:=Z N;clear t N;by_cases hlt:f<k
  .obtain⟨g,R,P,T,A⟩:=H.o.form om;simp only[Value.slice.injEq,true_and]at P;obtain⟨rfl,rfl⟩:=P;have p:∀c:Nat,wr.cell? (aD g c)=w.cell? (aD g c):=λc=>S.o.cell (p:=aD g c) A;have j:∀c:Nat,c<3->wr.cell? (aD g (f*3+c))=(l[f]).cells[c]?:=λc U=>((p _).trans (H.o.cellAt (f*3+c) om)).trans (lS l f c U om);have D:=j 0 de;have F:=j 1 de;have G:=j 2 de;clear j p;have K:Hid (∀b,(l[f]).b=b->b=true->lA l=f):=λb z ht=>by unfold lA;rw[List.findIdx_eq om];exact⟨by rw[z,ht],λm o=>by simpa using y.o m om o⟩
   have M:Hid (∀b,(l[f]).b=b->b=false->∀m(o:m<l.length),m<f+1->(l[m]).b=false):=λb z W m o hmk=>by
    by_cases e:m=f;.subst e;rw[z,W]
    exact y.o m o om
   generalize hs:l[f]=s at*;simp only[GV.cells,List.getElem?_cons_zero,List.getElem?_cons_succ,Nat.add_zero]at D F G;have u:=Z (K.o s.b rfl);have v:=Z (M.o s.b rfl);clear K M hs;generalize s.b=sb at*;have J:=Z (((Fr.aN (K:=λ_=>False) S.o).alloc (.cells #[.func s.f s.x s.y,.func s.f' s.x' s.y',.bool sb] 128)).below);cases sb
   .go_wp2;go_roundw;case rel=>exact⟨f+1,om,by go_num,v.o (by trivial),J.o⟩
    case measure=>simp[intOf];omega
   go_wp2;go_ret;have B:lA l=f:=u.o (by trivial);exact⟨by rw[B];rfl,J.o⟩
  have C:f=k:=om;subst C;have e:lA l=f:=by unfold lA;rw[<-q];exact List.findIdx_eq_length.2 λx hx=>by obtain⟨m,o,rfl⟩:=List.getElem_of_mem hx;simpa using y.o m o om
  have a:=Z e;clear e;go_wp2;go_ret;exact⟨by rw[a.o];rfl,S.o⟩
def Fp(w:World)(s:GV)(x:Sg):Prop:=s.b=x.late/\SgV w (.func s.f s.x s.y) (.func s.f' s.x' s.y') x
def Gb(B:Nat)(b:List Sg)(D:Nat->Prop)(a:Value)(l:List GV)(w:World):Prop:=bQ 128 3 GV.cells B (λi w s=>∀x,b[i]?=some x->Fp w s x) D a l w
def GwL(q:ByteArray)(B a j n:Nat)(c:Value)(d:World):Prop:=∃l b D,Gb B b D c l d/\b.length=j/\l.length=j/\cD b=n/\∀m,jh (E q) (m+j) 1 []=jh (E q) m a b
variable{K:List Sg}{J:List GV}
theorem DE(h:Gb k K d a J w)(f:FU n w v)(m:n<k):Gb k K d a J v:=bQ.sm h λb e=>by have c:=bQ.JL h de;obtain⟨g,T,i,j,l⟩:=c.ty b e;exact f.typ b g T i (by have:=c.ge b e;omega) l j
structure PlL(g:Nat)(q:ByteArray)(w0:World)(B:Nat)(t:St)(n:Nat)(txt:List UInt8)(p v:Value)(j:Nat)(sv:Value)(wr:World):Prop where
 m:Mk g q t.p txt n p v wr
 bd:m_ (E q) n txt t
 fu:FU g w0 wr
 row:GwL q B t.p j n sv wr
 le:j<=t.p
 pos:0<t.p
theorem FU.grown{w':World}{c:Option Nat}(h:FU n w v)(a:v.grownBy w' c)(m:∀k,c=some k->w.heap.size<=k):FU n w w':=by have d:∀k,k<w.heap.size->w'.heap[k]?=v.heap[k]?:=λk b=>a.block k (aI b h.size) (λe=>by have:=m k e.symm;omega);exact⟨a.os.trans h.os,a.tape.trans h.tape,a.output.trans h.output,az h.size a.size,λk b g=>(d k g).trans (h.low k b g),λk i T j b l f=>(d k (bo f)).trans (h.typ k i T j b l f)⟩
theorem Mk.grown{w':World}(h:Mk n q k b i a c w)(o:w.ownsRow t B S m U g)(u:B≠5)(C:n<t)(l:w.grownBy w' m.ownBlock):Mk n q k b i a c w':=by
 have e:∀d,m.ownBlock=some d->n≠d/\c.ownBlock≠some d:=λd e=>by
  have v:=(o.lt d e).1;refine⟨om,λf=>?_⟩;rcases o.2 with⟨x,_⟩|⟨p,r,j,z,_,A,_⟩;.rw[x]at e;cases e
  rw[z]at e;have s:p=d:=cI e;subst s;exact(h.apart (b:=p) (cs:=j) (T:=B) A u om) (I f)
 refine⟨(l.block n h.b.lt λf=>(e n f.symm).1 rfl).trans h.b,h.o,h.row.kept l ?_,h.le⟩;cases y:c.ownBlock with|none=>exact Y rfl|some d=>exact I λf=>(e d f.symm).2 y
def gW(w:World)(b:Nat)(c:ByteArray)(a:List Sg):Prop:=∃sv l D,V w b #[.string c,sv,.int .i64 (ay a:Nat)] 88/\Gb 0 a D sv l w/\a.length=l.length/\a.length<=1000
theorem head_eq{w:World}(c:K.length=J.length)(h:∀i(a:i<J.length)(b:i<K.length),Fp w J[i] K[i]):lA J=ay K:=by grind(splits:=30)[dz.late,Sg.late,Fp,lA,ay]
theorem V9(hq:q.size<=1000)(hf:bF (E q))(P:Er n w)(hG:6<n)(h:Mk n q 0 [] 0 a c w):Calls prog 63 #[pT n] w λr w'=>∃(b:Nat)(tt:ByteArray)(D:Nat->Prop),r=.returned (pT b)/\(w.heap.size<=b/\Ft D w.heap.size w'/\fg D w' λw=>gW w b tt (cK (E q)))/\n<b/\E tt=T (E q) (q.size+1)/\w'.cell? (aD n 4)=some (.int .i64 (C (E q) (q.size+1):Nat))/\FU n w w'/\cD (cK (E q))=C (E q) (q.size+1):=by
 obtain⟨i0,hi,hz0,hz1,eE⟩:=info_parts KZ;have HI:=Z hi;have iK:=Z hz0;have iz:=Z hz1;have ja:=Z eE;have HE:=Z P;have HF:=Z hf;have MM:=Z h;have nV:n<w.heap.size:=h.b.lt;have b0:=(yC (E q)).resolve_right λb=>iM hf b;obtain⟨T0,e0⟩:=iJ (q:=q) (t:=⟨0,0,0⟩) (sign:=⟨#[36]⟩) b0.e0;rw[show[36]=nb ⟨#[36]⟩from rfl,e0]at b0;have BB:Hid (m_ (E q) 0 [36] ⟨1,0,0⟩):=b0;clear h hf P hi hz0 hz1 eE b0 e0;go_enter func63,ntmps63;go_wp2_with fail;refine mo (dL MM.o.qt hq _ T0 1 rfl) λw1 h1=>?_;have M1:=Z (MM.o.step h1);have F1:Hid (FU n w w1):=FU.px h1.f;clear h1 MM;go_wp2_with fail;refine(n_ M1.o ⟨#[36]⟩ (by show 0+1<=_;omega)).mono ?_;rintro r w2⟨rfl,p2,v2,h2,f2⟩;have S:Hid (PlL n q w w.heap.size ⟨1,0,0⟩ 0 [36] p2 v2 0 (.slice none 0 0) w2):=⟨h2,BB.o,F1.o.trans (FU.of M1.o f2),⟨[],[],_,bQ.nil _ _ _ _ _ _,rfl,rfl,rfl,λ_=>rfl⟩,aT _,Nat.one_pos⟩;clear h2 f2 M1 F1 BB;go_wp2;go_loopw[3]λsv wr=>∃(t:St)(d:Nat)(z:List UInt8)(a c:Value)(j:Nat),PlL n q w w.heap.size t d z a c j sv wrλ_ wr=>q.size-mA n wr;case atStart=>exact⟨_,_,_,_,_,_,S.o⟩
 case round=>
  clear S;obtain⟨t,d,z,p3,v3,j,hS⟩:=hrel;have S:=Z hS;have hjt:=hS.le;have htq:t.p<=q.size:=hS.m.le;have HM:=Z hS.m.qt.mA;obtain⟨l,xs,D,H,hxl,tD,Qq,hps⟩:=hS.row;have XY:=Z Qq;obtain⟨L,M,Dv⟩:=X H.o;rw[tD]at Dv;subst Dv;have R:=Z H;have B:=Z hxl;have o:=Z tD;have AT:=Z hps;have d0:wr.cell? (aD n 0)=some (.string q):=hS.m.b.cell 0;have d1:wr.cell? (aD n 1)=some (.int .i64 (t.p:Nat)):=hS.m.b.cell 1;clear hS H hxl tD hps Qq;by_cases hlt:t.p<q.size
  .have dd:decide ((t.p:Int)<(q.size:Int))=true:=by simp;omega
   go_wp2;go_quiet(fail);have K:Hid (Mk n q t.p z d p3 v3 (wr.drewN nq)):=⟨S.o.m.b,S.o.m.o,S.o.m.row,S.o.m.le⟩;have F3:Hid (FU n w (wr.drewN nq)):=S.o.fu.drewN nq;have R3:Hid (Gb w.heap.size xs D (.slice L j M) l (wr.drewN nq)):=bQ.fr R.o (K:=λ_=>False) ((Fr.refl _ wr).drewN nq) λ_ _ x=>x;have E3:Hid (Er n (wr.drewN nq)):=HE.o.fu F3.o hG;clear d0 d1 R;generalize wr.drewN nq=w3 at*;go_wp2_with fail;refine(Ga hq HF.o E3.o hG S.o.bd hlt K.o).mono ?_;rintro r W⟨t4,n4,adS,p4,v4,f4,f5,x,D4,hb4,akB,hn4,rfl,hpg,⟨Z3,A⟩,hm4,U⟩;have HN4:=Z hn4;clear hn4;obtain⟨N4,p,rfl,_,_⟩:=A.self.t;obtain⟨N5,v,rfl,_,_⟩:=A.self.c;have Z4:=Z Z3;have OK4:=Z A;have HPG:=Z hpg;have R4:=Z (DE R3.o U nV);have adU:w.heap.size<=w3.heap.size:=F3.o.size;have g:W.ownsRow w.heap.size 128 3 (.slice L j M) j (jH l):=o.o▸R4.o.o;have hra:Hid (∀k,(.slice L j M:Value).ownBlock=some k->k<w3.heap.size):=λk hk=>(R3.o.o.lt k hk).2;obtain⟨b5,Tt⟩:∃b5,b5=x.late:=⟨_,rfl⟩;rw[<-Tt];have HB5:=Z Tt;have hB4:w.heap.size<=W.heap.size:=az F3.o.size U.size;have M4:=Z hm4;have B4:=Z hb4;have F4:=Z (F3.o.trans U);have SW:=hm4.le;clear hm4 hb4 U K F3 R3 E3 Z3 A hpg Tt;go_wp2_with(at_builtin;refine wpList_append_own_at _ rfl _ _ 86 rfl w.heap.size 128 i0 _ 3 24 underlying86 HI.o iK.o iz.o ja.o rfl de _ _ _ rfl (g.alloc _) (aD W.heap.size 0) 1 1 [.func (.func N4) #[] p,.func (.func N5) #[] v,.bool b5] rfl rfl ?c1 ?c2 ?c3 ?c4 ?c5 ?_);case c1=>intro j u J;match j,J with|0,J=>simp at J;subst J;simp[Addr.add]|1,J=>simp at J;subst J;simp[Addr.add]|2,J=>simp at J;subst J;simp[Addr.add]
   case c2=>exact(GV.mk (.func N4) #[] p (.func N5) #[] v b5).one
   case c3=>unfold maxLen;omega
   case c4=>omega
   case c5=>simp;omega
   intro v' w5 G f _ qm;have RR:GwL q w.heap.size t4.p (j+1) n4 v' w5:=by
    have R5:=bQ.alloc R4.o (.cells #[.func (.func N4) #[] p,.func (.func N5) #[] v,.bool b5] 128);have R6:bQ 128 3 GV.cells w.heap.size (λi w s=>∀y,(xs++[x])[i]?=some y->Fp w s y) D (.slice L j M) l (W.alloc (.cells #[.func (.func N4) #[] p,.func (.func N5) #[] v,.bool b5] 128)):=⟨R5.o,R5.ft,R5.ne,λi hi w' s y P=>R5.ok i hi w' s y (by rw[List.getElem?_append_left (by have:=B.o;have:=o.o;omega)]at P;exact P)⟩;refine⟨l++[⟨.func N4,#[],p,.func N5,#[],v,b5⟩],xs++[x],λk=>D k\/D4 k,?_,by simp[B.o],by simp[o.o],by rw[HN4.o,<-XY.o];simp[cD],λm=>?_⟩;.refine R6.push (A:=w3.heap.size) hra.o adU (Z4.o.keep (Sm.alloc Z4.o _)) (λw' s y P=>?_) (by rw[o.o];exact G) f (by simpa using qm);rw[o.o,<-B.o]at P;simp at P;subst P;exact⟨HB5.o,(OK4.o.keep (Sm.alloc Z4.o _)) w' s⟩
    rw[show m+(j+1)=(m+1)+j by omega,AT.o,jh,ae (by rw[ak];exact hlt),HPG.o]
   have S2:Hid (PlL n q w w.heap.size t4 n4 adS p4 v4 (j+1) v' w5):=⟨(M4.o.alloc _).grown (g.alloc _) de nV f,B4.o,(F4.o.trans (FU.aN ((Fr.refl (λ_=>False) W).alloc _).below)).grown f λk hk=>(g.lt k hk).1,RR,om,om⟩;clear RR;clear G f g;go_wp2;go_roundw;case rel=>exact⟨_,_,_,_,_,_,S2.o⟩
   case measure=>have m1:mA n wr=t.p:=HM.o;have m2:mA n w5=t4.p:=S2.o.m.qt.mA;rw[m1,m2];omega
  have dd:decide ((t.p:Int)<(q.size:Int))=false:=by simp;omega
  have F:=DF S.o.bd (by rw[ak];omega);rw[ak]at F;have HX:=Z F;clear F;go_wp2;go_quiet(fail);have K:Hid (Mk n q t.p z d p3 v3 (wr.drewN nq)):=⟨S.o.m.b,S.o.m.o,S.o.m.row,S.o.m.le⟩;have R3:Hid (Gb w.heap.size xs D (.slice L j M) l (wr.drewN nq)):=bQ.fr R.o (K:=λ_=>False) ((Fr.refl _ wr).drewN nq) λ_ _ x=>x;have F3:Hid (FU n w (wr.drewN nq)):=S.o.fu.drewN nq;clear d0 d1 R;generalize wr.drewN nq=w3 at*;go_wp2_with fail;refine mo (K_ K.o (S.o.bd.ne S.o.pos)) λW f4=>?_;have K':¬v3.ownBlock=some n:=λe=>by have:=(K.o.row.lt n e).1;omega
  have B4:Hid (V W n (Qr q t.p p3 v3 d) 141):=K.o.b.fr f4 K';have F4:Hid (FU n w W):=F3.o.trans (FU.of K.o (f4.mono λ_ _ e=>I e));have Jy:n<W.heap.size:=B4.o.lt;have R4:=Z (DE R3.o (FU.of K.o (f4.mono λ_ _ e=>I e)) nV);clear f4 K F3 K' R3;go_wp2_with fail;refine mo (K8 (l:=l) (o.o▸R4.o.o) om) λw6 N=>?_;have B6:=Z (B4.o.fr (Fr.aN (K:=λ_=>False) N) id);have F6:=Z (F4.o.trans (FU.aN N));have R6:=Z (bQ.below R4.o N);have hg6:n<w6.heap.size:=B6.o.lt;clear N B4 F4 R4;go_wp2;go_ret;have hpq:cK (E q)=xs:=by unfold cK;have:=AT.o (q.size+1-j);rw[show q.size+1-j+j=q.size+1 by omega]at this;rw[ak,this,show q.size+1-j=(q.size-j)+1 by omega,jh,aa (by rw[ak];exact hlt)]
  have Z5:w.heap.size<=w6.heap.size:=F6.o.size;have wX:lA l=ay xs:=head_eq (w:=w6) (by rw[B.o,o.o]) λi h1 h2=>R6.o.ok i h1 w6 (λ_ _=>rfl) _ (fB h2);have ft:=bQ.JL R6.o de;have ftn:=(ft.keep (Sm.alloc ft (.cells #[.string ⟨z.toArray⟩,.slice L j M,.int .i64 (lA l:Nat)] 88))).or (Ft.one (V.new w6 #[.string ⟨z.toArray⟩,.slice L j M,.int .i64 (lA l:Nat)] 88) de Z5);refine⟨w6.heap.size,⟨z.toArray⟩,_,rfl,⟨Z5,ftn,λw'' s=>?_⟩,hg6,?_,?_,F6.o.trans (FU.aN ((Fr.refl (λ_=>False) w6).alloc _).below),by rw[hpq,HX.o.2.1];exact XY.o⟩;.rw[hpq];refine⟨.slice L j M,l,D,?_,bQ.low (bQ.sm R6.o ((Sm.alloc ft _).trans (s.less λ_=>Y))) zl,by rw[B.o,o.o],by rw[B.o];omega⟩;have:=(V.new w6 #[.string ⟨z.toArray⟩,.slice L j M,.int .i64 (lA l:Nat)] 88).sm s (I rfl);grind
  .rw[HX.o.2.2];simp[E]
  rw[HX.o.2.1];exact(B6.o.alloc _).cell 4
theorem yd(h:120<q.size)(a:q.size<=maxLen):Calls prog 40 #[.string q] w λr b=>r=.returned (.tuple #[.pointer none,.int .i64 1,.int .i64 0])/\b=w:=by unfold maxLen at a;have c:(120:Int)<(q.size:Int):=om;go_enter func40,ntmps40;go_wp2;go_ret3;exact⟨rfl,rfl⟩
structure EV(w:World):Prop where v:∃ev,w.cell? (aD 6 0)=some ev/\(ev=.nilIface\/∃te pe,ev=.iface te pe)lt:6<w.heap.size
theorem EV.keep{w w':World}(h:EV w)(f:Q w w'):EV w':=by obtain⟨⟨b,c,d⟩,a⟩:=h;exact⟨⟨b,(f.cell (p:=aD 6 0) a id).trans c,d⟩,aI a f.size⟩
theorem EV.er(h:EV w)(a:6<n):Er n w:=⟨h.v,om,h.lt⟩
theorem FU.keeps(k:Q w v)(h:FU n v u)(b:w.heap.size<=n):Q w u:=⟨h.os.trans k.os,h.tape.trans k.tape,h.output.trans k.output,az k.size h.size,λi a _=>(h.low i om (aI a k.size)).trans (k.block i a id)⟩
def Z6(s:ByteArray)(w:World)(r:Ending)(a:World):Prop:=Q w a/\((∃e p:Nat,Ig (E s) e p/\r=.returned (.tuple #[.pointer none,.int .i64 e,.int .i64 p]))\/(Fin (E s)/\10<C (E s) (s.size+1)/\r=.returned (.tuple #[.pointer none,.int .i64 1,.int .i64 0]))\/(Fin (E s)/\C (E s) (s.size+1)<=10/\∃(b:Nat)(c:ByteArray)(D:Nat->Prop),r=.returned (.tuple #[pT b,.int .i64 0,.int .i64 0])/\(Ft D w.heap.size a/\fg D a λw=>gW w b c (cK (E s)))/\E c=T (E s) (s.size+1)/\cD (cK (E s))<=10))
theorem VA(h:q.size<=120)(N:EV w):Calls prog 40 #[.string q] w (Z6 q w):=by
 have hd:¬(120:Int)<(q.size:Int):=om;have J:=Z N;clear N;go_enter func40,ntmps40;go_wp2_with fail;refine(Qs h).mono ?_;rintro r w1⟨R,hr⟩;have B:=Z R;clear R;rcases hr with⟨e,p,i,rfl⟩|⟨P,rfl⟩
 .have hne:e≠0:=by have:=i.st;omega
  have W:((e:Int)!=0)=true:=by rw[bne_iff_ne];omega
  have U:=Z i;clear i;go_wp2;go_ret3;exact⟨B.o,Y ⟨e,p,U.o,rfl⟩⟩
 have A:=Z P;clear P;go_wp2_with fail;refine mo (Qi q w1 om) λu m=>?_;have v:Hid (Q w u):=B.o.trans (Fr.aN m);clear m B;have L:Hid (Mk u.heap.size q 0 [] 0 (.pointer none) (.slice none 0 0) (u.alloc (.cells #[.string q,.int .i64 0,.pointer none,.slice none 0 0,.int .i64 0] 141))):=⟨V.new _ _ _,Y rfl,World.ownsRow_nil _ _ _ _,aT _⟩;have x:=Z (v.o.alloc (.cells #[.string q,.int .i64 0,.pointer none,.slice none 0 0,.int .i64 0] 141));have M:6<u.heap.size:=aI J.o.lt v.o.size;have H:=Z ((J.o.keep x.o).er M);have s:w.heap.size<=u.heap.size:=v.o.size;clear v;go_wp2_with fail;refine(V9 om A.o H.o M L.o).mono ?_;rintro r w4⟨b,tt,S,rfl,⟨_,c,d⟩,hgb,t,F,o,f⟩;have j:=Z f;clear f;have y:=Z (c.low (show w.heap.size<=_ from x.o.size));have D:=Z d;have K:Hid (Q w w4):=o.keeps x.o s;have T:=Z t;have G:=Qn (E q) (q.size+1);obtain⟨k,g⟩:∃k,k=C (E q) (q.size+1):=⟨_,rfl⟩;rw[<-g]at F G;have z:=Z g;clear c d t o x H L g;by_cases l:10<k;.have a:=Z l;have n:(10:Int)<(k:Int):=om;go_wp2;go_ret3;exact⟨K.o,I (Y ⟨A.o,by rw[<-z.o];exact a.o,rfl⟩)⟩
 have a:=Z l;have n:¬(10:Int)<(k:Int):=om;go_wp2;go_ret3;exact⟨K.o,I (I ⟨A.o,by rw[<-z.o];have:=a.o;omega,b,tt,S,rfl,⟨y.o,D.o⟩,T.o,by rw[j.o,<-z.o];have:=a.o;omega⟩)⟩
