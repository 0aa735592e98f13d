import Derived.Test.YtcbadebjpogmlaaGreatDoorVvPrgG
set_option maxHeartbeats 1000000
set_option maxRecDepth 100000
namespace Go.Proofs.YtcbadebjpogmlaaGreatDoor
open Go.RowKit Tr Go.Proofs.Tryz
variable{w:World}{d:Nat->Nat}{a i j t:Value}{n k o:Nat}
theorem Xq{f:Tv}(h:PC w d f a n i){b:Nat}{c:Kt}(m:V w b (kF (dw c) t 0 j) 130)(s:ru c):Calls prog 294 #[(pT (d f.d.af)),pT b] w λr y=>r=.returned (.bool (fS c (some f)))/\∃k,y=w.drewN k:=by
 have e:fS c (some f)=_:=QB h.d s;rw[e];have c0:w.cell? (aD (d f.d.af) 0)=some (.int .i64 (gr f.d:Nat)):=h.b.cell 0;have c3:w.cell? (aD (d f.d.af) 3)=some (.int .i64 f.d.n):=h.b.cell 3;have c4:w.cell? (aD (d f.d.af) 4)=some (.string (bR (jX f.d))):=h.b.cell 4;have d0:w.cell? (aD b 0)=some (.int .i64 (gr (dw c):Nat)):=m.cell 0;have d3:w.cell? (aD b 3)=some (.int .i64 c.n):=m.cell 3;have d4:w.cell? (aD b 4)=some (.string (bR (jX (dw c)))):=m.cell 4;have g:Hid (Go.Op.bytesLess (bR (jX f.d)).toList (bR (jX (dw c))).toList=ij (jX f.d) (jX (dw c))):=by show _=_;rw[ou,Lib.toList_data,Lib.toList_data];rfl
 clear h m s e;generalize gr f.d=o at*;generalize gr (dw c)=u at*;generalize x:ij (jX f.d) (jX (dw c))=z at*;generalize jX f.d=F at*;generalize jX (dw c)=G at*;generalize f.d.n=C at*;generalize c.n=D at*;clear x;by_cases l:o=u
 .subst l;rw[ae rfl];by_cases p:o=3;.subst p;clear g c4 d4;rw[ae rfl];go_enter func294,ntmps294;go_wp2;go_quiet(fail);go_wp2;go_quiet(fail);go_wp2;go_ret;exact⟨rfl,_,by rw[fi]⟩
  rw[aa p];have A:=yY p;by_cases q:o=4;.subst q;rw[ae rfl,<-g.o];clear g;go_enter func294,ntmps294;go_wp2;go_quiet(fail);go_wp2;go_quiet(fail);go_wp2;go_ret;exact⟨rfl,_,by rw[fi]⟩
  rw[aa q];have B:=yY q;clear g c4 d4 c3 d3;go_enter func294,ntmps294;go_wp2;go_quiet(fail);go_wp2;go_ret;exact⟨rfl,_,rfl⟩
 rw[aa l];have v:((o:Int)!=(u:Int))=true:=by rw[bne_iff_ne];omega
 clear g c4 d4 c3 d3;go_enter func294,ntmps294;go_wp2;go_quiet(fail);go_wp2;go_ret;exact⟨rfl,_,rfl⟩
def dt(w:World)(f:Value)(g:Tv->Bool):Prop:=∃N b,f=.func (.func N) #[] b/\(∀a w,(callFunc N a).run prog w=.ok (.enter N a) w)/\∀(A:Nat->Nat)(D:Nat->Prop)(n:Nat)(c:Value)(d:Nat)(t:Tv),PT w A D n c d t->∀q,Calls prog N (#[(pT (A t.d.af))]++b) (w.drewN q) λr e=>r=.returned (.bool (g t))/\∃k,e=w.drewN k
theorem Zy{i:Tv->Bool}(h:dt w a i)(f:V w n #[a] 237):dt w (.func (.func 281) #[] #[pT n]) λt=>!(i t):=by obtain⟨N,c,rfl,l,e⟩:=h;refine⟨_,_,rfl,λ_ _=>rfl,λA D b d j t g q=>?_⟩;have c0:w.cell? (aD n 0)=some (.func (.func N) #[] c):=f.cell 0;have H:=Z (e A D b d j t g);clear e f g;show Calls prog 281 #[(pT (A t.d.af)),pT n] _ _;go_enter func281,ntmps281;go_wp2_with fail;refine(H.o _).mono ?_;rintro r m⟨rfl,k,rfl⟩;go_wp2;go_ret;exact⟨rfl,k,rfl⟩
variable{f:List Value}{m:List (Tv->Bool)}
theorem Zz(z:w.ownsRow n 237 1 a f.length f)(hj:f.length<=1000)(B:m.length=f.length)(h:∀i(h1:i<f.length)(h2:i<m.length),dt w f[i] m[i])(P:V w k #[a] 300):dt w (.func (.func 267) #[] #[pT k]) λt=>m.any λp=>p t:=by
 refine⟨_,_,rfl,λ_ _=>rfl,λA D d G ix t S q=>?_⟩;have c0:w.cell? (aD k 0)=some a:=P.cell 0;have U:=Z h;have HT:=Z S;obtain⟨j,o⟩:∃j,j=f.length:=⟨_,rfl⟩;rw[<-o]at hj z B;obtain⟨v0,MW,rfl⟩:=X z;have K:=Z z;have W:=Z o;have J:=Z B;clear h P S z o B;show Calls prog 267 #[(pT (A t.d.af)),pT k] _ _;go_enter func267,ntmps267;go_wp2;go_loopw[5,8]λ_ i wr=>∃b q:Nat,b<=j/\i=.int .i64 b/\(∀c(v:c<m.length),c<b->m[c] t=false)/\wr=w.drewN qλ_ i _=>j-(intOf i).toNat;case atStart=>exact⟨0,q,aT _,rfl,λ_ _ h=>absurd h (Nat.not_lt_zero _),rfl⟩
 case round=>
  obtain⟨b,q,hk,rfl,y,rfl⟩:=hrel;have L:=Z y;clear y;by_cases hlt:b<j
  .have s:b<f.length:=by have:=W.o;omega
   have u:b<m.length:=by have:=J.o;omega
   obtain⟨g,cap,T,NK,nP⟩:=K.o.form om;simp only[Value.slice.injEq,true_and]at T;obtain⟨rfl,rfl⟩:=T;have l:w.cell? (aD g b)=some f[b]:=(K.o.cellAt b om).trans (fB s);obtain⟨N,cp,R,hE,M⟩:=U.o b s u;rw[R]at l;have H:=Z (M A D d G ix t HT.o);have HY:Hid (m[b] t=true->m.any (λp=>p t)=true):=λe=>List.any_eq_true.2 ⟨_,bP u,e⟩;have HN:Hid (m[b] t=false->∀c(v:c<m.length),c<b+1->m[c] t=false):=λe c v hmk=>by
    by_cases x:c=b;.subst x;exact e
    exact L.o c v om
   clear M R;generalize m[b] t=bb at*;cases bb
   .go_wp2_with fail;refine(H.o _).mono ?_;rintro r w1⟨rfl,F,rfl⟩;go_wp2;go_roundw;case rel=>exact⟨b+1,F,om,by go_num,HN.o (by trivial),rfl⟩
    case measure=>simp[intOf];omega
   go_wp2_with fail;refine(H.o _).mono ?_;rintro r w1⟨rfl,F,rfl⟩;go_wp2;go_ret;exact⟨by rw[HY.o (by trivial)];rfl,F,rfl⟩
  have HR:Hid (m.any (λp=>p t)=false):=by show _=_;rw[List.any_eq_false];intro p C;obtain⟨c,v,rfl⟩:=List.getElem_of_mem C;rw[L.o c v (by have:=J.o;omega)];decide
  go_wp2;go_ret;exact⟨by rw[HR.o];rfl,q,rfl⟩
theorem VO(z:w.ownsRow n 237 1 a f.length f)(hj:f.length<=1000)(B:m.length=f.length)(h:∀i(h1:i<f.length)(h2:i<m.length),dt w f[i] m[i])(P:V w k #[a] 300):dt w (.func (.func 278) #[] #[pT k]) λt=>m.all λp=>p t:=by
 refine⟨_,_,rfl,λ_ _=>rfl,λA D d G ix t S q=>?_⟩;have c0:w.cell? (aD k 0)=some a:=P.cell 0;have U:=Z h;have HT:=Z S;obtain⟨j,o⟩:∃j,j=f.length:=⟨_,rfl⟩;rw[<-o]at hj z B;obtain⟨v0,MW,rfl⟩:=X z;have K:=Z z;have W:=Z o;have J:=Z B;clear h P S z o B;show Calls prog 278 #[(pT (A t.d.af)),pT k] _ _;go_enter func278,ntmps278;go_wp2;go_loopw[5,8]λ_ i wr=>∃b q:Nat,b<=j/\i=.int .i64 b/\(∀c(v:c<m.length),c<b->m[c] t=true)/\wr=w.drewN qλ_ i _=>j-(intOf i).toNat;case atStart=>exact⟨0,q,aT _,rfl,λ_ _ h=>absurd h (Nat.not_lt_zero _),rfl⟩
 case round=>
  obtain⟨b,q,hk,rfl,y,rfl⟩:=hrel;have L:=Z y;clear y;by_cases hlt:b<j
  .have s:b<f.length:=by have:=W.o;omega
   have u:b<m.length:=by have:=J.o;omega
   obtain⟨g,cap,T,NK,nP⟩:=K.o.form om;simp only[Value.slice.injEq,true_and]at T;obtain⟨rfl,rfl⟩:=T;have l:w.cell? (aD g b)=some f[b]:=(K.o.cellAt b om).trans (fB s);obtain⟨N,cp,R,hE,M⟩:=U.o b s u;rw[R]at l;have H:=Z (M A D d G ix t HT.o);have HY:Hid (m[b] t=false->m.all (λp=>p t)=false):=λe=>by rw[Bool.eq_false_iff];intro x;rw[List.all_eq_true]at x;have:=x _ (bP u);rw[e]at this;cases this
   have HN:Hid (m[b] t=true->∀c(v:c<m.length),c<b+1->m[c] t=true):=λe c v hmk=>by
    by_cases x:c=b;.subst x;exact e
    exact L.o c v om
   clear M R;generalize m[b] t=bb at*;cases bb;.go_wp2_with fail;refine(H.o _).mono ?_;rintro r w1⟨rfl,F,rfl⟩;go_wp2;go_ret;exact⟨by rw[HY.o (by trivial)];rfl,F,rfl⟩
   go_wp2_with fail;refine(H.o _).mono ?_;rintro r w1⟨rfl,F,rfl⟩;go_wp2;go_roundw;case rel=>exact⟨b+1,F,om,by go_num,HN.o (by trivial),rfl⟩
   case measure=>simp[intOf];omega
  have HR:Hid (m.all (λp=>p t)=true):=by show _=_;rw[List.all_eq_true];intro p C;obtain⟨c,v,rfl⟩:=List.getElem_of_mem C;exact L.o c v (by have:=J.o;omega)
  go_wp2;go_ret;exact⟨by rw[HR.o];rfl,q,rfl⟩
def j2(w:World)(f:Value)(e:gI):Prop:=∃N b,f=.func (.func N) #[] b/\(∀a w,(callFunc N a).run prog w=.ok (.enter N a) w)/\∀(A:Nat->Nat)(D:Nat->Prop)(n:Nat)(c:Value)(d:Nat)(t:Tv),PT w A D n c d t->∀q,Calls prog N (#[(pT (A t.d.af))]++b) (w.drewN q) λr g=>r=.returned (jo A (bj t e t.ws.length))/\∃k,g=w.drewN k
def j3(w:World)(f:Value)(l:List gI):Prop:=∃N b,f=.func (.func N) #[] b/\(∀a w,(callFunc N a).run prog w=.ok (.enter N a) w)/\∀(A:Nat->Nat)(D:Nat->Prop)(n:Nat)(c:Value)(d:Nat)(t:Tv),PT w A D n c d t->∀q,Calls prog N (#[(pT (A t.d.af))]++b) (w.drewN q) λr e=>r=.returned (jo A (aY t l))/\∃k,e=w.drewN k
variable{b r:Tv}
theorem Sz{l:List Tv}{n:Int}(h:idx l n=some b):b∈l:=by grind[idx]
variable{p:gI}
theorem Xr(h:bj b p b.ws.length=some r):r∈b.ws:=by grind[Sz,bj]
variable{g:Nat->Prop}
theorem ER(h:PT w d g n a k b)(j:bj b p b.ws.length=some r):∃l c e,PT w d g l c e r:=by obtain⟨i,f,rfl⟩:=List.getElem_of_mem (Xr j);exact⟨_,_,_,h.Bt f⟩
theorem wU:∀(l:List gI){n:Nat}{a:Value}{i:Nat}{t:Tv},PT w d g n a i t->aY t l=some b->∃k c f,PT w d g k c f b|[],n,a,i,t,h,e=>by cases e;exact⟨n,a,i,h⟩|o::l,n,a,i,t,h,e=>by unfold aY at e;cases j:bj t o t.ws.length with|none=>rw[j]at e;cases e|some v=>rw[j]at e;obtain⟨k,c,f,m⟩:=ER h j;exact wU l m e
theorem td:∀(l r:List gI)(t:Tv),aY t (l++r)=(aY t l).bind λu=>aY u r|[],_,_=>rfl|a::l,r,t=>by show(bj t a t.ws.length).bind _=((bj t a t.ws.length).bind _).bind _;cases bj t a t.ws.length with|none=>rfl|some v=>exact td l r v
variable{c:List gI}
theorem H7(a:n<c.length)(t:Tv):aY t (c.take (n+1))=(aY t (c.take n)).bind λu=>bj u c[n] u.ws.length:=by rw[eC a,td];congr 1;funext u;show(bj u c[n] u.ws.length).bind (λv=>aY v [])=_;cases bj u c[n] u.ws.length<;>rfl
theorem H8(h:aY b (c.take n)=none):aY b c=none:=by have e:=td (c.take n) (c.drop n) b;rw[iU,h]at e;exact e
theorem VQ(J:w.ownsRow n 320 1 a f.length f)(hj:f.length<=1000)(S:c.length=f.length)(h:∀i(h1:i<f.length)(h2:i<c.length),j2 w f[i] c[i])(hb:V w k #[a] 322):j3 w (.func (.func 286) #[] #[pT k]) c:=by
 refine⟨_,_,rfl,λ_ _=>rfl,λA D d l G t ht q=>?_⟩;have c0:w.cell? (aD k 0)=some a:=hb.cell 0;have HH:=Z h;have HT:=Z ht;obtain⟨j,s⟩:∃j,j=f.length:=⟨_,rfl⟩;rw[<-s]at hj J S;obtain⟨v0,MW,rfl⟩:=X J;have HO:=Z J;have HJ:=Z s;have W:=Z S;clear h hb ht J s S;show Calls prog 286 #[(pT (A t.d.af)),pT k] _ _;go_enter func286,ntmps286;go_wp2;go_loopw[0,5,8]λx _ i wr=>∃(b q d:Nat)(l:Value)(G:Nat)(u:Tv),b<=j/\i=.int .i64 b/\x=(pT (A u.d.af))/\aY t (c.take b)=some u/\PT w A D d l G u/\wr=w.drewN qλ_ _ i _=>j-(intOf i).toNat;case atStart=>exact⟨0,q,d,l,G,t,aT _,rfl,rfl,rfl,HT.o,rfl⟩
 case round=>
  obtain⟨b,q,d,l,G,u,hk,rfl,rfl,z,hp,rfl⟩:=hrel;have LE:=Z z;have HP:=Z hp;clear z hp HT;by_cases hlt:b<j
  .have B:b<f.length:=by have:=HJ.o;omega
   have C:b<c.length:=by have:=W.o;omega
   obtain⟨g,cap,K,NK,nP⟩:=HO.o.form om;simp only[Value.slice.injEq,true_and]at K;obtain⟨rfl,rfl⟩:=K;have p:w.cell? (aD g b)=some f[b]:=(HO.o.cellAt b om).trans (fB B);obtain⟨N,cp,he,hE,hN⟩:=HH.o b B C;rw[he]at p;have H:=Z (hN A D d l G u HP.o);have P:Hid (aY t (c.take (b+1))=bj u c[b] u.ws.length):=by show _=_;rw[H7 C,LE.o];rfl
   have R:Hid (∀v,bj u c[b] u.ws.length=some v->∃U m y,PT w A D U m y v):=λv K=>ER HP.o K;clear hN he LE;generalize bj u c[b] u.ws.length=o at*;cases o with|none=>have M:=Z (H8 P.o);clear P R;go_wp2_with fail;refine(H.o _).mono ?_;rintro r w1⟨rfl,T,rfl⟩;rw[show jo A none=.pointer none from rfl];go_wp2;go_ret;exact⟨by rw[M.o];rfl,T,rfl⟩|some v=>
    obtain⟨U,m,y,F⟩:=R.o v (by trivial);have L:=Z F;clear F R;go_wp2_with fail;refine(H.o _).mono ?_;rintro r w1⟨rfl,T,rfl⟩;rw[show jo A (some v)=(pT (A v.d.af))from rfl];go_wp2;go_roundw;case rel=>exact⟨b+1,T,U,m,y,v,om,by go_num,rfl,P.o,L.o,rfl⟩
    case measure=>simp[intOf];omega
  have M:Hid (aY t c=some u):=by have e:=LE.o;rw[gv (by have:=W.o;omega)]at e;exact e
  go_wp2;go_ret;exact⟨by rw[M.o];rfl,q,rfl⟩
theorem PT.drewN(h:PT w d g n a k b)(q:Nat):PT (w.drewN q) d g n a k b:=PT.keep (w:=w) (w':=w.drewN q) (λ_ _=>rfl) _ _ _ _ h
theorem Ko{b:ByteArray}(d:V w n #[.string b] 9):j2 w (.func (.func 296) #[] #[pT n]) ⟨true,E b,0⟩:=by
 refine⟨_,_,rfl,λ_ _=>rfl,λA D a f h t e q=>?_⟩;have c0:w.cell? (aD n 0)=some (.string b):=d.cell 0;obtain⟨o,c⟩:∃o,o=bj t ⟨true,E b,0⟩ t.ws.length:=⟨_,rfl⟩;have H:Hid (∀q,Calls prog 297 #[(pT (A t.d.af)),.string b] (w.drewN q) λr g=>r=.returned (jo A o)/\∃k,g=(w.drewN q).drewN k):=λq=>by rw[c];exact Lt (e.drewN q) b
 rw[<-c];clear d e c;show Calls prog 296 #[(pT (A t.d.af)),pT n] _ _;go_enter func296,ntmps296;go_wp2_with fail;refine(H.o _).mono ?_;rintro r j⟨rfl,i,rfl⟩;rw[fi];cases o with|none=>rw[show jo A none=.pointer none from rfl];go_wp2;go_ret;exact⟨rfl,_,rfl⟩|some v=>rw[show jo A (some v)=(pT (A v.d.af))from rfl];go_wp2;go_ret;exact⟨rfl,_,rfl⟩
theorem VM(f:V w n #[.int .i64 (k:Nat)] 3):j2 w (.func (.func 302) #[] #[pT n]) ⟨false,[],(k:Int)⟩:=by
 refine⟨_,_,rfl,λ_ _=>rfl,λA D c h j t e q=>?_⟩;have c0:w.cell? (aD n 0)=some (.int .i64 (k:Nat)):=f.cell 0;have g:=Z e;have a:bj t ⟨false,[],(k:Int)⟩ t.ws.length=(if t.d.kind=4 then idx t.ws k else none):=by grind[bj]
 rw[a];obtain⟨o,d⟩:∃o,o=(if t.d.kind=4 then idx t.ws k else none):=⟨_,rfl⟩;have H:Hid (∀q,Calls prog 301 #[(pT (A t.d.af)),.int .i64 (k:Nat)] (w.drewN q) λr i=>r=.returned (jo A o)/\∃b,i=(w.drewN q).drewN b):=λq=>by rw[d];exact uJ (e.drewN q) _
 rw[<-d];clear f e a g d;show Calls prog 302 #[(pT (A t.d.af)),pT n] _ _;go_enter func302,ntmps302;go_wp2_with fail;refine(H.o _).mono ?_;rintro r m⟨rfl,l,rfl⟩;rw[fi];cases o with|none=>rw[show jo A none=.pointer none from rfl];go_wp2;go_ret;exact⟨rfl,_,rfl⟩|some v=>rw[show jo A (some v)=(pT (A v.d.af))from rfl];go_wp2;go_ret;exact⟨rfl,_,rfl⟩
theorem FO(j:0<k/\k<=1000)(g:V w n #[.int .i64 (k:Nat)] 3):j2 w (.func (.func 300) #[] #[pT n]) ⟨false,[],-(k:Int)⟩:=by
 refine⟨_,_,rfl,λ_ _=>rfl,λA D c u F t e q=>?_⟩;have c0:w.cell? (aD n 0)=some (.int .i64 (k:Nat)):=g.cell 0;have h:=Z e;obtain⟨sv,d⟩:=e.pc;have B:w.cell? (aD (A t.d.af) 8)=some sv:=d.b.cell 8;obtain⟨G,x,rfl⟩:=X d.o;have C:=d.l;obtain⟨l,m⟩:=j;have a:bj t ⟨false,[],-(k:Int)⟩ t.ws.length=(if t.d.kind=4 then idx t.ws ((t.ws.length:Int)-(k:Int))else none):=by grind[bj]
 rw[a];obtain⟨o,f⟩:∃o,o=(if t.d.kind=4 then idx t.ws ((t.ws.length:Int)-(k:Int))else none):=⟨_,rfl⟩;have H:Hid (∀W:World,W.heap=w.heap->Calls prog 301 #[(pT (A t.d.af)),.int .i64 ((t.ws.length:Int)-(k:Int))] W λr y=>r=.returned (jo A o)/\∃b,y=W.drewN b):=λW i=>by rw[f];exact uJ (PT.keep (w:=w) (w':=W) λ_ _=>by rw[i] _ _ _ _ e) _
 rw[<-f];have p:IntKind.i64.wrap ((t.ws.length:Int)-(k:Int))=(t.ws.length:Int)-(k:Int):=IntWalk.i64_in _ om;clear g e a d h f;show Calls prog 300 #[(pT (A t.d.af)),pT n] _ _;cases o with|none=>go_enter func300,ntmps300;go_wp2_with fail;go_region_with(go_at_call 301;refine(H.o _ (by rfl)).mono ?_;rintro r z⟨rfl,s,rfl⟩;rw[show jo A none=.pointer none from rfl]);all_goals go_wp2;go_ret;exact⟨rfl,_,rfl⟩|some v=>go_enter func300,ntmps300;go_wp2_with fail;go_region_with(go_at_call 301;refine(H.o _ (by rfl)).mono ?_;rintro r z⟨rfl,s,rfl⟩;rw[show jo A (some v)=(pT (A v.d.af))from rfl]);all_goals go_wp2;go_ret;exact⟨rfl,_,rfl⟩
theorem Qa(h:j3 w a c)(i:V w n #[a] 320):dt w (.func (.func 295) #[] #[pT n]) λt=>(aY t c).isSome:=by obtain⟨N,d,rfl,m,g⟩:=h;refine⟨_,_,rfl,λ_ _=>rfl,λA D b f k t j q=>?_⟩;have c0:w.cell? (aD n 0)=some (.func (.func N) #[] d):=i.cell 0;have H:=Z (g A D b f k t j);clear g i j;show Calls prog 295 #[(pT (A t.d.af)),pT n] _ _;dsimp only;generalize aY t c=o at*;cases o with|none=>go_enter func295,ntmps295;go_wp2_with fail;refine(H.o _).mono ?_;rintro r l⟨rfl,e,rfl⟩;rw[show jo A none=.pointer none from rfl];go_wp2;go_ret;exact⟨rfl,e,rfl⟩|some v=>go_enter func295,ntmps295;go_wp2_with fail;refine(H.o _).mono ?_;rintro r l⟨rfl,e,rfl⟩;rw[show jo A (some v)=(pT (A v.d.af))from rfl];go_wp2;go_ret;exact⟨rfl,e,rfl⟩
variable{l:Kt}
theorem Qb(h:j3 w a c)(L:V w n #[a] 320)(p:V w k #[pT o] 71)(s:V w o (kF (dw l) j 0 i) 130)(M:ru l):dt w (.func (.func 291) #[] #[pT n,pT k]) λt=>ei l (aY t c):=by obtain⟨N,F,rfl,W,K⟩:=h;refine⟨_,_,rfl,λ_ _=>rfl,λA D d J T t x q=>?_⟩;have c0:w.cell? (aD n 0)=some (.func (.func N) #[] F):=L.cell 0;have c1:w.cell? (aD k 0)=some (pT o):=p.cell 0;have H:=Z (K A D d J T t x);have R:=Z x;have y:=Z s;have B:Hid (∀v,aY t c=some v->∃P g m,PT w A D P g m v):=λv S=>wU c x S;clear K L p x s;show Calls prog 291 #[(pT (A t.d.af)),pT n,pT k] _ _;dsimp only;generalize aY t c=e at*;cases e with|none=>clear B;go_enter func291,ntmps291;go_wp2_with fail;refine(H.o _).mono ?_;rintro r U⟨rfl,G,rfl⟩;rw[show jo A none=.pointer none from rfl];go_wp2;go_ret;exact⟨rfl,G,rfl⟩|some v=>obtain⟨P,g,m,u⟩:=B.o v rfl;obtain⟨sv,f⟩:=(u.drewN 0).pc;have z:Hid (∀b,PC (w.drewN b) A v g m sv):=λb=>⟨f.b,aQ f.o λ_ _=>rfl,f.d,f.l⟩;have C:=Z M;clear u B f R M;go_enter func291,ntmps291;go_wp2_with fail;refine(H.o _).mono ?_;rintro r U⟨rfl,G,rfl⟩;rw[show jo A (some v)=(pT (A v.d.af))from rfl];go_wp2_with fail;refine(QC (z.o G) (b:=o) (c:=l) y.o C.o).mono ?_;rintro r w2⟨rfl,k2,rfl⟩;rw[fi];go_wp2;go_ret;exact⟨rfl,_,rfl⟩
theorem VN(h:j3 w a c)(L:V w n #[a] 320)(p:V w k #[pT o] 71)(s:V w o (kF (dw l) j 0 i) 130)(M:ru l):dt w (.func (.func 293) #[] #[pT n,pT k]) λt=>fS l (aY t c):=by obtain⟨N,F,rfl,W,K⟩:=h;refine⟨_,_,rfl,λ_ _=>rfl,λA D d J T t x q=>?_⟩;have c0:w.cell? (aD n 0)=some (.func (.func N) #[] F):=L.cell 0;have c1:w.cell? (aD k 0)=some (pT o):=p.cell 0;have H:=Z (K A D d J T t x);have R:=Z x;have y:=Z s;have B:Hid (∀v,aY t c=some v->∃P g m,PT w A D P g m v):=λv S=>wU c x S;clear K L p x s;show Calls prog 293 #[(pT (A t.d.af)),pT n,pT k] _ _;dsimp only;generalize aY t c=e at*;cases e with|none=>clear B;go_enter func293,ntmps293;go_wp2_with fail;refine(H.o _).mono ?_;rintro r U⟨rfl,G,rfl⟩;rw[show jo A none=.pointer none from rfl];go_wp2;go_ret;exact⟨rfl,G,rfl⟩|some v=>obtain⟨P,g,m,u⟩:=B.o v rfl;obtain⟨sv,f⟩:=(u.drewN 0).pc;have z:Hid (∀b,PC (w.drewN b) A v g m sv):=λb=>⟨f.b,aQ f.o λ_ _=>rfl,f.d,f.l⟩;have C:=Z M;clear u B f R M;go_enter func293,ntmps293;go_wp2_with fail;refine(H.o _).mono ?_;rintro r U⟨rfl,G,rfl⟩;rw[show jo A (some v)=(pT (A v.d.af))from rfl];go_wp2_with fail;refine(Xq (z.o G) (b:=o) (c:=l) y.o C.o).mono ?_;rintro r w2⟨rfl,k2,rfl⟩;rw[fi];go_wp2;go_ret;exact⟨rfl,_,rfl⟩
