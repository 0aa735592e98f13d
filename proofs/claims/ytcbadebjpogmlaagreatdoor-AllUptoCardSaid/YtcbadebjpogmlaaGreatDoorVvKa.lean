import Derived.Test.YtcbadebjpogmlaaGreatDoorVvPrgG
import Derived.Test.YtcbadebjpogmlaaGreatDoorVvSa
set_option maxHeartbeats 1000000
namespace Go.Proofs.YtcbadebjpogmlaaGreatDoor
open Go.RowKit Tr Go.Proofs.Tryz
def Sm(D:Nat->Prop)(w a:World):Prop:=∀k,D k->a.heap[k]?=w.heap[k]?
def fg(D:Nat->Prop)(w:World)(P:World->Prop):Prop:=∀a,Sm D w a->P a
structure Ft(D:Nat->Prop)(B:Nat)(w:World):Prop where
 ge:∀k,D k->B<=k
 ty:∀k,D k->∃cs T fz,w.heap[k]?=some (.cells cs T fz)/\T≠5
variable{a d z:Nat->Prop}{n k t:Nat}{w v u:World}
theorem Ft.lt(h:Ft a n w)(c:a k):k<w.heap.size:=by obtain⟨d,T,e,b,_⟩:=h.ty k c;exact bo b
theorem Ft.keep{D:Nat->Prop}{w w':World}(h:Ft D n w)(s:Sm D w w'):Ft D n w':=⟨h.ge,λk a=>by rw[s k a];exact h.ty k a⟩
theorem Ft.low(h:Ft a n w)(c:k<=n):Ft a k w:=⟨λb d=>az c (h.ge b d),h.ty⟩
theorem Ft.or(h:Ft a n w)(c:Ft d n w):Ft (λk=>a k\/d k) n w:=⟨λk b=>b.elim (h.ge k) (c.ge k),λk b=>b.elim (h.ty k) (c.ty k)⟩
theorem Ft.none(B:Nat)(w:World):Ft (λ_=>False) B w:=⟨λ_ h=>h.elim,λ_ h=>h.elim⟩
variable{o:Array Value}{b:TypeId}
theorem Ft.one{B:Nat}(h:V w n o b)(c:b≠5)(d:B<=n):Ft (λk=>k=n) B w:=⟨λk a=>by omega,λk a=>by subst a;exact⟨o,b,_,h,c⟩⟩
variable{m:World->Prop}
theorem fg.self(h:fg a w m):m w:=h w λ_ _=>rfl
theorem fg.keep{D:Nat->Prop}{w w':World}(h:fg D w m)(s:Sm D w w'):fg D w' m:=λa c=>h a λk b=>(c k b).trans (s k b)
theorem fg.more{D':Nat->Prop}(h:fg a w m)(b:∀k,a k->D' k):fg D' w m:=λd s=>h d λk c=>s k (b k c)
theorem Sm.fr{K:Nat->Prop}{w w':World}(h:Ft a n w)(f:Fr K w w')(c:∀k,n<=k->¬K k):Sm a w w':=λk b=>f.block k (h.lt b) (c k (h.ge k b))
theorem Sm.grown{w':World}(h:Ft a n w){b:Option Nat}(d:w.grownBy w' b)(f:∀k,a k->b≠some k):Sm a w w':=λk c=>d.block k (h.lt c) λe=>f k c e.symm
theorem V.sm{w':World}(h:V w n o b)(s:Sm a w w')(c:a n):V w' n o b:=(s n c).trans h
structure Row(T:TypeId)(B:Nat)(P:Nat->World->Value->Prop)(D:Nat->Prop)(sv:Value)(fs:List Value)(w:World):Prop where
 o:w.ownsRow B T 1 sv fs.length fs
 ft:Ft D B w
 ne:∀k,D k->sv.ownBlock≠some k
 ok:∀i(h:i<fs.length),fg D w λw'=>P i w' fs[i]
variable{f:Nat->World->Value->Prop}{c i A B D:Value}{g:List Value}
theorem Row.fr{K:Nat->Prop}{w w':World}(h:Row b n f a c g w)(d:Fr K w w')(o:∀k,n<=k->¬K k):Row b n f a c g w':=by
 have s:=Sm.fr h.ft d o;refine⟨?_,h.ft.keep s,h.ne,λi r=>(h.ok i r).keep s⟩;refine⟨h.o.1,?_⟩;rcases h.o.2 with x|⟨k,e,j,p,l,m,q⟩;.exact Y x
 exact I ⟨k,e,j,p,l,(d.block k (bo m) (o k l)).trans m,q⟩
theorem Row.below(h:Row b n f a c g w)(d:Below w.heap.size w v):Row b n f a c g v:=h.fr (K:=λ_=>False) (Fr.aN d) λ_ _ x=>x
theorem Row.low(h:Row b n f a c g w)(j:k<=n):Row b k f a c g w:=by
 refine⟨?_,h.ft.low j,h.ne,h.ok⟩;refine⟨h.o.1,?_⟩;rcases h.o.2 with x|⟨d,e,i,l,m,o⟩;.exact Y x
 exact I ⟨d,e,i,l,az j m,o⟩
theorem Row.nil(T:TypeId)(B:Nat)(P:Nat->World->Value->Prop)(w:World):Row T B P (λ_=>False) (.slice none 0 0) [] w:=⟨World.ownsRow_nil _ _ _ _,Ft.none _ _,λ_ h=>h.elim,λ_ h=>absurd h (Nat.not_lt_zero _)⟩
theorem Row.one{B:Nat}(g:B<=w.heap.size)(d:Ft a B w)(o:fg a w λj=>f 0 j c):Row b B f a (.slice (sA w.heap.size) 1 1) [c] (w.alloc (.cells #[c] b)):=by
 have s:Sm a w (w.alloc (.cells #[c] b)):=Sm.fr (K:=λ_=>False) d ((Fr.refl _ w).alloc _) λ_ _ x=>x;refine⟨⟨rfl,I ⟨w.heap.size,1,#[c],rfl,g,heap_alloc_new w _,aP _,by unfold maxLen;decide,rfl,rfl⟩⟩,d.keep s,λk h e=>?_,λi n=>?_⟩;.have l:=d.lt h;have m:w.heap.size=k:=cI e;omega
 grind(splits:=30)[fg,Sm]
theorem Row.push{P:Nat->World->Value->Prop}{f:Value}{A:Nat}(h:Row b n P a c g w)(s:∀k,c.ownBlock=some k->k<A)(o:n<=A)(l:Ft d A w)(J:fg d w λC=>P g.length C f)(z:v.ownsRow n b 1 i (g.length+1) (g++[f]))(p:w.grownBy v c.ownBlock)(t:i.ownBlock=c.ownBlock\/i.ownBlock=some w.heap.size):Row b n P (λk=>a k\/d k) i (g++[f]) v:=by
 have q:∀k,d k->c.ownBlock≠some k:=λk m e=>by have F:=s k e;have G:=l.ge k m;omega
 have r:Sm a w v:=Sm.grown h.ft p h.ne;have B:Sm d w v:=Sm.grown l p q;refine⟨by simpa using z,(h.ft.keep r).or ((l.keep B).low o),λk m e=>?_,λj H=>?_⟩
 .rcases t with x|x;.rw[x]at e;exact m.elim (λy=>h.ne k y e) λy=>q k y e
  rw[x]at e;have D:w.heap.size=k:=cI e;have:k<w.heap.size:=m.elim (λy=>h.ft.lt y) λy=>l.lt y;omega
 by_cases u:j<g.length;.have:=((h.ok j u).keep r).more (D':=λk=>a k\/d k) λk=>Y;grind
 grind(splits:=30)[fg,Sm]
structure bQ{α:Type}(T:TypeId)(sz:Nat)(cl:α->List Value)(B:Nat)(P:Nat->World->α->Prop)(D:Nat->Prop)(sv:Value)(fs:List α)(w:World):Prop where
 o:w.ownsRow B T sz sv fs.length (fs.flatMap cl)ft:Ft D B w
 ne:∀k,D k->sv.ownBlock≠some k
 ok:∀i(h:i<fs.length),fg D w λw'=>P i w' fs[i]
theorem bQ.fr{j:Type}{K:Nat->Prop}{l:j->List Value}{P:Nat->World->j->Prop}{m:List j}{w w':World}(h:bQ b n l k P a c m w)(f:Fr K w w')(q:∀d,k<=d->¬K d):bQ b n l k P a c m w':=by
 have s:=Sm.fr h.ft f q;refine⟨?_,h.ft.keep s,h.ne,λi u=>(h.ok i u).keep s⟩;refine⟨h.o.1,?_⟩;rcases h.o.2 with x|⟨d,e,g,r,o,p,t⟩;.exact Y x
 exact I ⟨d,e,g,r,o,(f.block d (bo p) (q d o)).trans p,t⟩
theorem bQ.alloc{d:Type}{e:d->List Value}{P:Nat->World->d->Prop}{f:List d}{w:World}(h:bQ b n e k P a c f w)(o:Obj):bQ b n e k P a c f (w.alloc o):=h.fr (K:=λ_=>False) ((Fr.refl _ w).alloc o) λ_ _ x=>x
theorem bQ.below{d:Type}{e:d->List Value}{P:Nat->World->d->Prop}{g:List d}(h:bQ b n e k P a c g w)(f:Below w.heap.size w v):bQ b n e k P a c g v:=h.fr (K:=λ_=>False) (Fr.aN f) λ_ _ x=>x
theorem bQ.low{g:Type}{i:g->List Value}{P:Nat->World->g->Prop}{j:List g}(h:bQ b n i k P a c j w)(l:t<=k):bQ b n i t P a c j w:=by
 refine⟨?_,h.ft.low l,h.ne,h.ok⟩;refine⟨h.o.1,?_⟩;rcases h.o.2 with x|⟨d,e,f,m,o,p⟩;.exact Y x
 exact I ⟨d,e,f,m,az l o,p⟩
theorem bQ.nil{a:Type}(T:TypeId)(c:Nat)(b:a->List Value)(B:Nat)(P:Nat->World->a->Prop)(w:World):bQ T c b B P (λ_=>False) (.slice none 0 0) [] w:=⟨World.ownsRow_nil _ _ _ _,Ft.none _ _,λ_ h=>h.elim,λ_ h=>absurd h (Nat.not_lt_zero _)⟩
theorem bQ.sm{g:Type}{j:g->List Value}{P:Nat->World->g->Prop}{l:List g}{w':World}(h:bQ b n j k P a c l w)(s:Sm (λd=>a d\/c.ownBlock=some d) w w'):bQ b n j k P a c l w':=by
 have o:Sm a w w':=λd u=>s d (Y u);refine⟨?_,h.ft.keep o,h.ne,λi t=>(h.ok i t).keep o⟩;refine⟨h.o.1,?_⟩;rcases h.o.2 with x|⟨d,e,f,m,p,q,r⟩;.exact Y x
 exact I ⟨d,e,f,m,p,(s d (I (by rw[m];rfl))).trans q,r⟩
theorem bQ.JL{g:Type}{j:g->List Value}{P:Nat->World->g->Prop}{m:List g}(h:bQ b n j k P a c m w)(q:b≠5):Ft (λd=>a d\/c.ownBlock=some d) k w:=by
 refine h.ft.or ⟨λd f=>(h.o.lt d f).1,λd f=>?_⟩;rcases h.o.2 with⟨x,_⟩|⟨o,i,l,p,_,r,_⟩;.rw[x]at f;cases f
 rw[p]at f;have e:o=d:=cI f;grind
theorem bQ.one{g:Type}{c:g->List Value}{B:Nat}{P:Nat->World->g->Prop}{f:g}(d:Ft a B w)(q:fg a w λl=>P 0 l f)(j:(w.alloc (.cells (c f).toArray b)).ownsRow B b n (.slice (sA w.heap.size) 1 1) 1 ([f].flatMap c)):bQ b n c B P a (.slice (sA w.heap.size) 1 1) [f] (w.alloc (.cells (c f).toArray b)):=by
 have s:Sm a w (w.alloc (.cells (c f).toArray b)):=Sm.fr (K:=λ_=>False) d ((Fr.refl _ w).alloc _) λ_ _ x=>x;refine⟨j,d.keep s,λk h e=>?_,λi p=>?_⟩;.have m:=d.lt h;have o:w.heap.size=k:=cI e;omega
 grind(splits:=30)[fg,Sm]
theorem bQ.push{q:Type}{m:q->List Value}{P:Nat->World->q->Prop}{l:List q}{f:q}{A:Nat}(h:bQ b n m k P a c l w)(z:∀j,c.ownBlock=some j->j<A)(r:k<=A)(o:Ft d A w)(M:fg d w λG=>P l.length G f)(D:v.ownsRow k b n i (l.length+1) (l.flatMap m++m f))(s:w.grownBy v c.ownBlock)(B:i.ownBlock=c.ownBlock\/i.ownBlock=some w.heap.size):bQ b n m k P (λj=>a j\/d j) i (l++[f]) v:=by
 have t:∀j,d j->c.ownBlock≠some j:=λj p e=>by have J:=z j e;have K:=o.ge j p;omega
 have u:Sm a w v:=Sm.grown h.ft s h.ne;have F:Sm d w v:=Sm.grown o s t;refine⟨by simpa using D,(h.ft.keep u).or ((o.keep F).low r),λj p e=>?_,λg L=>?_⟩
 .rcases B with x|x;.rw[x]at e;exact p.elim (λy=>h.ne j y e) λy=>t j y e
  rw[x]at e;have H:w.heap.size=j:=cI e;have:j<w.heap.size:=p.elim (λy=>h.ft.lt y) λy=>o.lt y;omega
 by_cases C:g<l.length;.have:=((h.ok g C).keep u).more (D':=λj=>a j\/d j) λj=>Y;grind
 grind(splits:=30)[fg,Sm]
def bY(c:Nat):Nat:=if c=10 then 1 else if c<32\/126<c then 0 else if c=32 then 2 else if c=48 then 3 else if 49<=c/\c<=57 then 4 else if c=34 then 5 else if c=92 then 6 else 7
theorem lT{w:World}(c:Nat)(A:c<256):Calls prog 173 #[.int .u8 (c:Int)] w λr v=>r=.returned (.int .i64 (bY c:Nat))/\v=w:=by
 by_cases l:c=10;.subst l;have e:bY 10=1:=de;rw[e];clear e;go_enter func173,ntmps173;go_wp2;go_ret;exact⟨rfl,rfl⟩
 by_cases x:c<32
 .have e:bY c=0:=by unfold bY;repeat(first|rw[ae om]|rw[aa om])
  rw[e];clear e;have a:((c:Int)==10)=false:=dH;have s:(c:Int)<32:=om;go_enter func173,ntmps173;go_wp2;go_ret;exact⟨rfl,rfl⟩
 by_cases y:126<c
 .have e:bY c=0:=by unfold bY;repeat(first|rw[ae om]|rw[aa om])
  rw[e];clear e;have a:((c:Int)==10)=false:=dH;have d:¬(c:Int)<32:=om;have k:(126:Int)<(c:Int):=om;go_enter func173,ntmps173;go_wp2;go_ret;exact⟨rfl,rfl⟩
 by_cases m:c=32;.subst m;have e:bY 32=2:=de;rw[e];clear e;go_enter func173,ntmps173;go_wp2;go_ret;exact⟨rfl,rfl⟩
 by_cases n:c=48;.subst n;have e:bY 48=3:=de;rw[e];clear e;go_enter func173,ntmps173;go_wp2;go_ret;exact⟨rfl,rfl⟩
 by_cases z:49<=c/\c<=57
 .have e:bY c=4:=by unfold bY;repeat(first|rw[ae om]|rw[aa om])
  rw[e];clear e;have a:((c:Int)==10)=false:=dH;have d:¬(c:Int)<32:=om;have b:¬(126:Int)<(c:Int):=om;have g:((c:Int)==32)=false:=dH;have h:((c:Int)==48)=false:=dH;have f:(49:Int)<=(c:Int):=om;have i:(c:Int)<=57:=om;go_enter func173,ntmps173;go_wp2;go_ret;exact⟨rfl,rfl⟩
 by_cases o:c=34;.subst o;have e:bY 34=5:=de;rw[e];clear e;go_enter func173,ntmps173;go_wp2;go_ret;exact⟨rfl,rfl⟩
 by_cases p:c=92;.subst p;have e:bY 92=6:=de;rw[e];clear e;go_enter func173,ntmps173;go_wp2;go_ret;exact⟨rfl,rfl⟩
 have e:bY c=7:=by unfold bY;repeat(first|rw[ae om]|rw[aa om])
 rw[e];clear e;rcases Nat.lt_or_ge c 49 with q|q;focus have a:((c:Int)==10)=false:=dH;have d:¬(c:Int)<32:=om;have b:¬(126:Int)<(c:Int):=om;have g:((c:Int)==32)=false:=dH;have h:((c:Int)==48)=false:=dH;have f:¬(49:Int)<=(c:Int):=om;have j:decide ((49:Int)<=(c:Int))=false:=by simpa using f
 rotate_left;focus have a:((c:Int)==10)=false:=dH;have d:¬(c:Int)<32:=om;have b:¬(126:Int)<(c:Int):=om;have g:((c:Int)==32)=false:=dH;have h:((c:Int)==48)=false:=dH;have f:(49:Int)<=(c:Int):=om;have i:¬(c:Int)<=57:=om
 all_goals have t:((c:Int)==34)=false:=dH;have u:((c:Int)==92)=false:=dH;go_enter func173,ntmps173;go_wp2;go_ret;exact⟨rfl,rfl⟩
theorem j0(c:Nat):(c=10/\bY c=1)\/((c<32\/126<c)/\c≠10/\bY c=0)\/(c=32/\bY c=2)\/(c=48/\bY c=3)\/(49<=c/\c<=57/\bY c=4)\/(c=34/\bY c=5)\/(c=92/\bY c=6)\/(32<c/\c<=126/\(c<48\/57<c)/\c≠34/\c≠92/\bY c=7):=by
 unfold bY;split;.omega
 grind(splits:=30)[bY]
theorem Pu(c:Nat):(((bY c:Nat):Int)==2||((bY c:Nat):Int)==1)=cm c:=by grind(splits:=30)[cm,bY]
theorem Pv(c:Nat):(((bY c:Nat):Int)==3||((bY c:Nat):Int)==4)=O c:=by grind(splits:=30)[O,bY]
theorem oS{w:World}(c:Nat)(b:c<256):Calls prog 138 #[.int .u8 (c:Int)] w λr a=>r=.returned (.bool (cm c))/\a=w:=by
 rw[<-Pu];have K:=Z λw=>lT (w:=w) c b;generalize bY c=k at*;by_cases h:k=2;.subst h;go_enter func138,ntmps138;go_wp2_with fail;refine(K.o _).mono ?_;rintro r a⟨rfl,rfl⟩;go_wp2;go_ret;exact⟨rfl,rfl⟩
 have e:((k:Int)==2)=false:=dH;rw[e];go_enter func138,ntmps138;go_wp2_with fail;refine(K.o _).mono ?_;rintro r a⟨rfl,rfl⟩;go_wp2_with fail;refine(K.o _).mono ?_;rintro r a⟨rfl,rfl⟩;go_wp2;go_ret;exact⟨rfl,rfl⟩
theorem t_{w:World}(c:Nat)(b:c<256):Calls prog 176 #[.int .u8 (c:Int)] w λr a=>r=.returned (.bool (O c))/\a=w:=by
 rw[<-Pv];have K:=Z λw=>lT (w:=w) c b;generalize bY c=k at*;by_cases h:k=3;.subst h;go_enter func176,ntmps176;go_wp2_with fail;refine(K.o _).mono ?_;rintro r a⟨rfl,rfl⟩;go_wp2;go_ret;exact⟨rfl,rfl⟩
 have e:((k:Int)==3)=false:=dH;rw[e];go_enter func176,ntmps176;go_wp2_with fail;refine(K.o _).mono ?_;rintro r a⟨rfl,rfl⟩;go_wp2_with fail;refine(K.o _).mono ?_;rintro r a⟨rfl,rfl⟩;go_wp2;go_ret;exact⟨rfl,rfl⟩
def fV(k:Nat)(l:List UInt8):List UInt8:=if k=3 then l.take 9 else l
def bS(t:Tok):Value:=.agg #[.int .i64 (t.k:Nat),.int .i64 (t.of:Nat),.int .i64 (t.af:Nat),.int .i64 (t.to:Nat),.int .i64 t.n,.string (bR (fV t.k t.t))]
def vk(e:Nat)(z:Sn)(d b c a:Value):Array Value:=#[.int .i64 (e:Nat),.int .i64 (z.at':Nat),d,.int .i64 (z.tk.k:Nat),.int .i64 (z.tk.of:Nat),.int .i64 (z.tk.af:Nat),.int .i64 (z.tk.to:Nat),.int .i64 z.tk.n,.string (bR (fV z.tk.k z.tk.t)),b,c,.string (bR z.rs),.int .i64 (z.sz:Nat),.int .i64 z.sg,a]
def fY(l:List Nat):List Value:=l.map λk=>.int .i64 (k:Nat)
structure RS(w:World)(r s0:Nat)(z:Sn)(tell ov bp bv:Value):Prop where
 b:V w r (vk s0 z ov bp bv tell) 115
 o:w.ownsRow (r+1) 106 1 ov z.op.length (fY z.op)t:w.ownsRow (r+1) 5 1 bv (fV z.tk.k z.tx).length (Lib.byteCells (fV z.tk.k z.tx))p:bp=.pointer none\/bp=.pointer (some (aD r 9))e:fV z.tk.k z.tx=[]->bv=.slice none 0 0
structure gn(f:Value)(S:World->(Nat->Prop)->List Tok->Prop)(V:List Tok->Tok->Prop):Prop where
 lt:∀{w D ts k},S w D ts->D k->k<w.heap.size
 keep:∀{w w' D ts},S w D ts->Sm D w w'->w.heap.size<=w'.heap.size->S w' D ts
 call:∃N first cap,f=.func (.func N) first cap/\(∀args w,(callFunc N args).run prog w=.ok (.enter N args) w)/\∀w D ts t,S w D ts->V ts t->Calls prog N (first.push (bS t)++cap) w λr w'=>r=.returned (.tuple #[])/\∃D',S w' D' (ts++[t])/\(∀k,D' k->D k\/w.heap.size<=k)/\Fr D w w'
def VL(a:List Tok->Tok->Prop):List Tok->List Tok->Prop|_,[]=>True|b,t::r=>a b t/\VL a (b++[t]) r
structure RM(S:World->(Nat->Prop)->List Tok->Prop)(tell:Value)(r s0:Nat)(z:Sn)(ts:List Tok)(E:Nat->Prop)(w:World):Prop where ex:∃ov bp bv D,RS w r s0 z tell ov bp bv/\S w D ts/\(∀k,D k->k≠r/\ov.ownBlock≠some k/\bv.ownBlock≠some k)/\(∀k,E k↔k=r\/ov.ownBlock=some k\/bv.ownBlock=some k\/D k)
structure Ev(E:Nat->Prop)(w:World)(E':Nat->Prop)(w':World):Prop where
 s:∀k,E' k->E k\/w.heap.size<=k
 f:Fr E w w'
theorem Ev.refl(a:Nat->Prop)(w:World):Ev a w a w:=⟨λ_=>Y,Fr.refl _ _⟩
theorem Ev.trans(h:Ev a w d v)(k:Ev d v z u):Ev a w z u:=by
 refine⟨λi b=>?_,⟨k.f.os.trans h.f.os,k.f.tape.trans h.f.tape,k.f.output.trans h.f.output,az h.f.size k.f.size,λi b c=>?_⟩⟩
 .rcases k.s i b with x|x;.exact h.s i x
  exact I (az h.f.size x)
 refine(k.f.block i (aI b h.f.size) λx=>?_).trans (h.f.block i b c);rcases h.s i x with y|y;.exact c y
 omega
def RP(S:World->(Nat->Prop)->List Tok->Prop)(b:Value)(r f:Nat)(x:Sx)(g:List Tok)(a:Nat->Prop)(w:World)(c:Ending)(e:World):Prop:=c=.returned (.int .i64 (x.z.st:Nat))/\∃d,RM S b r f x.z (g++x.ts) d e/\Ev a w d e
variable{l:World->(Nat->Prop)->List Tok->Prop}{j:List Tok->Tok->Prop}{r:Sn}{p:List Tok}
theorem RM.drewN(o:gn c l j)(h:RM l i n k r p a w)(b:Nat):RM l i n k r p a (w.drewN b):=by obtain⟨q,e,f,D,d,g,m⟩:=h.ex;exact⟨q,e,f,D,⟨d.b,aQ d.o λ_ _=>rfl,aQ d.t λ_ _=>rfl,d.p,d.e⟩,o.keep g (λ_ _=>rfl) lr,m⟩
theorem Ev.drewN(h:Ev a w d v)(n:Nat):Ev a w d (v.drewN n):=⟨h.s,h.f.drewN n⟩
theorem RM.set(u:gn c l j){s1:Nat}{z':Sn}{w':World}(h:RS w n k r i A B D)(q:l w d p)(s:∀b,d b->b≠n/\A.ownBlock≠some b/\D.ownBlock≠some b)(t:∀b,a b↔b=n\/A.ownBlock=some b\/D.ownBlock=some b\/d b)(v:V w' n (vk s1 z' A B D i) 115)(f:Fr (λb=>b=n) w w')(o:z'.op=r.op)(g:fV z'.tk.k z'.tx=fV r.tk.k r.tx):RM l i n s1 z' p a w'/\Ev a w a w':=by
 refine⟨⟨A,B,D,d,⟨v,?_,?_,h.p,?_⟩,u.keep q (λb m=>f.block b (u.lt q m) (s b m).1) f.size,s,t⟩,⟨λ_=>Y,f.mono λb _ e=>(t b).2 (Y e)⟩⟩;.rw[o];exact aS h.o f λb m e=>by omega
 .rw[g];exact aS h.t f λb m e=>by omega
 rw[g];exact h.e
theorem RM.tell(K:gn c l j):∃N first f,c=.func (.func N) first f/\(∀g w,(callFunc N g).run prog w=.ok (.enter N g) w)/\∀{r q:Nat}{z:Sn}{m:List Tok}{a:Nat->Prop}{w:World}(t:Tok),RM l c r q z m a w->j m t->Calls prog N (first.push (bS t)++f) w λi o=>i=.returned (.tuple #[])/\∃u,RM l c r q z (m++[t]) u o/\Ev a w u o:=by
 obtain⟨N,first,f,P,J,M⟩:=K.call;refine⟨N,first,f,P,J,λ{r q z m a w}t h L=>?_⟩;obtain⟨A,B,v,D,b,G,n,H⟩:=h.ex;refine(M w D m t G L).mono ?_;rintro i o⟨rfl,s,C,F,y⟩;have p:∀k,k<w.heap.size->¬D k->o.heap[k]?=w.heap[k]?:=λk d R=>y.block k d R;have S:¬D r:=λx=>(n r x).1 rfl;refine⟨rfl,λk=>k=r\/A.ownBlock=some k\/v.ownBlock=some k\/s k,⟨A,B,v,s,⟨(p r b.b.lt S).trans b.b,aQ b.o λk d=>p k (b.o.lt k d).2 λx=>(n k x).2.1 d,aQ b.t λk d=>p k (b.t.lt k d).2 λx=>(n k x).2.2 d,b.p,b.e⟩,C,λk d=>?_,λ_=>Iff.rfl⟩,⟨λk d=>?_,y.mono λk _ x=>(H k).2 (I (I (I x)))⟩⟩
 .rcases F k d with x|x;.exact n k x
  refine⟨λe=>by have:=b.b.lt;omega,λe=>by have:=(b.o.lt k e).2;omega,λe=>by have:=(b.t.lt k e).2;omega⟩
 grind
