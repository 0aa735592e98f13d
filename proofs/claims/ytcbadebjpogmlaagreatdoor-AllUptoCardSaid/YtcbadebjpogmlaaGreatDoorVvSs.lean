import Derived.Test.YtcbadebjpogmlaaGreatDoorVvGl
import Derived.Test.YtcbadebjpogmlaaGreatDoorVvHa
import Derived.Test.YtcbadebjpogmlaaGreatDoorVvHk
import Derived.Test.YtcbadebjpogmlaaGreatDoorVvTl
import Derived.Test.YtcbadebjpogmlaaGreatDoorVvFc
set_option maxHeartbeats 8000000
set_option maxRecDepth 100000
namespace Go.Proofs.YtcbadebjpogmlaaGreatDoor
open Go.RowKit Tr Go.Proofs.Tryz
variable{A:World->(Nat->Prop)->List Tr.Tok->Prop}{a c d g j l m z Ba:Value}{o:List Tr.Tok->Tr.Tok->Prop}{n k i F H J:Nat}{K:Sn}{D:List Tr.Tok}{b R W Aa:Nat->Prop}{w v:World}
theorem RM.Ew(q:gn a A o)(h:RM A c n k K D b w)(i:Value):RM A i n k K D b (w.setCell (aD n 14) i)/\Ev b w b (w.setCell (aD n 14) i):=by obtain⟨t,r,s,d,g,l,m,p⟩:=h.ex;have f0:Fr (λf=>f=n) w (w.setCell (aD n 14) i):=(Fr.refl (λf=>f=n) w).setCell (aD n 14) (Y rfl) _;exact⟨⟨t,r,s,d,⟨g.b.set 14 i,aS g.o f0 λf j e=>by omega,aS g.t f0 λf j e=>by omega,g.p,g.e⟩,q.keep l (λf j=>f0.block f (q.lt l j) (m f j).1) f0.size,m,p⟩,⟨λ_=>Y,f0.mono λf _ e=>(p f).2 (Y e)⟩⟩
theorem RM.aay(L:gn a A o)(B:Value):∃N first f,a=.func (.func N) first f/\(∀g w,(callFunc N g).run prog w=.ok (.enter N g) w)/\∀{r p:Nat}{z:Sn}{j:List Tr.Tok}{b:Nat->Prop}{w:World}(t:Tr.Tok),RM A B r p z j b w->o j t->Calls prog N (first.push (bS t)++f) w λi m=>i=.returned (.tuple #[])/\∃s,RM A B r p z (j++[t]) s m/\Ev b w s m:=by
 obtain⟨N,first,f,R,K,P⟩:=L.call;refine⟨N,first,f,R,K,λ{r p z j b w}t h M=>?_⟩;obtain⟨y,C,u,D,c,H,l,J⟩:=h.ex;refine(P w D j t H M).mono ?_;rintro i m⟨rfl,q,F,G,v⟩;have n:∀k,k<w.heap.size->¬D k->m.heap[k]?=w.heap[k]?:=λk d S=>v.block k d S;have T:¬D r:=λx=>(l r x).1 rfl;refine⟨rfl,λk=>k=r\/y.ownBlock=some k\/u.ownBlock=some k\/q k,⟨y,C,u,q,⟨(n r c.b.lt T).trans c.b,aQ c.o λk d=>n k (c.o.lt k d).2 λx=>(l k x).2.1 d,aQ c.t λk d=>n k (c.t.lt k d).2 λx=>(l k x).2.2 d,c.p,c.e⟩,F,λk d=>?_,λ_=>Iff.rfl⟩,⟨λk d=>?_,v.mono λk _ x=>(J k).2 (I (I (I x)))⟩⟩
 .rcases G k d with x|x;.exact l k x
  refine⟨λe=>by have:=c.b.lt;omega,λe=>by have:=(c.o.lt k e).2;omega,λe=>by have:=(c.t.lt k e).2;omega⟩
 grind
theorem Ir(j:gn a A o)(h:RM A .nilFunc n K.st K D b w)(l:jm K){T:Sh}(k:Lk K T)(r:K.st<=10)(c:ByteArray)(M:K.at'+c.size<=4000000)(P:K.tx.length+c.size<=4000000)(z:VL o D (aj K (E c)).ts):Calls prog 52 #[pT n,.string c,a] w (RF A .nilFunc n (aj K (E c)) D b w):=by obtain⟨N,first,H,L,_,_⟩:=j.call;obtain⟨v,t⟩:=RM.Ew j h a;obtain⟨_,_,_,d⟩:=h.rs;have U:=d.b.fz;have R:w.cell? (aD n 14)=some .nilFunc:=d.b.cell 14;have C:=Z (Jw j v l k r c M P z);have g:=Z t;have G:=Z j;clear d v t j h l k z;subst L;generalize aj K (E c)=B at*;go_enter func52,ntmps52;go_wp2_with fail;refine C.o.mono ?_;rintro S W⟨rfl,F,e,i⟩;obtain⟨x,u⟩:=RM.Ew G.o e .nilFunc;obtain⟨_,_,_,d⟩:=e.rs;have J:=d.b.fz;have s:=d.b.cell 14;simp[vk]at s;have q:=Z x;have m:=Z ((g.o.trans i).trans u);clear d x u e i g;obtain⟨y,f⟩:∃y:Nat,y=if B.e=0 then 0 else B.z.at':=⟨_,rfl⟩;rw[<-f];have p:=Z f;clear f;go_wp2;go_ret2;exact⟨by rw[<-p.o];rfl,F,q.o,m.o⟩
def RE(S:World->(Nat->Prop)->List Tr.Tok->Prop)(b:Value)(r:Nat)(z:Sn)(f:List Tr.Tok)(a:Nat->Prop)(w:World)(c:Ending)(e:World):Prop:=c=.returned (.tuple #[.int .i64 ((if aZ z=true then 0 else 2:Nat):Int),.int .i64 ((if aZ z=true then 0 else z.at':Nat):Int)])/\∃d,RM S b r z.st z (f++(if aZ z=true then fF z else[])) d e/\Ev a w d e
theorem SJ(l:gn a A o)(h:RM A .nilFunc n K.st K D b w)(g:jm K)(y:aZ K=true->VL o D (fF K)):Calls prog 54 #[pT n,a] w (RE A .nilFunc n K D b w):=by
 obtain⟨N,first,G,C,hE,c⟩:=RM.aay l .nilFunc;obtain⟨ov,bp,bv,d⟩:=h.rs;obtain⟨ao,cp,rfl⟩:=X d.o;have c0:w.cell? (aD n 0)=some (.int .i64 (K.st:Nat)):=d.b.cell 0;have c1:w.cell? (aD n 1)=some (.int .i64 (K.at':Nat)):=d.b.cell 1;have c2:w.cell? (aD n 2)=some (.slice ao K.op.length cp):=d.b.cell 2;by_cases i:K.st=5\/K.st=9
 .by_cases p:K.op=[]
  .have j:aZ K=true:=by rcases i with x|x<;>simp[aZ,x,p]
   have m:K.op.length=0:=by rw[p];rfl
   rw[m]at c2;by_cases s:K.st=9
   .have U:((K.st:Int)==5)=false:=dH;have J:=g.n (I s);have hp:=Eo J.1;have NU:=Z (zz d om J.2.2.2.1);have P:Hid (∀B,Q w B->RM A .nilFunc n K.st K D b B/\Ev b w b B):=λB k=>RM.keeps l h k;have R:fF K=[cw K]:=by unfold fF;rw[ae s]
    have M:=y j;rw[R]at M;have TE:Hid (∀W,RM A .nilFunc n K.st K D b W->Calls prog N (first.push (bS (cw K))++G) W λz q=>z=.returned (.tuple #[])/\∃r,RM A .nilFunc n K.st K (D++[cw K]) r q/\Ev b W r q):=λW hW=>c _ hW M.1;have t:Hid (∀r q,RM A .nilFunc n K.st K (D++[cw K]) r q->Ev b w r q->RE A .nilFunc n K D b w (.returned (.tuple #[.int .i64 0,.int .i64 0])) q):=λr q h1 h2=>by grind[RE]
    rw[s]at c0;generalize bS (cw K)=tg at*;clear h g y c d i p j m s l U J hp M R;subst C;go_enter func54,ntmps54;go_wp2_with fail;refine mo NU.o λw1 H=>?_;have M1:=Z (P.o _ H).1;have F:=Z (P.o _ H).2;clear H;go_wp2_with fail;refine(TE.o _ M1.o).mono ?_;rintro z w2⟨rfl,E2,v,u⟩;have f:=Z (t.o E2 w2 v (F.o.trans u));clear v u;go_wp2;go_ret2;exact f.o
   have S:K.st=5:=om;have f:Hid (RE A .nilFunc n K D b w (.returned (.tuple #[.int .i64 0,.int .i64 0])) w):=by
    have e:fF K=[]:=by unfold fF;rw[aa s]
    unfold Hid RE;grind[Ev.refl]
   rw[S]at c0;clear h g y c d i p j m s S l;subst C;go_enter func54,ntmps54;go_wp2;go_ret2;exact f.o
  have j:aZ K=false:=by simp[aZ,p]
  have f:Hid (RE A .nilFunc n K D b w (.returned (.tuple #[.int .i64 2,.int .i64 (K.at':Nat)])) w.drew):=by unfold Hid RE;rw[j];simp only[Bool.false_eq_true,if_false,List.append_nil];exact⟨rfl,b,RM.drewN l h 1,(Ev.refl _ _).drewN 1⟩
  have T:(0:Int)<(K.op.length:Int):=by have:=List.length_pos_iff.2 p;omega
  have hl8:=g.op.1;generalize K.op.length=L at*;rcases i with i|i;rotate_left;all_goals rw[i]at c0;clear h g y c d p j l i;subst C;go_enter func54,ntmps54;go_wp2;go_region;all_goals go_wp2;go_ret2;exact f.o
 have j:aZ K=false:=by simp only[aZ];rw[Bool.and_eq_false_iff];left;simp;omega
 have f:Hid (RE A .nilFunc n K D b w (.returned (.tuple #[.int .i64 2,.int .i64 (K.at':Nat)])) w.drew):=by unfold Hid RE;rw[j];simp only[Bool.false_eq_true,if_false,List.append_nil];exact⟨rfl,b,RM.drewN l h 1,(Ev.refl _ _).drewN 1⟩
 have U:((K.st:Int)==5)=false:=dH;have n9:((K.st:Int)==9)=false:=dH;generalize K.st=st at*;clear h g y c d j l i;subst C;go_enter func54,ntmps54;go_wp2;go_region;all_goals go_wp2;go_ret2;exact f.o
variable{r:Nat->Nat}
theorem Ar:∀{a d:Nat}{j:Value}{o:Nat}{t:Tv},PT w r b a j o t->FB n a t->(∀v∈ai a t,EW v)->o<=4000000->PH w d (r t.d.af) t.d.path->a+d<=11->∀v∈ai a t,∃B m z sv,B<=10/\PH w B (r v.d.af) v.d.path/\V w (r v.d.af) (kF v.d m z sv) 130
 |0,_,_,_,_,h,_,_,_,_,_,_,_=>h.elim|a+1,d,j,o,t,h,D,G,L,M,U,v,y=>by
  obtain⟨R,H,S,⟨sv,J,_,T⟩,K⟩:=h;have y:v∈t::t.ws.flatMap (ai a):=y;rcases fU.1 y with e|e;.grind
  obtain⟨c,C,l⟩:=fE.1 e;obtain⟨i,k,rfl⟩:=gR.1 C;have F:=K i k;have g:∀v∈ai a t.ws[i],EW v:=λu N=>G u (mi C u N);cases a with|zero=>cases l|succ a=>
   have s:t.ws≠[]:=λe=>by rw[e]at k;exact absurd k (Nat.not_lt_zero _)
   have q:=(G t (f t)).2 s;have p:=F;obtain⟨W,k2,k3,⟨A,P,_,k5⟩,k6⟩:=F;have x:PH w (d+1) (r (t.ws[i]).d.af) (t.ws[i]).d.path:=⟨_,_,i,A,P,om,(g _ (f _)).1,I ⟨r t.d.af,t.d,j,o,sv,t.d.path,rfl,J,H,q,M,(D.2 i k).2⟩⟩;exact Ar p (D.2 i k).1 g om x om v l where f{a:Nat}(t:Tv):t∈ai (a+1) t:=dT
def tw:List Fm->Prop|[]=>True|f::r=>f.ix<=4000000/\f.d.name.length<=4000000/\(∀p q,r=p::q->p.d.kind=4\/p.d.kind=5)/\tw r
theorem T9:∀{a:List Fm}{f:Fm}{j:List Value}{M:Nat->Prop},fO w r b n (f::a) j M->mN (f::a)->tw (f::a)->PH w (a.length+1) (r f.d.af) f.d.path|[],f,_,_,⟨sv,_,e,_⟩,d,c=>⟨f.d,_,f.ix,sv,e.b,c.1,c.2.1,Y ⟨rfl,d.1⟩⟩|p::q,f,_,_,⟨sv,l,e,_,_,_,i⟩,d,c=>by have k:=T9 i d.2 c.2.2.2;obtain⟨g,_,h,_⟩:=i;exact⟨f.d,_,f.ix,sv,e.b,c.1,c.2.1,I ⟨r p.d.af,p.d,_,p.ix,g,p.d.path,rfl,h.b,h.d,c.2.2.1 p q rfl,k,d.1⟩⟩
theorem tw.of(c:n<=4000001):∀{r:List Fm}{h:Nat},rA n r h->(∀f∈r,Yq f)->tw r|[],_,_,_=>trivial|f::r,_,⟨_,i,j,_,_,b⟩,a=>⟨om,(a f (dT)).1,λp q e=>(a p (by rw[e];simp)).2.1,tw.of c b λg d=>a g (f_ _ d)⟩
def jO(k:Nat):Prop:=k=6\/k=0\/k=1
theorem EN.low(h:EN w)(a:jO n):n<w.heap.size:=by
 rcases a with e|e|e;.rw[e];exact h.ev.lt
 .rw[e];exact h.tl
 rw[e];exact h.ll
theorem wG(h:v.heap[n]?=w.heap[n]?)(a:n<w.heap.size):n<v.heap.size:=by grind
theorem EN.sm{w':World}(h:EN w)(s:Sm jO w w'):EN w':=by
 refine⟨⟨?_,wG (s _ (Y rfl)) h.ev.lt⟩,?_,wG (s _ (I (Y rfl))) h.tl,?_,wG (s _ (I (I rfl))) h.ll⟩;.obtain⟨a,b,c⟩:=h.ev.v;exact⟨a,(World.cell?_of_block (w:=w) (a:=aD 6 0) (s _ (Y rfl))).trans b,c⟩
 .have:=h.tab;unfold Lib.TabIs World.var? at this⊢;rw[U']at this⊢;simp only[Option.bind_some]at this⊢;rw[s _ (I (Y rfl))];exact this
 obtain⟨m,d⟩:=h.ml;exact⟨m,(World.cell?_of_block (w:=w) (a:=aD 1 0) (s _ (I (I rfl)))).trans d⟩
theorem fO.inj{w:World}{A:Nat->Nat}{C:Nat->Prop}{h:Nat}:∀{r:List Fm}{f:Fm}{b:List Value}{M:Nat->Prop},fO w A C h (f::r) b M->∀g∈r,A g.d.af≠A f.d.af|r,f,_,_,⟨sv,k,l,i,j,m,c⟩,g,d,e=>j (e▸a c g d)where a:∀{r:List Fm}{b:List Value}{M:Nat->Prop},fO w A C h r b M->∀g∈r,M (A g.d.af)
 |f::r,_,_,⟨sv,k,l,i,j,m,c⟩,g,d=>by
  rcases fU.1 d with e|e;.grind
  exact(i _).2 (I (I (a c g e)))
def qs(a b c d e f g h i:Value):Array Value:=#[a,b,c,d,e,f,g,h,i]
def j9(p:List UInt8)(a b k:Nat):List Value:=[.string (bR p),.int .i64 (a:Nat),.int .i64 (b:Nat),.int .i64 (k:Nat)]
theorem oY:(prog.info? 44).map (λi=>(i.zero,i.size,i.bytes))=some (some (.agg #[.string ⟨#[]⟩,.int .i64 0,.int .i64 0,.int .i64 0]),4,40):=by kernel_rfl
set_option linter.unusedSimpArgs false in
theorem WJ{o:List Value}(hB:V w n (qs a c d g j l m z Ba) 170)(ho:w.ownsRow 0 44 4 Ba k o)(hne:Ba.ownBlock≠some n)(hn:k<5000000){vb:Nat}{p:List UInt8}{af to:Nat}(f:Nat)(hnd:∀W,Q w W->Calls prog 36 #[pT vb] W λr C=>r=.returned (Fh p af to)/\Q W C):Calls prog 109 #[pT n,pT vb,.int .i64 (f:Nat)] w λr C=>r=.returned (.tuple #[])/\∃q,V C n (qs a c d g j l m z q) 170/\C.ownsRow 0 44 4 q (k+1) (o++j9 p af to f)/\(∀x,q.ownBlock=some x->Ba.ownBlock=some x\/w.heap.size<=x)/\q.ownBlock≠some n/\Fr (λx=>x=n\/Ba.ownBlock=some x) w C:=by
 obtain⟨F,G,rfl⟩:=X ho;have hfl:=hB.lt;have d8:w.drew.cell? (aD n 8)=some (.slice F k G):=V.cell (w:=w.drew) hB 8;have ND:=Z (hnd w.drew ((Fr.refl _ _).drewN 1));obtain⟨PB,hPB⟩:∃PB,PB=bR p:=⟨_,rfl⟩;obtain⟨P,hP⟩:∃P:World->Prop,P=λC=>∃q,V C n (qs a c d g j l m z q) 170/\C.ownsRow 0 44 4 q (k+1) (o++j9 p af to f)/\(∀x,q.ownBlock=some x->(Value.slice F k G).ownBlock=some x\/w.heap.size<=x)/\q.ownBlock≠some n/\Fr (λx=>x=n\/(Value.slice F k G).ownBlock=some x) w C:=⟨_,rfl⟩;have AG:Hid (∀u∈[Value.string PB,.int .i64 (af:Nat),.int .i64 (to:Nat),.int .i64 (f:Nat)],u.oneCell'=true):=by intro u hu;simp at hu;rcases hu with rfl|rfl|rfl|rfl<;>rfl
 have xr:Hid (∀A,Q w.drew A->A.cell? (aD n 8)=some (.slice F k G)/\(A.alloc (.cells #[.string PB,.int .i64 (af:Nat),.int .i64 (to:Nat),.int .i64 (f:Nat)] 44)).cell? (aD n 8)=some (.slice F k G)/\((A.alloc (.cells #[.string PB,.int .i64 (af:Nat),.int .i64 (to:Nat),.int .i64 (f:Nat)] 44)).ownsRow 0 44 4 (.slice F k G) k o/\(∀(b:Nat)(u:Value),[Value.string PB,.int .i64 (af:Nat),.int .i64 (to:Nat),.int .i64 (f:Nat)][b]?=some u->(A.alloc (.cells #[.string PB,.int .i64 (af:Nat),.int .i64 (to:Nat),.int .i64 (f:Nat)] 44)).cell? (((aD A.heap.size 0):Addr).add b)=some u)/\∀N s L,L.ownsRow 0 44 4 (.slice (sA N) (k+1) s) (k+1) (o++[.string PB,.int .i64 (af:Nat),.int .i64 (to:Nat),.int .i64 (f:Nat)])->(A.alloc (.cells #[.string PB,.int .i64 (af:Nat),.int .i64 (to:Nat),.int .i64 (f:Nat)] 44)).grownBy L (Value.slice F k G).ownBlock->((Value.slice F k G).ownBlock=some N\/N=(A.alloc (.cells #[.string PB,.int .i64 (af:Nat),.int .i64 (to:Nat),.int .i64 (f:Nat)] 44)).heap.size)->L.cell? (aD n 8)=some (.slice F k G)/\(∀i,L.frozen? (aD n i)=false)/\(∀v,(L.setCell (aD n 8) v).cell? (aD n 8)=some v)/\P (L.setCell (aD n 8) (.slice (sA N) (k+1) s)))):=λA B=>by
  have k0:Q w A:=((Fr.refl _ _).drewN 1).trans B;have b1:=hB.fr k0 id;have S:Q w (A.alloc (.cells #[.string PB,.int .i64 (af:Nat),.int .i64 (to:Nat),.int .i64 (f:Nat)] 44)):=k0.alloc _;have b2:=hB.fr S id;have o2:(A.alloc (.cells #[.string PB,.int .i64 (af:Nat),.int .i64 (to:Nat),.int .i64 (f:Nat)] 44)).ownsRow 0 44 4 (.slice F k G) k o:=aQ ho λi T=>S.block i (ho.lt i T).2 id;refine⟨b1.cell 8,b2.cell 8,o2,?_,λN s L ho4 H q_=>?_⟩;.intro b u J;match b,J with|0,J=>simp at J;subst J;simp[Addr.add]|1,J=>simp at J;subst J;simp[Addr.add]|2,J=>simp at J;subst J;simp[Addr.add]|3,J=>simp at J;subst J;simp[Addr.add]
  have b4:V L n (qs a c d g j l m z (.slice F k G)) 170:=by show L.heap[n]?=_;rw[H.block n (aI hfl S.size) λe=>hne e.symm];exact b2
  have hgf:N≠n:=by
   rcases q_ with e|e;.exactλy=>hne (y▸e)
   have:=S.size;intro y;rw[<-y]at hfl;omega
  refine⟨b4.cell 8,b4.fz,λv=>(b4.set 8 v).cell 8,?_⟩;rw[hP];refine⟨.slice (sA N) (k+1) s,b4.set 8 _,?_,λx hkk=>?_,λe=>hgf (cI e),?_⟩
  .have:L.ownsRow 0 44 4 (.slice (sA N) (k+1) s) (k+1) (o++j9 p af to f):=by unfold j9;rw[<-hPB];exact ho4
   exact aQ this λi T=>Below.heap_setCell _ _ _ _ λe=>hgf ((cI T).trans e)
  .have e:N=x:=cI hkk;subst e;rcases q_ with e|e;.exact Y e
   exact I (by rw[e];exact S.size)
  refine Fr.setCell ?_ (aD n 8) (Y (Y rfl)) _;exact⟨H.os.trans S.os,H.tape.trans S.tape,H.output.trans S.output,az S.size H.size,λi T hn=>by rw[H.block i (aI T S.size) λe=>hn (I e.symm)];exact S.block i T id⟩
 have Rk:Hid (∀C,P C->∃q,V C n (qs a c d g j l m z q) 170/\C.ownsRow 0 44 4 q (k+1) (o++j9 p af to f)/\(∀x,q.ownBlock=some x->(Value.slice F k G).ownBlock=some x\/w.heap.size<=x)/\q.ownBlock≠some n/\Fr (λx=>x=n\/(Value.slice F k G).ownBlock=some x) w C):=λC h=>by rw[hP]at h;exact h
 obtain⟨i0,T,hz0,hz1,eE⟩:=info_parts oY;have HI:=Z T;have iK:=Z hz0;have iz:=Z hz1;have ja:=Z eE;have WK:=Z hB;have HO:=Z ho;unfold Fh at ND;rw[<-hPB]at ND;clear T hz0 hz1 eE hB ho hnd hPB hP WK HO;go_enter func109,ntmps109;go_wp2;refine wp_region_held_drew (S:=λ_=>True) (by kernel_rfl) trivial λ_=>?_;refine htk 0 ?_;refine htk 1 ?_;refine htk 2 ?_;refine htk 3 ?_;refine htk 5 ?_;refine htk 7 ?_;refine dA [4,6] ?_;refine AllReadyH.cons rfl (λK t=>?_) ?_;focus go_simp;refine t.out _ _ trivial λ_=>?_;clear t K;refine dA [6] ?_;refine hone λK t=>?_;go_simp;refine mo ND.o λA B=>?_;obtain⟨e1,e2,M⟩:=xr.o A B;have AF:=Z M;clear M B;refine t.out _ _ trivial λ_=>?_;clear t K;refine htk 8 ?_;refine dA [9] ?_
 rotate_left;focus
  refine hone λK t=>?_;go_simp;refine mo ND.o λA B=>?_;obtain⟨e1,e2,M⟩:=xr.o A B;have AF:=Z M;clear M B;refine t.out _ _ trivial λ_=>?_;clear t K;refine htk 8 ?_;refine dA [4,9] ?_;refine AllReadyH.cons rfl (λK t=>?_) ?_;focus go_simp;refine t.out _ _ trivial λ_=>?_;clear t K;refine dA [9] ?_
  rotate_left;focus refine hone λK t=>?_;go_simp;refine t.out _ _ trivial λ_=>?_;clear t K;refine dA [4] ?_
 all_goals
  refine hone λK t=>?_;go_simp;refine t.out _ _ trivial λ_=>?_;clear t K;refine dA [10] ?_;refine hone λK t=>?_;refine step_append_lies _ rfl (.tmp 10) (.tmp 15) 33 rfl 0 44 i0 _ 4 40 underlying33 HI.o iK.o iz.o ja.o rfl de (.slice F k G) k o rfl AF.o.1 (aD A.heap.size 0) 1 1 [.string PB,.int .i64 (af:Nat),.int .i64 (to:Nat),.int .i64 (f:Nat)] rfl rfl AF.o.2.1 AG.o om (by unfold maxLen;omega) om om _ rfl ?_;intro N s L R D U _;obtain⟨d2,d3,d4,F4⟩:=AF.o.2.2 N s L R D U;have FF4:=Z F4;clear F4 R D U;refine t.out _ _ trivial λ_=>?_;clear t K;refine htk 11 ?_;refine htk 12 ?_;refine dA [13] ?_;refine hone λK t=>?_;go_simp;refine t.out _ _ trivial λ_=>?_;clear t K;try simp only[Act.put,mU]
  refine wpAnyH_done (by kernel_rfl) ?_ _;go_wp2;go_end0;exact⟨rfl,Rk.o _ FF4.o⟩
variable{p:List Value}
theorem Mr{R:Ending->World->Prop}{a:Act}(e:a.defers=[])(d:a.tmps[4]?.getD undef=pT n)(b:V w n p.toArray 202)(f:p.length=22)(c:R (.returned (.agg p.toArray)) w):bodyPost prog f105 R .ret a w:=by refine bodyPost_ret (v:=.agg p.toArray) ?_ e c;have h:=run_loadVar_mid (P:=prog) w n 0 202 p (.array 11 200) (λj v g=>by rw[Nat.zero_add,b.cell j,kL];exact g) (by kernel_rfl) rfl (by rw[f];exact dJ);simp[results,results105,d,asAddr,h]
theorem wH:∀(l:List (List Ct)),(l.flatMap dx).length=l.length*22|[]=>rfl|a::r=>by rw[kD,cG,wH r,cH,nI];omega
theorem Ms{d:jt}(b:Nat)(u:V w k (kF d (.pointer none) i a) 130):Calls prog 105 #[pT n,pT k] w λr s=>r=.returned (.agg (dx (b8 b)).toArray)/\Q w s:=by
 obtain⟨e,f⟩:∃e,e=w.alloc (.cells ba 202):=⟨_,rfl⟩;have o:Q w e:=by rw[f];exact(Fr.refl _ w).alloc _
 have q:V e w.heap.size ba 202:=by rw[f];exact V.new w _ _
 have c5:e.cell? (aD k 5)=some (.pointer none):=(u.fr o id).cell 5;have p:Hid (Calls prog 142 #[] e λr s=>r=.returned (.agg (dx (b8 b)).toArray)/\Q e s):=Rl b;have A:Hid (∀c,Q e c->c.there w.heap.size 0 (dx (b8 b)).toArray.size):=λc h=>jx (q.fr h id) (eK.trans (cH _).symm);have l:Hid (∀c,Q e c->V (c.setCells w.heap.size 0 (dx (b8 b)).toArray.toList) w.heap.size (dx (b8 b)).toArray 202/\Q w (c.setCells w.heap.size 0 (dx (b8 b)).toArray.toList)):=λc h=>⟨eM (dx (b8 b)) [] ba.toList (q.fr h id) (eK.trans (cH _).symm),dO _ _ (o.trans h) (I lr)⟩;have v:Hid ((prog.info? 202).map (·.size)=some (dx (b8 b)).toArray.size):=by rw[List.size_toArray,cH];exact dJ
 have y:Hid ((dx (b8 b)).toArray.all (·.oneCell')=true):=all_oneCell_toArray (oE _);have B:=Z (cH (b8 b));have m:=Z f;clear o q u f;generalize dx (b8 b)=C at*;go_enter func105,ntmps105;apply wp_seq_k;intro x j;apply wp_region_lit;refine ey rfl 202 rfl (some 4) rfl w.heap.size rfl (.agg ba) jz ba rfl ?_;apply wpList_nil;refine j _ _ ?_;clear x j;rw[<-m.o];simp only[Act.put,List.setIfInBounds_toArray,List.set_cons_zero,List.set_cons_succ];go_wp2_with fail;refine mo p.o λc g=>?_;have z:=Z (A.o c g);have t:=Z (l.o c g);clear g;go_wp2_with(refine wpList_store_mid rfl 202 (.tmp 4) (.tmp 10) rfl w.heap.size 0 C.toArray rfl rfl z.o v.o y.o ?_);exact Mr rfl rfl t.o.1 B.o ⟨rfl,t.o.2⟩
variable{q:ByteArray}{f:List Sg}{P:List Ct}
set_option linter.unusedSimpArgs false in
theorem Mt{c2:Value}(hB:V w n (qs (pT k) a c2 d g j l m z) 170)(hp:∀W,Q w W->gW W k q f)(hx:f.length<=10)(G:cD f<=10){y:List (List Ct)}(hpl:y.length<=100)(ho:w.ownsRow 0 202 22 l (y.length+1) (y.flatMap dx++dx P))(hb:xp f i P)(hd:i<=8){pb:Nat}{c:Tv}{L:Nat}{Mu:Value}(hv:Rm w F pb c H J Mu)(A:∀o(h:o<f.length),0<(if f[o].deep=true then(aG P o).al else(aG P o).eB)->nj w f[o].l F c L Mu):Calls prog 105 #[pT n,pT F] w λr M=>r=.returned (.agg (dx (cZ f H L J c P)).toArray)/\Q w M:=by
 obtain⟨b,N,rfl,_,nP⟩:=ho.form om;obtain⟨p,hm⟩:∃p,p=y.length:=⟨_,rfl⟩;have D:(y.flatMap dx).length=p*22:=by rw[hm];exact wH y
 rw[<-hm]at ho;have hmm:(p:Int)<(p:Int)+1:=om;have hwm:IntKind.i64.wrap (p:Int)=p:=by rw[IntWalk.i64_in _ om]
 obtain⟨x,B⟩:∃x,x=w.alloc (.cells ba 202):=⟨_,rfl⟩;have S:Q w x:=by rw[B];exact(Fr.refl _ w).alloc _
 have b1:V x w.heap.size ba 202:=by rw[B];exact V.new w _ _
 have cv5:x.cell? (aD F 5)=some (pT pb):=by obtain⟨⟨Ya,hc⟩,_,_⟩:=hv;exact(hc.fr S id).cell 5
 have SS:Hid (∀W,Q x W->W.cell? (aD n 0)=some (pT k)/\W.cell? (aD n 6)=some (.slice (sA b) (p+1) N)/\W.rangeAt b (p*22) (dx P)):=λW hW=>by
  have o:=S.trans hW;refine⟨(hB.fr o id).cell 0,by rw[(hB.fr o id).cell 6,hm];rfl,λe v hj=>?_⟩;have hj2:e<22:=by have:=(List.getElem?_eq_some_iff.1 hj).1;rw[cH]at this;exact this
  rw[o.cell (p:=(aD b (p*22+e))) nP id,ho.cellAt (p*22+e) om,List.getElem?_append_right om,D];grind
 have SST:Hid (∀t,Q x t->∀C:Array Value,(t.setCells w.heap.size 0 C.toList).cell? (aD n 0)=some (pT k)/\(t.setCells w.heap.size 0 C.toList).cell? (aD n 6)=some (.slice (sA b) (p+1) N)/\(t.setCells w.heap.size 0 C.toList).rangeAt b (p*22) (dx P)):=λt h2 C=>by have hfl:=hB.lt;have h3:Fr (λo=>o=w.heap.size) t (t.setCells w.heap.size 0 C.toList):=dO _ _ (Fr.refl _ _) (Y rfl);have s:=SS.o t h2;have hz:w.heap.size<=t.heap.size:=(S.trans h2).size;refine⟨(h3.cell (p:=aD n 0) (by show n<_;omega) (by show n≠_;omega)).trans s.1,(h3.cell (p:=aD n 6) (by show n<_;omega) (by show n≠_;omega)).trans s.2.1,λe v hj=>?_⟩;exact(h3.cell (p:=(aD b (p*22+e))) (by show b<_;omega) (by show b≠_;omega)).trans (s.2.2 e v hj)
 have T:Hid (Calls prog 143 #[pT k,pT F,.agg (dx P).toArray] x.drew λr M=>r=.returned (.agg (dx (cZ f H L J c P)).toArray)/\Q x M):=by have o:Q w x.drew:=S.drewN 1;exact(uS (hp _ o) hx G hb hd (hv.keep o) λe hj h0=>(A e hj h0).keep o).mono λr M⟨q1,q2⟩=>⟨q1,((Fr.refl _ x).drewN 1).trans q2⟩
 generalize cZ f H L J c P=u at*;have TH:Hid (∀t,Q x t->t.there w.heap.size 0 (dx u).toArray.size):=λt h=>jx (b1.fr h id) (eK.trans (cH _).symm);have Fk:Hid (∀t,Q x t->V (t.setCells w.heap.size 0 (dx u).toArray.toList) w.heap.size (dx u).toArray 202/\Q w (t.setCells w.heap.size 0 (dx u).toArray.toList)):=λt h=>⟨eM (dx u) [] ba.toList (b1.fr h id) (eK.trans (cH _).symm),dO _ _ (S.trans h) (I lr)⟩;have IA:Hid ((prog.info? 202).map (·.size)=some (dx P).length):=by rw[cH];exact dJ
 have IB:Hid ((prog.info? 202).map (·.size)=some (dx u).toArray.size):=by rw[List.size_toArray,cH];exact dJ
 have ON:Hid ((dx u).toArray.all (·.oneCell')=true):=all_oneCell_toArray (oE _);have TL:=Z (cH u);have me:=Z B;clear S b1 hv B A hp G hb ho D hB hm;generalize dx u=C at*;generalize dx P=ct at*;go_enter func105,ntmps105;apply wp_seq_k;intro K0 hK0;apply wp_region_lit;refine ey rfl 202 rfl (some 4) rfl w.heap.size rfl (.agg ba) jz ba rfl ?_;apply wpList_nil;refine hK0 _ _ ?_;clear K0 hK0;rw[<-me.o];simp only[Act.put,List.setIfInBounds_toArray,List.set_cons_zero,List.set_cons_succ];go_wp2;refine wp_region_held_drew (S:=λM=>M.cell? (aD n 0)=some (pT k)/\M.cell? (aD n 6)=some (.slice (sA b) (p+1) N)/\M.rangeAt b (p*22) ct) (by kernel_rfl) (SS.o x.drew ((Fr.refl _ _).drewN 1)) λ_=>?_;refine htk 0 ?_;refine htk 1 ?_;refine htk 2 ?_;refine htk 3 ?_;refine htk 4 ?_;refine htk 5 ?_;refine htk 6 ?_;refine htk 7 ?_;refine htk 8 ?_;refine htk 9 ?_;refine htk 10 ?_;refine htk 11 ?_;refine htk 12 ?_;refine htk 13 ?_;refine htk 14 ?_;refine htk 15 ?_;try simp only[Act.put,mU]
 refine wpAnyH_take (i:=16) (v:=.agg ct.toArray) rfl (by kernel_rfl) (by kernel_rfl) (by kernel_rfl) (λ_ _ _ h=>h) ?hyL (by assumption) ?ahp;case hyL=>exact yieldsIf_load_mid (by rfl) 202 (.tmp 26) rfl b (p*22) (by kernel_rfl) ct (.array 11 200) (λw hS=>hS.2.2) (by kernel_rfl) rfl IA.o
 refine dA [17] ?_;refine hone λK U=>?_;go_simp;refine mo T.o λt R=>?_;have K2:=Z R;refine U.out _ _ (SS.o t R) λ_=>?_;clear U K R;refine dA [18] ?_;refine hone λK U=>?_;rw[ae (by rfl)];refine wp_store_mid 202 (.tmp 4) (.tmp 28) rfl w.heap.size 0 C.toArray rfl rfl (TH.o t K2.o) IB.o ON.o ?_;refine U.out _ _ (SST.o t K2.o C.toArray) λ_=>?_;clear U K;try simp only[Act.put,mU]
 refine wpAnyH_done (by kernel_rfl) ?_ _;have F2:=Z (Fk.o t K2.o);go_wp2;exact Mr rfl rfl F2.o.1 TL.o ⟨rfl,F2.o.2⟩
def Yb(o:Option Nat):Value:=match o with|none=>.pointer none|some b=>lF b
theorem Hb(b:V w n (qs a c d g j l m (lF k) z) 170)(v:Value):Calls prog 77 #[pT n,v] w λr e=>r=.returned (.bool true)/\Q w e:=by have f:w.cell? (aD n 7)=some (pT k):=b.cell 7;clear b;go_enter func77,ntmps77;go_wp2;go_ret;exact⟨rfl,Fr.refl _ _⟩
theorem BU:(prog.info? 202).map (λi=>(i.zero,i.size,i.bytes))=some (some (.agg ba),22,176):=by kernel_rfl
theorem zB:(Value.agg ba).cells.size=22:=by kernel_rfl
set_option linter.unusedSimpArgs false in
theorem Hc{p:Nat}{cells:List Value}{n:Nat}(hB:V w p (qs (pT k) a c d g j l (.pointer none) m) 170)(hp:∀W,Fr (λz=>z=p\/l.ownBlock=some z) w W->gW W k q f)(hx:f.length<=10)(hn:n<=100)(ho:w.ownsRow 0 202 22 l n cells)(hne:l.ownBlock≠some p)(hto:Calls prog 105 #[pT p,pT i] w λr L=>r=.returned (.agg (dx P).toArray)/\Q w L):Calls prog 77 #[pT p,pT i] w λr L=>r=.returned (.bool false)/\∃A,V L p (qs (pT k) a c d g j A (Yb (if ay f<f.length/\0<(aG P (ay f)).eB then some i else none)) m) 170/\L.ownsRow 0 202 22 A (n+1) (cells++dx P)/\(∀G,A.ownBlock=some G->l.ownBlock=some G\/w.heap.size<=G)/\A.ownBlock≠some p/\Fr (λG=>G=p\/l.ownBlock=some G) w L:=by
 obtain⟨M,N,rfl⟩:=X ho;have hfl:=hB.lt;have d7:w.cell? (aD p 7)=some (.pointer none):=hB.cell 7;have IA0:=dJ;have ON0:=oE P;have S:=cH P;have OFH:Hid (∀W,Fr (λz=>z=p\/(Value.slice M n N).ownBlock=some z) w W->Calls prog 107 #[pT k,.agg (dx P).toArray] W λr L=>r=.returned (.bool (decide (0<(aG P (ay f)).eB)))/\Q W L):=λW hW=>Mv (hp W hW) hx P;have aaC:Hid (∀W,Fr (λz=>z=p\/(Value.slice M n N).ownBlock=some z) w W->Calls prog 106 #[pT k] W λr L=>r=.returned (.bool (decide (ay f<f.length)))/\Q W L):=λW hW=>WL (hp W hW);generalize(aG P (ay f)).eB=eB at*;generalize dx P=B at*;obtain⟨hdn,wX⟩:∃hdn,hdn=(if ay f<f.length/\0<eB then some i else none):=⟨_,rfl⟩;obtain⟨lb,hlb⟩:∃lb,lb=decide (ay f<f.length):=⟨_,rfl⟩;obtain⟨ib,hib⟩:∃ib,ib=decide (0<eB):=⟨_,rfl⟩;have aaD:lb=true/\(ib=true/\hdn=some i\/ib=false/\hdn=none)\/lb=false/\hdn=none:=by subst hlb hib wX;by_cases h1:ay f<f.length<;>by_cases h2:0<eB<;>simp[h1,h2]
 rw[<-wX];rw[<-hib]at OFH;rw[<-hlb]at aaC;clear wX hlb hib;obtain⟨P4,Oa⟩:∃P4:Nat->World->Prop,P4=λtb L=>∃A,V L p (qs (pT k) a c d g j A (.pointer none) m) 170/\L.ownsRow 0 202 22 A (n+1) (cells++B)/\(∀G,A.ownBlock=some G->(Value.slice M n N).ownBlock=some G\/w.heap.size<=G)/\A.ownBlock≠some p/\Fr (λG=>G=p\/(Value.slice M n N).ownBlock=some G) w L/\L.rangeAt tb 0 B/\tb≠p/\w.heap.size<=tb:=⟨_,rfl⟩;have xr:Hid (∀C,Q w C->((C.alloc (.cells ba 202)).there C.heap.size 0 B.toArray.size)/\∃J,J=(C.alloc (.cells ba 202)).setCells C.heap.size 0 B.toArray.toList/\J.drew.rangeAt C.heap.size 0 B/\J.drew.cell? (aD p 6)=some (.slice M n N)/\∃W3,W3=J.drew.alloc (.cells B.toArray 202)/\W3.rangeAt C.heap.size 0 B/\W3.cell? (aD p 6)=some (.slice M n N)/\W3.ownsRow 0 202 22 (.slice M n N) n cells/\(∀(t:Nat)(u:Value),B[t]?=some u->W3.cell? (((aD J.drew.heap.size 0):Addr).add t)=some u)/\∀g4 D R,R.ownsRow 0 202 22 (.slice (sA g4) (n+1) D) (n+1) (cells++B)->W3.grownBy R (Value.slice M n N).ownBlock->((Value.slice M n N).ownBlock=some g4\/g4=W3.heap.size)->R.rangeAt C.heap.size 0 B/\R.cell? (aD p 6)=some (.slice M n N)/\(∀s,R.frozen? (aD p s)=false)/\(∀v,(R.setCell (aD p 6) v).cell? (aD p 6)=some v)/\(R.setCell (aD p 6) (.slice (sA g4) (n+1) D)).rangeAt C.heap.size 0 B/\P4 C.heap.size (R.setCell (aD p 6) (.slice (sA g4) (n+1) D))):=λC oH=>by
  have bz:V (C.alloc (.cells ba 202)) C.heap.size ba 202:=V.new C _ _;have hz:=oH.size;refine⟨jx bz (eK.trans (by rw[List.size_toArray,S])),_,rfl,?_⟩;obtain⟨J,nQ⟩:∃J,J=(C.alloc (.cells ba 202)).setCells C.heap.size 0 B.toArray.toList:=⟨_,rfl⟩;rw[<-nQ];have b2:V J C.heap.size B.toArray 202:=by rw[nQ];exact eM B [] ba.toList bz (eK.trans S.symm)
  have k2:Q C J:=by rw[nQ];exact dO _ _ ((Fr.refl _ C).alloc _) (I lr)
  have k2':Q w J.drew:=(oH.trans k2).drewN 1;have rg:∀{W:World},V W C.heap.size B.toArray 202->W.rangeAt C.heap.size 0 B:=λ{W}h t v hv=>by rw[Nat.zero_add,h.cell t,kL];exact hv
  have k3:Q w (J.drew.alloc (.cells B.toArray 202)):=k2'.alloc _;have b3:V (J.drew.alloc (.cells B.toArray 202)) C.heap.size B.toArray 202:=V.alloc (w:=J.drew) b2 _;refine⟨rg (W:=J.drew) b2,(hB.fr k2' id).cell 6,_,rfl,rg b3,(hB.fr k3 id).cell 6,aQ ho λs U=>k3.block s (ho.lt s U).2 id,?_,?_⟩
  .intro t u hj;have aet:((aD J.drew.heap.size 0):Addr).add t=(aD J.drew.heap.size t):=by unfold Addr.add;split<;>simp_all
   rw[aet,(V.new J.drew B.toArray 202).cell t,kL];exact hj
  obtain⟨W3,T_⟩:∃W3,W3=J.drew.alloc (.cells B.toArray 202):=⟨_,rfl⟩;rw[<-T_]at b3 k3⊢;intro g4 D R ho4 T q_;have bf3:=hB.fr k3 id;have b4:V R p (qs (pT k) a c d g j (.slice M n N) (.pointer none) m) 170:=by show R.heap[p]?=_;rw[T.block p (aI hfl k3.size) λe=>hne e.symm];exact bf3
  have t4:V R C.heap.size B.toArray 202:=by show R.heap[C.heap.size]?=_;rw[T.block _ b3.lt λe=>by have:=(ho.lt _ e.symm).2;omega];exact b3
  have hgf:g4≠p:=by
   rcases q_ with e|e;.exactλy=>hne (y▸e)
   have:=k3.size;intro y;rw[<-y]at hfl;omega
  have htf:C.heap.size≠p:=om;have t5:V (R.setCell (aD p 6) (.slice (sA g4) (n+1) D)) C.heap.size B.toArray 202:=by show(R.setCell (aD p 6) _).heap[C.heap.size]?=_;rw[Below.heap_setCell _ _ _ _ λe=>htf e];exact t4
  refine⟨rg t4,b4.cell 6,b4.fz,λv=>(b4.set 6 v).cell 6,rg t5,?_⟩;rw[Oa];refine⟨.slice (sA g4) (n+1) D,b4.set 6 _,?_,λG hkk=>?_,λe=>hgf (cI e),?_,rg t5,htf,hz⟩;.exact aQ ho4 λs U=>Below.heap_setCell _ _ _ _ λe=>hgf ((cI U).trans e)
  .have e:g4=G:=cI hkk;subst e;rcases q_ with e|e;.exact Y e
   exact I (by rw[e];exact k3.size)
  refine Fr.setCell ?_ (aD p 6) (Y (Y rfl)) _;exact⟨T.os.trans k3.os,T.tape.trans k3.tape,T.output.trans k3.output,az k3.size T.size,λs U hn=>by rw[T.block s (aI U k3.size) λe=>hn (I e.symm)];exact k3.block s U id⟩
 have Fk:Hid (∀tb W5,P4 tb W5->(∀W,Q W5 W->W.cell? (aD p 0)=some (pT k)/\W.rangeAt tb 0 B)/\(∀W,Q W5 W->Fr (λz=>z=p\/(Value.slice M n N).ownBlock=some z) w W)/\(∀W,Q W5 W->W.cell? (aD p 7)=some (.pointer none)/\(∀s,W.frozen? (aD p s)=false))/\(∀W,Q W5 W->∃A,V W p (qs (pT k) a c d g j A (.pointer none) m) 170/\W.ownsRow 0 202 22 A (n+1) (cells++B)/\(∀G,A.ownBlock=some G->(Value.slice M n N).ownBlock=some G\/w.heap.size<=G)/\A.ownBlock≠some p/\Fr (λG=>G=p\/(Value.slice M n N).ownBlock=some G) w W)/\(∀W,Q W5 W->∃A,V (W.setCell (aD p 7) (pT i)) p (qs (pT k) a c d g j A (lF i) m) 170/\(W.setCell (aD p 7) (pT i)).ownsRow 0 202 22 A (n+1) (cells++B)/\(∀G,A.ownBlock=some G->(Value.slice M n N).ownBlock=some G\/w.heap.size<=G)/\A.ownBlock≠some p/\Fr (λG=>G=p\/(Value.slice M n N).ownBlock=some G) w (W.setCell (aD p 7) (pT i)))):=λtb W5 h5=>by
  rw[Oa]at h5;obtain⟨A,q1,q2,q3,q4,q5,q6,q7,q8⟩:=h5;have F:∀W,Q W5 W->Fr (λz=>z=p\/(Value.slice M n N).ownBlock=some z) w W:=λW z=>q5.new z λ_ _ e=>e.elim;refine⟨λW z=>⟨(q1.fr z id).cell 0,λt v hj=>(World.cell?_of_block (w:=W5) (z.block tb ?_ id)).trans (q6 t v hj)⟩,F,λW z=>⟨(q1.fr z id).cell 7,(q1.fr z id).fz⟩,λW z=>⟨A,q1.fr z id,aQ q2 λs U=>z.block s (q2.lt s U).2 id,q3,q4,F W z⟩,λW z=>⟨A,(q1.fr z id).set 7 _,?_,q3,q4,?_⟩⟩;.exact World.block_lt_of_cell? W5 (aD tb (0+t)) (q6 t v hj)
  .have o:=aQ (w':=W) q2 λs U=>z.block s (q2.lt s U).2 id;exact aQ o λs U=>Below.heap_setCell _ _ _ _ λe=>q4 (U.trans (by rw[e]))
  exact(F W z).setCell (aD p 7) (Y (Y rfl)) _
 obtain⟨i0,U,hz0,hz1,eE⟩:=info_parts BU;have aaE:Hid (∀b:Act,b.eval (.tmp 19)=.agg B.toArray->Instr.fill (λs=>some (s*i0.size,i0.size)) ((Array.range (1*i0.size)).map ((Value.agg ba).cells[·%(Value.agg ba).cells.size]!)) ((#[(0,Operand.tmp 19)]:Array (Nat×Operand)).map λ(s,x)=>(s,b.eval x)).toList=some B.toArray):=λb ha=>by
  have hv:(Value.agg B.toArray).cells=B.toArray:=rfl;have:=Great.fill_whole (s:=22) de [Value.agg B.toArray] ((Array.range (1*22)).map ((Value.agg ba).cells[·%(Value.agg ba).cells.size]!)) λv WM=>by rw[dy.1 WM,hv,List.size_toArray,S] si;rw[hz1];have e:((#[(0,Operand.tmp 19)]:Array (Nat×Operand)).map λ(s,x)=>(s,b.eval x)).toList=(([Value.agg B.toArray].zipIdx 0).map λx=>(x.2,x.1)):=by simp[ha]
  rw[e,this];simp[hv]
 have HI:=Z U;have iK:=Z hz0;have iz:=Z hz1;have ja:=Z eE;have IA:Hid ((prog.info? 202).map (·.size)=some B.length):=by rw[S];exact IA0
 have IB:Hid ((prog.info? 202).map (·.size)=some B.toArray.size):=by rw[List.size_toArray,S];exact IA0
 have ON:Hid (B.toArray.all (·.oneCell')=true):=all_oneCell_toArray ON0;have AG:=Z ON0;have TL:=Z S;have TO:=Z hto;have aaF:¬1*i0.size>2^24:=by rw[hz1];decide
 have aaG:¬1*i0.size=0:=by rw[hz1];decide
 have SML:=Z aaF;have POS:=Z aaG;have HN:=Z hn;clear U hz0 hz1 eE aaF aaG hB ho Oa hp hto IA0 ON0 S hne hfl;go_enter func77,ntmps77;go_wp2_with fail;refine mo TO.o λC oH=>?_;obtain⟨th,J,nQ,s2,e2,W3,T_,s3,e3,o3,n3,U9⟩:=xr.o C oH;have T2:=Z th;have Cs:=Z nQ;have Ot:=Z T_;have S2:=Z s2;have S3:=Z s3;have O3:=Z o3;have N3:=Z n3;have AF:=Z U9;clear oH th nQ T_ s2 s3 o3 n3 U9;go_wp2_with(first|refine ey rfl 202 rfl (some 5) rfl C.heap.size rfl (.agg ba) jz ba rfl ?_|refine wpList_store_mid rfl 202 (.tmp 5) (.tmp 13) rfl C.heap.size 0 B.toArray rfl rfl T2.o IB.o ON.o ?_);rw[<-Cs.o];refine wp_region_held_drew (S:=λL=>L.rangeAt C.heap.size 0 B) (by kernel_rfl) S2.o λ_=>?_;refine htk 0 ?_;refine htk 1 ?_;refine htk 2 ?_;refine htk 3 ?_;try simp only[Act.put,mU]
 refine wpAnyH_take (i:=5) (v:=.agg B.toArray) rfl (by kernel_rfl) (by kernel_rfl) (by kernel_rfl) (λ_ _ _ h=>h) ?hy5 (by assumption) ?ahv;case hy5=>exact yieldsIf_load_mid (by rfl) 202 (.tmp 5) rfl C.heap.size 0 (by kernel_rfl) B (.array 11 200) (λw hS=>hS) (by kernel_rfl) rfl IA.o
 refine dA [4,6] ?_;refine AllReadyH.cons rfl (λK H=>?_) ?_;focus go_simp;refine H.out _ _ S2.o λ_=>?_;clear H K;refine dA [6] ?_;refine hone λK H=>?_;rw[ae (by rfl)];refine wp_buildSlice 168 202 1 #[(0,.tmp 19)] rfl B.toArray i0 (.agg ba) underlying168 HI.o iK.o SML.o POS.o (aaE.o _ rfl) ?_;rw[<-Ot.o];refine H.out _ _ S3.o λ_=>?_;clear H K
 rotate_left;focus refine hone λK H=>?_;rw[ae (by rfl)];refine wp_buildSlice 168 202 1 #[(0,.tmp 19)] rfl B.toArray i0 (.agg ba) underlying168 HI.o iK.o SML.o POS.o (aaE.o _ rfl) ?_;rw[<-Ot.o];refine H.out _ _ S3.o λ_=>?_;clear H K;refine dA [4] ?_;refine hone λK H=>?_;go_simp;refine H.out _ _ S3.o λ_=>?_;clear H K
 all_goals
  refine dA [7] ?_;refine hone λK H=>?_;refine step_append_lies _ rfl (.tmp 18) (.tmp 20) 168 rfl 0 202 i0 _ 22 176 underlying168 HI.o iK.o iz.o ja.o zB de (.slice M n N) n cells rfl O3.o (aD J.drew.heap.size 0) 1 1 B rfl TL.o N3.o AG.o om (by have:=HN.o;unfold maxLen;omega) (by have:=HN.o;omega) om _ rfl ?_;intro g4 D R T' Mw aaH _;obtain⟨s4,d2,d3,d4,s5,F4⟩:=AF.o g4 D R T' Mw aaH;have FF4:=Z F4;have S4:=Z s4;have S5:=Z s5;clear F4 T' Mw aaH s4 s5;refine H.out _ _ S4.o λ_=>?_;clear H K;refine htk 8 ?_;refine htk 9 ?_;refine dA [10] ?_;refine hone λK H=>?_;go_simp;refine H.out _ _ S5.o λ_=>?_;clear H K;try simp only[Act.put,mU]
  refine wpAnyH_done (by kernel_rfl) ?_ _;obtain⟨w5,hw5⟩:∃w5,w5=R.setCell (aD p 6) (.slice (sA g4) (n+1) D):=⟨_,rfl⟩;rw[<-hw5]at FF4⊢;have F5:=Z (Fk.o C.heap.size w5 FF4.o);clear hw5 FF4 S4 S5 d2 d3 d4;go_wp2_with fail;refine wp_region_held_drew (S:=λL=>L.cell? (aD p 0)=some (pT k)/\L.rangeAt C.heap.size 0 B) (by kernel_rfl) (F5.o.1 _ ((Fr.refl _ _).drewN 1)) λ_=>?_;refine htk 0 ?_;refine htk 1 ?_;refine htk 2 ?_;refine htk 3 ?_;refine dA [4] ?_;refine hone λK H=>?_;go_simp;refine mo (aaC.o _ (F5.o.2.1 _ ((Fr.refl _ _).drewN 1))) λw6 hk6=>?_;have K6:Hid (Q w5 w6):=((Fr.refl _ _).drewN 1).trans hk6;clear hk6;refine H.out _ _ (F5.o.1 _ K6.o) λ_=>?_;clear H K;refine htk 5 ?_;rcases aaD with⟨rfl,CS⟩|⟨rfl,rfl⟩
  .refine htk 6 ?_;refine htk 7 ?_;refine htk 8 ?_;refine htk 9 ?_;try simp only[Act.put,mU]
   refine wpAnyH_take (i:=10) (v:=.agg B.toArray) rfl (by kernel_rfl) (by kernel_rfl) (by kernel_rfl) (λ_ _ _ h=>h) ?_ (by assumption) ?_;.exact yieldsIf_load_mid (by rfl) 202 (.tmp 5) rfl C.heap.size 0 (by kernel_rfl) B (.array 11 200) (λw hS=>hS.2) (by kernel_rfl) rfl IA.o
   refine dA [11] ?_;refine hone λK H=>?_;go_simp;refine mo (OFH.o _ (F5.o.2.1 _ K6.o)) λw7 hk7=>?_;have K7:Hid (Q w5 w7):=K6.o.trans hk7;clear hk7;refine H.out _ _ (F5.o.1 _ K7.o) λ_=>?_;clear H K;refine htk 12 ?_;try simp only[Act.put,mU]
   refine wpAnyH_done (by kernel_rfl) ?_ _;rcases CS with⟨rfl,rfl⟩|⟨rfl,rfl⟩;.obtain⟨e7,fz7⟩:=F5.o.2.2.1 _ K7.o;go_wp2;go_ret;exact⟨rfl,F5.o.2.2.2.2 _ K7.o⟩
   go_wp2;go_ret;exact⟨rfl,F5.o.2.2.2.1 _ K7.o⟩
  refine Fq 6 ?_;refine Fq 7 ?_;refine Fq 8 ?_;refine Fq 9 ?_;refine Fq 10 ?_;refine Fq 11 ?_;refine htk 12 ?_;try simp only[Act.put,mU]
  refine wpAnyH_done (by kernel_rfl) ?_ _;go_wp2;go_ret;exact⟨rfl,F5.o.2.2.2.1 _ K6.o⟩
theorem Ex:(prog.info? 130).map (·.size)=some 9:=by kernel_rfl
theorem Mx(w:World)(a:Nat):(binOp .neq 71 (pT a) (pT a)).run prog w=.ok (.bool false) w:=by
 obtain⟨j,b,_⟩:=Option.map_eq_some_iff.1 Ex;have h:∀d:Nat,(Op.equalIn (d+1) 71 (pT a) (pT a)).run prog w=.ok true w:=λd=>by simp[Op.equalIn,run_underlying underlying71,sizeOf,typeInfo,b,run_sameAddr_same]
 simp only[binOp];simp[Op.equal,Op.maxDepth,h 9999]
variable{L N:Array Value}{S U:TypeId}
theorem Hd(w:World)(a:n≠k)(c:V w n L S)(f:V w k N U):(binOp .neq 71 (pT n) (pT k)).run prog w=.ok (.bool true) w:=by
 obtain⟨j,g,i⟩:=Option.map_eq_some_iff.1 Ex;have b:j.size≠0:=by rw[i];decide
 have h:∀d:Nat,(Op.equalIn (d+1) 71 (pT n) (pT k)).run prog w=.ok false w:=λd=>by simp[Op.equalIn,run_underlying underlying71,sizeOf,typeInfo,g,b,run_sameAddr_other w (a:=aD n 0) (b:=aD k 0) (λe=>a (by injection e)) c f]
 simp only[binOp];simp[Op.equal,Op.maxDepth,h 9999]
theorem He{vb:Nat}(h:V w n (qs a c d g j l m (lF k) z) 170)(b:k≠vb)(e:V w k L S)(f:V w vb N U):Calls prog 78 #[pT n,pT vb] w λr o=>r=.returned (.tuple #[])/\Q w o:=by have p:w.cell? (aD n 7)=some (pT k):=h.cell 7;have i:=Hd w b e f;clear h e f b;go_enter func78,ntmps78;go_wp2;(try simp only[Exit.inBlock,Exit.then]);refine bodyPost_ret (results_none rfl _ _ _) rfl ?_;exact⟨rfl,Fr.refl _ _⟩
set_option linter.unusedSimpArgs false in
theorem Hf(x:V w n (qs (pT k) a c d g j (.slice (sA F) (H+1) J) l m) 170)(hh:l=.pointer none\/l=pT i)(hm:H<=100)(S:H+1<=J)(W:w.rangeAt F (H*22) p)(U:p.length=22){Q:Value->World->Prop}(s:Calls prog 108 #[pT k,pT i,.agg p.toArray,.func (.func 109) #[pT n] #[]] w.drew λr q=>r=.returned (.tuple #[])/\∃f,V q n (qs (pT k) a c d g j (.slice (sA F) (H+1) J) l f) 170/\q.rangeAt F (H*22) p/\Q f q):Calls prog 78 #[pT n,pT i] w λr q=>r=.returned (.tuple #[])/\∃o f,Q f o/\V q n (qs (pT k) a c d g j (.slice (sA F) H J) (.pointer none) f) 170/\Fr (λe=>e=n) o q:=by
 have d7:w.cell? (aD n 7)=some l:=x.cell 7;have d6:w.cell? (aD n 6)=some (.slice (sA F) (H+1) J):=x.cell 6;have d0:w.cell? (aD n 0)=some (pT k):=x.cell 0;have P:Hid (w.drew.cell? (aD n 0)=some (pT k)/\w.drew.cell? (aD n 6)=some (.slice (sA F) (H+1) J)/\w.drew.rangeAt F (H*22) p):=⟨d0,d6,W⟩;have C:=Z s;have D:Hid (∀o f,V o n (qs (pT k) a c d g j (.slice (sA F) (H+1) J) l f) 170->o.rangeAt F (H*22) p->Q f o->(o.cell? (aD n 0)=some (pT k)/\o.cell? (aD n 6)=some (.slice (sA F) (H+1) J)/\o.rangeAt F (H*22) p)/\(∀b,o.frozen? (aD n b)=false)/\(∀b,(o.setCell (aD n 6) (.slice (sA F) H J)).frozen? (aD n b)=false)/\(o.setCell (aD n 6) (.slice (sA F) H J)).cell? (aD n 7)=some l/\∃w2 f,Q f w2/\V ((o.setCell (aD n 6) (.slice (sA F) H J)).setCell (aD n 7) (.pointer none)) n (qs (pT k) a c d g j (.slice (sA F) H J) (.pointer none) f) 170/\Fr (λe=>e=n) w2 ((o.setCell (aD n 6) (.slice (sA F) H J)).setCell (aD n 7) (.pointer none))):=λo f u y z=>by have G:=u.set 6 (.slice (sA F) H J);exact⟨⟨u.cell 0,u.cell 6,y⟩,u.fz,G.fz,G.cell 7,o,f,z,G.set 7 _,((Fr.refl (λe=>e=n) o).setCell (aD n 6) (Y rfl) _).setCell (aD n 7) (Y rfl) _⟩
 have hmm:(H:Int)<(H:Int)+1:=om;have hwm:IntKind.i64.wrap (H:Int)=H:=by rw[IntWalk.i64_in _ om]
 have hmc:(H:Int)<=(J:Int):=om;have hm0:(0:Int)<=(H:Int):=om;have T:=Mx w i;have N:Hid ((prog.info? 202).map (·.size)=some p.length):=by rw[U];exact dJ
 clear x s W U;rcases hh with rfl|rfl;focus
  go_enter func78,ntmps78;go_wp2;refine wp_region_held_drew (S:=λq=>q.cell? (aD n 0)=some (pT k)/\q.cell? (aD n 6)=some (.slice (sA F) (H+1) J)/\q.rangeAt F (H*22) p) (by kernel_rfl) P.o λ_=>?_;refine htk 0 ?_;refine htk 1 ?_;refine htk 2 ?_;refine htk 3 ?_;refine htk 4 ?_;refine htk 5 ?_;refine htk 6 ?_;refine htk 7 ?_;refine htk 8 ?_;refine htk 9 ?_;refine htk 10 ?_;try simp only[Act.put,mU]
  refine wpAnyH_take (i:=11) (v:=.agg p.toArray) rfl (by kernel_rfl) (by kernel_rfl) (by kernel_rfl) (λ_ _ _ h=>h) ?hy12 (by assumption) ?A;case hy12=>exact yieldsIf_load_mid (by rfl) 202 (.tmp 34) rfl F (H*22) (by kernel_rfl) p (.array 11 200) (λw L=>L.2.2) (by kernel_rfl) rfl N.o
 rotate_left;focus
  go_enter func78,ntmps78;go_wp2;refine wp_region_held_drew (S:=λq=>q.cell? (aD n 0)=some (pT k)/\q.cell? (aD n 6)=some (.slice (sA F) (H+1) J)/\q.rangeAt F (H*22) p) (by kernel_rfl) P.o λ_=>?_;refine htk 0 ?_;refine htk 1 ?_;refine htk 2 ?_;refine htk 3 ?_;refine htk 4 ?_;refine htk 5 ?_;refine htk 6 ?_;refine htk 7 ?_;refine htk 8 ?_;refine htk 9 ?_;refine htk 10 ?_;try simp only[Act.put,mU]
  refine wpAnyH_take (i:=11) (v:=.agg p.toArray) rfl (by kernel_rfl) (by kernel_rfl) (by kernel_rfl) (λ_ _ _ h=>h) ?hy26 (by assumption) ?B;case hy26=>exact yieldsIf_load_mid (by rfl) 202 (.tmp 34) rfl F (H*22) (by kernel_rfl) p (.array 11 200) (λw L=>L.2.2) (by kernel_rfl) rfl N.o
 all_goals
  refine htk 12 ?_;refine htk 13 ?_;refine dA [14] ?_;refine hone λK R=>?_;go_simp;refine C.o.mono ?_;rintro r o⟨rfl,f,u,y,z⟩;obtain⟨M,UL,fz2,e7,v⟩:=D.o o f u y z;have e6:=M.2.1;have S1:=Z M;have t:=Z v;clear u y z M v;refine R.out _ _ S1.o λ_=>?_;clear R K;try simp only[Act.put,mU]
  refine wpAnyH_done (by kernel_rfl) ?_ _;go_wp2;go_end0;exact⟨rfl,t.o⟩
structure Fx where
 tl:List (List Ct)hd:Option Nat
 told:List (Tv×Nat)tj:Value
 ti:Value
def dW(f:Nat):Value:=pT f
def Ua(f:Nat):Value:=.func (.func 77) #[dW f] #[]
def Ub(f:Nat):Value:=.func (.func 78) #[dW f] #[]
def E8(b f:Nat)(x:Fx)(a n i:Value):Array Value:=qs (dW b) (Ua f) (Ub f) a n i x.tj (Yb x.hd) x.ti
theorem YN(b f:Nat):vx 170 1 (Ua f) (Ub f) (E8 b f)where
 c0:=λh=>h.cell 1
 c1:=λh=>h.cell 2
 c2:=λh=>h.cell 3
 c3:=λh=>h.cell 4
 c4:=λh=>h.cell 5
 s2:=λv h=>h.set 3 v
 s3:=λv h=>h.set 4 v
 s4:=λv h=>h.set 5 v
def EZ(p:Tv×Nat):List Value:=j9 p.1.d.path p.1.d.af p.1.d.to p.2
structure FS(b:Nat)(tt:ByteArray)(xs:List Sg)(Dp:Nat->Prop)(H:Nat->Option Obj)(w:World)(D:Nat->Prop)(x:Fx):Prop where
 p:fg Dp w (λw=>gW w b tt xs)pl:∀k,Dp k->k<w.heap.size
 e:EN w
 t:w.ownsRow 0 202 22 x.tj x.tl.length (x.tl.flatMap dx)o:w.ownsRow 0 44 4 x.ti x.told.length (x.told.flatMap EZ)nt:∀k,x.tj.ownBlock=some k->x.ti.ownBlock≠some k/\¬Dp k/\¬jO k
 no:∀k,x.ti.ownBlock=some k->¬Dp k/\¬jO k
 d:∀k,D k↔Dp k\/jO k\/x.tj.ownBlock=some k\/x.ti.ownBlock=some k
 sm:∀k,Dp k\/jO k->w.heap[k]?=H k
variable{t:Nat->Option Obj}{B:Fx}
theorem FS.lt(h:FS n q f b t w R B)(a:R k):k<w.heap.size:=by
 rcases(h.d k).1 a with e|e|e|e;.exact h.pl k e
 .exact h.e.low e
 .exact(h.t.lt k e).2
 exact(h.o.lt k e).2
theorem FS.keep{w w':World}{D:Nat->Prop}(h:FS n q f b t w D B)(s:Sm D w w')(c:w.heap.size<=w'.heap.size):FS n q f b t w' D B:=⟨h.p.keep λk a=>s k ((h.d k).2 (Y a)),λk a=>aI (h.pl k a) c,h.e.sm λk a=>s k ((h.d k).2 (I (Y a))),aQ h.t λk a=>s k ((h.d k).2 (I (I (Y a)))),aQ h.o λk a=>s k ((h.d k).2 (I (I (I a)))),h.nt,h.no,h.d,λk a=>(s k ((h.d k).2 (a.elim Y λy=>I (Y y)))).trans (h.sm k a)⟩
def Ib(a:List Sg)(x:Fx)(r:List Fm)(f:Fm):List Ct:=match r with|[]=>b8 a.length|p::_=>cZ a p.d.kind p.ws.length f.ix ⟨f.d,[]⟩ (x.tl.getLastD [])
def Po(a:List Sg)(T:List Ct)(b:Nat):Option Nat:=if ay a<a.length/\0<(aG T (ay a)).eB then some b else none
def Ta(c:List Sg)(x:Fx)(r:List Fm)(f:Fm)(b:Nat)(d:Fx):Prop:=if x.hd.isSome=true then d=x else∃a,d=⟨x.tl++[Ib c x r f],Po c (Ib c x r f) b,x.told,a,x.ti⟩
def U4(e:List Sg)(x:Fx)(_:List Fm)(f:Fm)(b:Nat)(d:Fx):Prop:=if x.hd.isSome=true/\x.hd≠some b then d=x else∃c a,d=⟨x.tl.dropLast,none,x.told++b7 e 10 ⟨f.d,f.ws⟩ (x.tl.getLastD []),c,a⟩
def aaI(a:List Sg)(x:Fx)(r:List Fm)(f:Fm)(_:Nat):Prop:=x.hd=none->x.tl.length=r.length/\f.ix<=4000000/\∀i(h:i<x.tl.length),xp a i x.tl[i]/\Zh a x.tl[i]
structure U3(xs:List Sg)(x:Fx)(r:List Fm)(f:Fm):Prop where
 tl:x.tl.length=r.length+1
 ct:xp xs r.length (x.tl.getLastD [])n:x.told.length+(ai 10 ⟨f.d,f.ws⟩).length<=4000000
 nm:∀v∈ai 10 ⟨f.d,f.ws⟩,EW v
 ws:f.ws.length<=4000000
 kp:f.kp=false
 pth:mN (f::r)stk:tw (f::r)
def aaJ(b:List Sg)(x:Fx)(r:List Fm)(f:Fm)(A:Nat->Nat):Prop:=(∀a,x.hd=some a->a=A f.d.af\/∃g∈r,a=A g.d.af)/\((x.hd=none\/x.hd=some (A f.d.af))->U3 b x r f)
theorem fO.blk:∀{l:List Fm}{d:List Value}{M:Nat->Prop},fO w r b n l d M->∀g∈l,∃c,V w (r g.d.af) c 130
 |f::a,_,_,⟨sv,k,h,_,_,_,i⟩,g,j=>by
  rcases fU.1 j with e|e;.rw[e];exact⟨_,h.b⟩
  exact fO.blk i g e
theorem My(h:w.ownsRow n k J (.slice (sA i) (F+1) H) (F+1) p):w.ownsRow n k J (.slice (sA i) F H) F (p.take (F*J))/\F+1<=H:=by
 have q:=h.1;have d:(F+1)*J=F*J+J:=by rw[Nat.add_mul,Nat.one_mul]
 rcases h.2 with⟨x,_⟩|⟨o,c,b,x,f,g,j,l,m,s⟩;.cases x
 injection x with a r e;injection a with a;injection a with a;subst a e;refine⟨⟨by simp;omega,I ⟨i,H,b,rfl,f,g,om,l,m,?_⟩⟩,j⟩;grind
theorem lL{b:Type}(l:List b)(a:b)(h:l≠[]):l=l.dropLast++[l.getLastD a]:=by cases l with|nil=>exact absurd rfl h|cons x y=>have:=List.dropLast_concat_getLast (l:=x::y) si;grind
theorem FB.deep:∀{a:Nat}{t:Tv},Tr.FB n a t->Deep a t|0,_,h=>h.elim|a+1,t,⟨_,b⟩=>λc d=>by obtain⟨i,e,rfl⟩:=gR.1 d;exact FB.deep (b i e).1
theorem WO(hx:f.length<=10)(M:cD f<=10){o:List Fm}{v:Fm}(s:FS n q f b t w R B)(F:V w k (E8 n k B a c d) 170)(hM:fO w r W i (v::o) [] Aa)(hr:o.length<=8)(x:∀l,R l->¬Aa l/\¬W l/\l≠k)(U:aaI f B o v (r v.d.af)):Calls prog 77 #[dW k,lF (r v.d.af)] w λN G=>N=.returned (.bool B.hd.isSome)/\∃D' x',Ta f B o v (r v.d.af) x'/\FS n q f b t G D' x'/\V G k (E8 n k x' a c d) 170/\(∀l,D' l->R l\/w.heap.size<=l)/\Fr (λl=>R l\/l=k) w G:=by
 cases D:B.hd with|some hb=>
  have j:V w k (qs (dW n) (Ua k) (Ub k) a c d B.tj (lF hb) B.ti) 170:=by unfold E8 at F;rw[D]at F;exact F
  refine mo (Hb j _) λG u=>?_;exact⟨rfl,R,B,by unfold Ta;rw[ae (by rw[D];rfl)],s.keep (λl hk'=>u.block l (s.lt hk') id) u.size,F.fr u id,λl h=>Y h,u.mono λ_ _ e=>e.elim⟩|none=>
  obtain⟨P,oi,oc⟩:=U D;have J:V w k (qs (dW n) (Ua k) (Ub k) a c d B.tj (.pointer none) B.ti) 170:=by unfold E8 at F;rw[D]at F;exact F
  have T:∀l,B.tj.ownBlock=some l->R l:=λl u=>(s.d l).2 (I (I (Y u)));have L:∀g,Fr (λl=>l=k\/B.tj.ownBlock=some l) w g->gW g n q f:=λg hW=>s.p g (λl u=>hW.block l (s.pl l u) λe=>by
   rcases e with e|e;.exact(x l ((s.d l).2 (Y u))).2.2 e
   exact(s.nt l e).2.1 u);have hto:Calls prog 105 #[pT k,(pT (r v.d.af))] w λr' G=>r'=.returned (.agg (dx (Ib f B o v)).toArray)/\Q w G:=by
   obtain⟨sv,M',h1,h2,h3,h4,h5⟩:=hM;cases o with|nil=>exact Ms f.length h1.b|cons p m=>
    obtain⟨Mu,_,g1,_⟩:=h5;have C:B.tl≠[]:=λe=>by rw[e]at P;simp at P
    have hq:B.tl.length-1<B.tl.length:=by rw[P];simp
    have S:=(oc _ hq);have eL:=qw B.tl [] C;rw[<-eL]at S;have hs:=lL B.tl [] C;have hdl:B.tl.dropLast.length+1=B.tl.length:=by rw[List.length_dropLast];omega
    have ho:w.ownsRow 0 202 22 B.tj (B.tl.dropLast.length+1) (B.tl.dropLast.flatMap dx++dx (B.tl.getLastD [])):=by have:=s.t;grind
    refine Mt (L:=p.ws.length) (c:=⟨v.d,[]⟩) (Mu:=Mu) J (λg hW=>L g (hW.mono λ_ _ e=>e.elim)) hx M (by rw[List.length_dropLast];omega) ho S.1 (by simp only[List.length_cons]at hr P;omega) (pb:=r p.d.af) ⟨⟨sv,h1.b⟩,⟨p.d,_,p.ix,g1.b,g1.d,rfl⟩,oi⟩ λl u h0 hl=>?_;exfalso;by_cases hh:l<ay f;.grind[xz]
    have z:=S.2 om l om;rw[z]at h0;simp at h0
  have C:B.tj.ownBlock≠some k:=λe=>(x k (T k e)).2.2 rfl;refine(Hc (cells:=B.tl.flatMap dx) (n:=B.tl.length) J L hx om s.t C hto).mono ?_;rintro N G⟨rfl,A,q1,q2,q3,q4,H⟩;have hsz:=H.size;have K:∀l,A.ownBlock=some l->B.tj.ownBlock=some l\/w.heap.size<=l:=q3;have hoD:∀l,B.ti.ownBlock=some l->R l:=λl u=>(s.d l).2 (I (I (I u)));refine⟨rfl,λl=>b l\/jO l\/A.ownBlock=some l\/B.ti.ownBlock=some l,⟨B.tl++[Ib f B o v],Po f (Ib f B o v) (r v.d.af),B.told,A,B.ti⟩,?_,⟨?_,λl u=>aI (s.pl l u) hsz,?_,?_,?_,λl u=>?_,s.no,λ_=>Iff.rfl,λl u=>(H.block l (u.elim (s.pl l) λy=>s.e.low y) λe=>by
   have hD:R l:=(s.d l).2 (u.elim Y λy=>I (Y y));rcases e with e|e;.exact(x l hD).2.2 e
   exact u.elim (s.nt l e).2.1 (s.nt l e).2.2).trans (s.sm l u)⟩,q1,λl u=>?_,H.mono λl _ e=>?_⟩;.grind[Ta]
  .exact s.p.keep λl u=>H.block l (s.pl l u) λe=>by
    rcases e with e|e;.exact(x l ((s.d l).2 (Y u))).2.2 e
    exact(s.nt l e).2.1 u
  .exact s.e.sm λl u=>H.block l (s.e.low u) λe=>by
    rcases e with e|e;.exact(x l ((s.d l).2 (I (Y u)))).2.2 e
    exact(s.nt l e).2.2 u
  .grind
  .exact aQ s.o λl u=>H.block l (s.o.lt l u).2 λe=>by
    rcases e with e|e;.grind
    exact(s.nt l e).1 u
  .rcases K l u with e|e;.exact s.nt l e
   refine⟨λy=>?_,λy=>?_,λy=>?_⟩;.have:=(s.o.lt l y).2;omega
   .have:=s.pl l y;omega
   have:=s.e.low y;omega
  .rcases u with e|e|e|e;.exact Y ((s.d l).2 (Y e))
   .exact Y ((s.d l).2 (I (Y e)))
   .grind
   exact Y (hoD l e)
  grind
theorem aaL {b f:Nat} {tt:ByteArray} {xs:List Sg} {Dp:Nat->Prop} {H:Nat->Option Obj} (hx:xs.length<=10) (hsel:cD xs<=10)
 {w:World} {D:Nat->Prop} {x:Fx} {A:Nat->Nat} {C:Nat->Prop} {bd:Nat} {r:List Fm} {fm:Fm} {M:Nat->Prop} {a n i:Value} (hS:FS b tt xs Dp H w D x) (hB:V w f (E8 b f x a n i) 170) (hM:fO w A C bd (fm::r) [] M) (hr:r.length<=8) (hC:∀k,C k->k<w.heap.size) (vj:∀k,D k->¬M k/\¬C k/\k≠f) (hg:¬M f/\¬C f) (C5:aaJ xs x r fm A) :
 Calls prog 78 #[dW f,lF (A fm.d.af)] w λres w'=>res=.returned (.tuple #[])/\∃D' x',U4 xs x r fm (A fm.d.af) x'/\FS b tt xs Dp H w' D' x'/\V w' f (E8 b f x' a n i) 170/\(∀k,D' k->D k\/w.heap.size<=k)/\Fr (λk=>D k\/k=f) w w':=by
 by_cases hc:x.hd.isSome=true/\x.hd≠some (A fm.d.af)
 ·obtain ⟨hb,WQ⟩:=Option.isSome_iff_exists.1 hc.1
  have c:V w f (qs (dW b) (Ua f) (Ub f) a n i x.tj (lF hb) x.ti) 170:=by unfold E8 at hB; rw [WQ] at hB; exact hB
  have hne:hb≠A fm.d.af:=λe=>hc.2 (by rw [WQ,e])
  obtain ⟨g,hgr,hgb⟩:∃g ∈ r,hb=A g.d.af:=by
   rcases C5.1 hb WQ with e | e
   ·exact absurd e hne
   exact e
  obtain ⟨ca,hca⟩:=fO.blk hM g (f_ _ hgr)
  obtain ⟨cb,hcb⟩:=fO.blk hM fm (dT)
  refine mo (He c (vb:=A fm.d.af) hne (by rw [hgb]; exact hca) hcb) λw' hk=>?_
  exact ⟨rfl,D,x,by unfold U4; rw [ae hc],hS.keep (λk hk'=>hk.block k (hS.lt hk') id) hk.size,hB.fr hk id,λk h=>Y h,hk.mono (λ_ _ e=>e.elim)⟩
 have hk:x.hd=none\/x.hd=some (A fm.d.af):=by
  cases hh:x.hd with
  | none=>exact Y rfl
  | some k =>
   grind
 have O:=C5.2 hk
 have hne:x.tl≠[]:=λe=>by have:=O.tl; rw [e] at this; simp at this
 have hs:=lL x.tl [] hne
 obtain ⟨pre,hpre⟩:∃pre,pre=x.tl.dropLast:=⟨_,rfl⟩
 obtain ⟨tl,htl⟩:∃tl,tl=x.tl.getLastD []:=⟨_,rfl⟩
 rw [<-hpre,<-htl] at hs
 have hpl:pre.length=r.length:=by have:=O.tl; rw [hs,cG] at this; simpa using this
 obtain ⟨m,hm⟩:∃m,m=pre.length:=⟨_,rfl⟩
 have ht0:=hS.t
 have ho:w.ownsRow 0 202 22 x.tj (m+1) (pre.flatMap dx++dx tl):=by grind
 obtain ⟨g,cap,zC,_,nP⟩:=ho.form om
 have hDt:∀k,x.tj.ownBlock=some k->D k:=λk hk=>(hS.d k).2 (I (I (Y hk)))
 have hoD:∀k,x.ti.ownBlock=some k->D k:=λk hk=>(hS.d k).2 (I (I (I hk)))
 have aaM:x.tj.ownBlock=some g:=by rw [zC]; rfl
 have hlen:(pre.flatMap dx).length=m * 22:=by rw [hm]; exact wH pre
 have hL:=My (by rw [<-zC]; exact ho)
 have Tc:(pre.flatMap dx++dx tl).take (m * 22)=pre.flatMap dx:=by rw [<-hlen,List.take_left]
 rw [Tc] at hL
 -- what changes
 obtain ⟨K,hK⟩:∃K:Nat->Prop,K=λk=>k=f\/x.ti.ownBlock=some k:=⟨_,rfl⟩
 have Kd:∀k,K k->¬M k/\¬C k/\¬Dp k/\¬jO k/\x.tj.ownBlock≠some k:=λk hk=>by
  rw [hK] at hk
  rcases hk with e | e
  ·rw [e]
   exact ⟨hg.1,hg.2,λy=>(vj f ((hS.d f).2 (Y y))).2.2 rfl,λy=>(vj f ((hS.d f).2 (I (Y y)))).2.2 rfl,λy=>(vj f (hDt f y)).2.2 rfl⟩
  exact ⟨(vj k (hoD k e)).1,(vj k (hoD k e)).2.1,(hS.no k e).1,(hS.no k e).2,λy=>(hS.nt k y).1 e⟩
 have PLW:∀W,Fr K w W->fg Dp W (λw=>gW w b tt xs):=λW hW=>hS.p.keep (λk hk=>hW.block k (hS.pl k hk) (λe=>(Kd k e).2.2.1 hk))
 have ENW:∀W,Fr K w W->EN W:=λW hW=>hS.e.sm (λk hk=>hW.block k (hS.e.low hk) (λe=>(Kd k e).2.2.2.1 hk))
 obtain ⟨C',M',c1,c2,c3,c4,hPT,hFB⟩:=hM.close hr O.ws (λe=>by rw [O.kp] at e; cases e) O.pth.1
 have YH:∀k,C' k->k<w.heap.size/\¬K k:=λk hk=>by
  rcases c1 k hk with e | e
  ·grind
  exact ⟨(hM.lt k e).1,λy=>(Kd k y).1 e⟩
 have Uc:=FB.deep hFB
 have e10:ai (9 - r.length+1) ⟨fm.d,fm.ws⟩=ai 10 ⟨fm.d,fm.ws⟩:=(du Uc om).symm
 have PHW:∀v ∈ ai (9 - r.length+1) ⟨fm.d,fm.ws⟩,∀W,Fr K w W->∃d' par' UZ sv,d'<=10/\PH W d' (A v.d.af) v.d.path/\V W (A v.d.af) (kF v.d par' UZ sv) 130:=λv hv W hW=>by
  have hMW:=hM.fr hC hW (λk hk=>⟨(Kd k hk).1,(Kd k hk).2.1⟩)
  have hph:=T9 hMW O.pth O.stk
  have hPW:=PT.keep (λk hk=>hW.block k (YH k hk).1 (YH k hk).2) _ _ _ _ hPT
  exact Ar hPW hFB (λu hu=>O.nm u (by rw [<-e10]; exact hu)) O.stk.1 hph om v hv
 -- whom Count tells
 obtain ⟨R,hR⟩:∃R:World->(Nat->Prop)->List (Tv×Nat)->Prop,R=λW D ts=>∃kh,V W f (qs (dW b) (Ua f) (Ub f) a n i x.tj (Yb x.hd) kh) 170/\W.ownsRow 0 44 4 kh ts.length (ts.flatMap EZ)/\kh.ownBlock≠some f/\(∀k,kh.ownBlock=some k->x.ti.ownBlock=some k\/w.heap.size<=k)/\(∀k,D k↔k=f\/kh.ownBlock=some k)/\Fr K w W:=⟨_,rfl⟩
 have hnf:x.ti.ownBlock≠some f:=λe=>(vj f (hoD f e)).2.2 rfl
 have TV:Ud (.func (.func 109) #[dW f] #[]) (λW=>gW W b tt xs) R A (λv=>∀W,Fr K w W->∃d' par' UZ sv,d'<=10/\PH W d' (A v.d.af) v.d.path/\V W (A v.d.af) (kF v.d par' UZ sv) 130):=by
  refine ⟨λ{W D ts k} h hk=>?_,λ{W D ts} h=>?_,λ{W W' D ts} h kp=>?_,_,_,_,rfl,λ_ _=>Tryz.call109 _ _,λ{W D ts v k} h hv hk hts=>?_⟩
  ·rw [hR] at h
   obtain ⟨kh,q1,q2,q3,q4,q5,q6⟩:=h
   rcases (q5 k).1 hk with e | e
   ·rw [e]; exact q1.lt
   exact (q2.lt k e).2
  ·rw [hR] at h
   obtain ⟨kh,q1,q2,q3,q4,q5,q6⟩:=h
   exact (PLW W q6).self
  ·rw [hR] at h ⊢
   obtain ⟨kh,q1,q2,q3,q4,q5,q6⟩:=h
   exact ⟨kh,q1.fr kp id,aQ q2 (λj hj=>kp.block j (q2.lt j hj).2 id),q3,q4,q5,q6.new kp (λ_ _ e=>e.elim)⟩
  rw [hR] at h
  obtain ⟨kh,q1,q2,q3,q4,q5,q6⟩:=h
  refine (WJ (p:=v.d.path) (af:=v.d.af) (to:=v.d.to) (vb:=A v.d.af) q1 q2 q3 hts k (λW' kp=>?_)).mono ?_
  ·have F:=q6.new kp (λ_ _ e=>e.elim)
   obtain ⟨d',par',UZ,sv,z1,z2,z3⟩:=hv W' F
   grind [Jo]
  rintro res W' ⟨rfl,ot',p1,p2,p3,p4,p5⟩
  have hF:Fr K w W':=by
   refine q6.new p5 (λj hj e=>?_)
   grind
  refine ⟨rfl,λj=>j=f\/ot'.ownBlock=some j,?_,λj hj=>?_,p5.mono (λj _ e=>(q5 j).2 e)⟩
  ·rw [hR]
   refine ⟨ot',p1,?_,p4,λj hj=>?_,λ_=>Iff.rfl,hF⟩
   ·rw [cG,iy]
    simpa [EZ] using p2
   rcases p3 j hj with y | y
   ·exact q4 j y
   exact I (az q6.size y)
  grind
 have hF0:Fr K w w.drew:=(Fr.refl _ w).drewN 1
 have R0:R w.drew K x.told:=by
  rw [hR]
  exact ⟨x.ti,hB,aQ hS.o (λ_ _=>rfl),hnf,λk hk=>Y hk,λk=>by rw [hK],hF0⟩
 have CNT:=Ey (xs:=xs) (b:=b) (tt:=tt) (λW h=>h) hx hsel TV (9 - r.length+1) (d:=r.length) (tl:=tl) (t:=⟨fm.d,fm.ws⟩) om (by rw [htl]; exact O.ct) R0 (PT.keep (w:=w) (w':=w.drew) (D:=C') (λ_ _=>rfl) _ _ _ _ hPT) (λk hk=>YH k hk) PHW (by have:=O.n; rw [e10]; omega)
 have hh:Yb x.hd=.pointer none\/Yb x.hd=(pT (A fm.d.af)):=by
  rcases hk with e | e<;>rw [e]
  ·exact Y rfl
  exact I rfl
 have hrg:∀W,Fr K w W->W.rangeAt g (m * 22) (dx tl):=λW hW j v hj=>by
  have hj2:j<22:=by have:=(List.getElem?_eq_some_iff.1 hj).1; rw [cH] at this; exact this
  have hgK:¬K g:=λe=>(Kd g e).2.2.2.2 aaM
  rw [World.cell?_of_block (w:=w) (a:=(aD g (m * 22+j))) (hW.block g nP hgK)]
  have ho2:w.ownsRow 0 202 22 (.slice (sA g) (m+1) cap) (m+1) (pre.flatMap dx++dx tl):=by rw [<-zC]; exact ho
  rw [ho2.cellAt (m * 22+j) om,List.getElem?_append_right om,hlen,show m * 22+j - m * 22=j by omega]
  exact hj
 have hB1:V w f (qs (pT b) (Ua f) (Ub f) a n i (.slice (sA g) (m+1) cap) (Yb x.hd) x.ti) 170:=by rw [<-zC]; exact hB
 obtain ⟨Q,hQ⟩:∃Q:Value->World->Prop,Q=λkh W=>W.ownsRow 0 44 4 kh (x.told++b7 xs (9 - r.length+1) ⟨fm.d,fm.ws⟩ tl).length ((x.told++b7 xs (9 - r.length+1) ⟨fm.d,fm.ws⟩ tl).flatMap EZ)/\kh.ownBlock≠some f/\(∀k,kh.ownBlock=some k->x.ti.ownBlock=some k\/w.heap.size<=k)/\Fr K w W:=⟨_,rfl⟩
 refine (Hf (Q:=Q) hB1 hh om hL.2 (hrg w (Fr.refl _ _)) (cH tl) (CNT.mono ?_)).mono ?_
 ·rintro res w' ⟨rfl,D',q,_,_⟩
  rw [hR] at q
  obtain ⟨kh,q1,q2,q3,q4,q5,q6⟩:=q
  refine ⟨rfl,kh,by rw [<-zC]; exact q1,hrg w' q6,?_⟩
  grind
 rintro res w' ⟨rfl,w1,kh,q,z1,z2⟩
 rw [hQ] at q
 obtain ⟨q2,q3,q4,q6⟩:=q
 have ec:b7 xs (9 - r.length+1) ⟨fm.d,fm.ws⟩ tl=b7 xs 10 ⟨fm.d,fm.ws⟩ tl:=(oJ xs tl Uc om).symm
 rw [ec] at q2
 have F:Fr K w w':=q6.new z2 (λj _ e=>by rw [hK]; exact Y e)
 have hsz:=F.size
 refine ⟨rfl,λk=>Dp k\/jO k\/(Value.slice (sA g) m cap).ownBlock=some k\/kh.ownBlock=some k,⟨pre,none,x.told++b7 xs 10 ⟨fm.d,fm.ws⟩ tl,.slice (sA g) m cap,kh⟩,?_,⟨PLW w' F,λk hk=>aI (hS.pl k hk) hsz,ENW w' F,?_,?_,λk hk=>?_,λk hk=>?_,λ_=>Iff.rfl,λk hk=>(F.block k (hk.elim (hS.pl k) (λy=>hS.e.low y)) (λe=>hk.elim (Kd k e).2.2.1 (Kd k e).2.2.2.1)).trans (hS.sm k hk)⟩,z1,λk hk=>?_,F.mono (λk _ e=>?_)⟩
 ·unfold U4
  rw [aa hc]
  exact ⟨_,_,by rw [hpre,htl]⟩
 ·show w'.ownsRow 0 202 22 (.slice (sA g) m cap) pre.length (pre.flatMap dx)
  rw [<-hm]
  exact aQ hL.1 (λk hk=>F.block k (hL.1.lt k hk).2 (λe=>(Kd k e).2.2.2.2 (by rw [zC]; exact hk)))
 ·exact aQ q2 (λk hk=>z2.block k (q2.lt k hk).2 (λe=>q3 (e▸hk)))
 ·have hk:x.tj.ownBlock=some k:=by rw [zC]; exact hk
  refine ⟨λy=>?_,(hS.nt k hk).2⟩
  grind
 ·rcases q4 k hk with e | e
  ·exact hS.no k e
  refine ⟨λy=>?_,λy=>?_⟩
  ·have:=hS.pl k y; omega
  have:=hS.e.low y; omega
 ·rcases hk with e | e | e | e
  ·exact Y ((hS.d k).2 (Y e))
  ·exact Y ((hS.d k).2 (I (Y e)))
  ·exact Y (hDt k (by rw [zC]; exact e))
  grind
 grind
theorem YO(l:f.length<=10)(a:cD f<=10):I7 k 170 (E8 n k) (Ua k) (Ub k) (FS n q f b t) (λx=>x.hd.isSome) (Ta f) (U4 f) (aaI f) (aaJ f)where
 lt:=λh p=>h.lt p
 keep:=λh s r=>h.keep s r
 Am:=⟨_,_,_,rfl,λ_ _=>Tryz.call77 _ _,λi e g j _ d _ c=>WO l a i e g j d c⟩
 closed:=⟨_,_,_,rfl,λ_ _=>Tryz.call78 _ _,λi e g j m d o c=>aaL l a i e g j m d o c⟩
