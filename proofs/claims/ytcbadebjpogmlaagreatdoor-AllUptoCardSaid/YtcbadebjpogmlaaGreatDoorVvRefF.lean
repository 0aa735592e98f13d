import Derived.Test.YtcbadebjpogmlaaGreatDoorVvRefC
import Derived.Test.YtcbadebjpogmlaaGreatDoorVvPlain7
import Derived.Deep.RegionLaw
import Derived.Deep.AppendLies
set_option maxHeartbeats 2000000
set_option maxRecDepth 100000
namespace Go.Proofs.YtcbadebjpogmlaaGreatDoor
open Go.RowKit Tr Go.Proofs.Tryz
def mE(b:Nat)(w:World):Nat:=(intOf ((w.cell? (aD b 2)).getD (.int .i64 0))).toNat
def lH(b z:Nat)(w:World):Nat:=if mE b w=0 then z+1-mP b w else 0
variable{w v u:World}{n k o p:Nat}{q s:ByteArray}{a:St}
theorem bB.lH(h:bB w n q a)(z:Nat):lH n z w=if a.e=0 then z+1-a.p else 0:=by
 have e:mE n w=a.e:=by unfold mE;rw[h.c2];simp[intOf]
 unfold Go.Proofs.YtcbadebjpogmlaaGreatDoor.lH;rw[e,h.mP]
def aak(b:Nat)(s:ByteArray)(q c:Nat)(o:List UInt8)(n:Nat)(w:World)(r:Ending)(d:World):Prop:=∃g a,r=.returned (pT g)/\Rd b s w a d/\Ok (E s) q c 18 o n a/\(a.e=0->bt (E s) a.p≠38)
def aal(b:Nat)(s:ByteArray)(q c:Nat)(o:List UInt8)(n:Nat)(w:World)(r:Ending)(d:World):Prop:=∃g a,r=.returned (pT g)/\Rd b s w a d/\Ok (E s) q c 18 o n a/\(a.e=0->bt (E s) a.p≠38/\bt (E s) a.p≠124)
def SA(m:Nat):Prop:=∀(w:World)(b:Nat)(s:ByteArray)(t:St)(q c n:Nat)(o:List UInt8),bB w b s t->s.size<=120->Ok (E s) q c 10 o n t->o.length=n->n<=6->bI o=o->s.size-t.p<=m->Calls prog 167 #[pT b] w (aak b s q c o n w)
def SO(m:Nat):Prop:=∀(w:World)(b:Nat)(s:ByteArray)(t:St)(q c n:Nat)(o:List UInt8),bB w b s t->s.size<=120->Ok (E s) q c 10 o n t->o.length=n->n<=6->bI o=o->s.size-t.p<=m->Calls prog 119 #[pT b] w (aal b s q c o n w)
theorem Wn:nb ⟨#[38,38]⟩=[38,38]:=rfl
theorem aam:nb ⟨#[124,124]⟩=[124,124]:=rfl
theorem L7:nb ⟨#[41]⟩=[41]:=rfl
theorem wy(s:List UInt8)(l:List Nat):∀t:St,t.p<=(aO s t l).p:=by induction l with|nil=>intro t;exact aP _|cons a r b=>intro t;exact az (zq s t a) (b (aK s t a))
def ad3(v:Value):Prop:=∃(k b fr c:Int)(a:ByteArray)(d:Option Addr),v=.agg #[.int .i64 k,.string a,.int .i64 b,.int .i64 fr,.int .i64 c,.pointer d]
theorem L8:nb ⟨#[58]⟩=[58]:=rfl
theorem Rd.tz(h:Rd n q w a v)(b:n<w.heap.size)(g:Nat)(c:w.heap.size<=g)(d e f i j k:Value):Rd n q w a ((((((v.setCell (aD g 0) d).setCell (aD g 1) e).setCell (aD g 2) f).setCell (aD g 3) i).setCell (aD g 4) j).setCell (aD g 5) k):=(((((h.dr b g 0 c d).dr b g 1 c e).dr b g 2 c f).dr b g 3 c i).dr b g 4 c j).dr b g 5 c k
variable{i:Ending->World->Prop}{g:Act}{f j l r t z:Value}
theorem oC(p:g.defers=[])(o:g.tmps[2]?.getD undef=pT n)(a:V w n #[f,j,l,r,t,z] 189)(m:i (.returned (.agg #[f,j,l,r,t,z])) w):bodyPost prog f94 i .ret g w:=by have b:=a.cell 0;have c:=a.cell 1;have d:=a.cell 2;have e:=a.cell 3;have h:=a.cell 4;have k:=a.cell 5;simp at b c d e h k;refine bodyPost_ret (v:=.agg #[f,j,l,r,t,z]) ?_ p m;simp[results,results94,go_sem,o,b,c,d,e,h,k]
theorem qP(k:g.defers=[])(h:g.tmps[2]?.getD undef=pT n)(a:V w n #[f,j,l] 152)(e:i (.returned (.agg #[f,j,l])) w):bodyPost prog f65 i .ret g w:=by have b:=a.cell 0;have c:=a.cell 1;have d:=a.cell 2;simp at b c d;refine bodyPost_ret (v:=.agg #[f,j,l]) ?_ k e;simp[results,results65,go_sem,h,b,c,d]
theorem Rd.yO(h:Rd n q w a v)(b:n<w.heap.size)(g:Nat)(c:w.heap.size<=g)(d e f:Value):Rd n q w a (((v.setCell (aD g 0) d).setCell (aD g 1) e).setCell (aD g 2) f):=((h.dr b g 0 c d).dr b g 1 c e).dr b g 2 c f
theorem dI(a b:ByteArray):E (a++b)=E a++E b:=by simp[E]
theorem dD(s:ByteArray)(i j:Nat):E (s.extract i j)=sub (E s) i j:=by simp_all[E,sub]
theorem size_extract(s:ByteArray)(i j:Nat):(s.extract i j).size<=s.size:=by rw[ByteArray.size_extract];omega
theorem Tryz.wz:(prog.info? 189).map (λi=>(i.zero,i.size,i.bytes))=some (some (.agg #[.int .i64 0,.string ⟨#[]⟩,.int .i64 0,.int .i64 0,.int .i64 0,.pointer none]),6,56):=by kernel_rfl
theorem QT:nb ⟨#[91]⟩=[91]:=rfl
theorem Ee:nb ⟨#[93]⟩=[93]:=rfl
variable{d:Option Nat}
theorem V.grown{w':World}{a:Array Value}{T:TypeId}(h:V w n a T)(b:w.grownBy w' d)(c:∀k,d=some k->n<k):V w' n a T:=(b.block n h.lt λe=>by have:=c n e.symm;omega).trans h
variable{b c m:List UInt8}
theorem L9(h:n+1<=k)(a:bt b n=91):sub b n k=[91]++sub b (n+1) k:=by rw[mz (s:=b) (a:=n) (b:=n+1) (c:=k) om h,iT lr om,sub_self,a];rfl
theorem Wo(e:T b (k+1)=c++m++[91])(f:bt b k=91)(d:k+1<=a.p)(h:qG b n (T b (k+1)++sub b (k+1) a.p) a):qG b n (c++(m++sub b k a.p)) a:=by grind[L9]
def Wp(s:List UInt8)(t:St)(a c:Bool)(b:List UInt8)(d:St):Prop:=ar s t 46=a/\((a=false/\c=false/\b=[]/\d=t)\/(a=true/\((c=false/\b=[]/\d=aH t/\ar s (aH t) 46=false)\/(c=true/\b=[46,46]/\d=aH (aH t)/\ar s (aH t) 46=true))))
theorem Wp.all{pre:List UInt8}{t':St}{dot dp:Bool}(h:m_ b n c a)(l:a.p<b.length)(k:Wp b a dot dp pre t'):a.p<=t'.p/\t'.p<=b.length/\2<=(M b t'.p).st/\((dot&&(!ar b t' 91||!dp))=true->a.p<t'.p/\(ar b t' 42=true->qG b (n+1) (c++pre++[91,42,93]) (aH t'))/\(ar b t' 42=false->qG b (n+1) (c++pre++([91,39]++sub b t'.p (bH b t').p++[39,93])) (bH b t')))/\((dot&&(!ar b t' 91||!dp))=false->Ok b (t'.p+1) (n+1) 6 [] 0 (aO b t' [91])/\((aO b t' [91]).e=0->T b (t'.p+1)=c++pre++[91]/\bt b t'.p=91)):=by
 obtain⟨i,⟨rfl,rfl,rfl,rfl⟩|⟨rfl,⟨rfl,rfl,rfl,j⟩|⟨rfl,rfl,rfl,j⟩⟩⟩:=k;.have f:=KY h l i;exact⟨aP _,mR l,h.lv,λe=>(by simp at e),λ_=>by simpa using f⟩
 .have d:=vU h i;exact⟨by simp[aH],d.le,by rw[d.mm];simp[cS],λ_=>⟨by simp[aH],λg=>by simpa using og (Y rfl) d g,λg=>by simpa using oh (Y ⟨rfl,j⟩) d g⟩,λe=>(by simp at e)⟩
 have d:=DD (vU h i) j;refine⟨by simp[aH];omega,d.le,by rw[d.mm];simp[cS],λe=>⟨by simp[aH];omega,λg=>og (I rfl) d g,λg=>oh (I ⟨rfl,by simpa using e⟩) d g⟩,λe=>?_⟩;grind[KX,aF,aH,ar]
def Fin(s:List UInt8):Prop:=(M s (s.length+1)).st=26
theorem DF(h:m_ b n c a)(j:a.p=b.length):Fin b/\C b (b.length+1)=n/\T b (b.length+1)=c:=by
 have i:bt b b.length=256:=jC lr;have d:=h.ac;have e:=h.ct;have g:=h.ty;rw[j]at d e g;rw[i]at d;have f:nx (M b b.length) 256=⟨26,0,0,[],[]⟩:=by rw[d];rfl
 refine⟨?_,?_,?_⟩;.show(M b (b.length+1)).st=26;simp only[M];rw[i,f]
 .simp only[C];grind[inc]
 simp only[T];grind[out]
theorem Qn(s:List UInt8):∀i,C s i<=i|0=>aP _|i+1=>by have:=Qn s i;simp only[C];grind[bt,inc]
theorem yC(s:List UInt8):qG s 0 [36] (aO s ⟨0,0,0⟩ [36]):=by
 show qG s 0 [36] (aK s ⟨0,0,0⟩ 36);unfold aK;rw[aL rfl];by_cases a:bt s 0=36
 .rw[ae (by simp[a])];have c:=cQ (s:=s) (p:=0) om;have b:M s 1=cS 3 []:=by simp only[M];rw[a];rfl
  refine Y ⟨rfl,rfl,c,?_,?_,?_,Y ⟨?_,?_⟩⟩;.show 2<=(M s 1).st;rw[b];simp[cS]
  .show nx (M s 1) _=_;rw[b]
  .show C s 1=0;simp only[C];have:inc (M s 0) (bt s 0)=0:=by simp only[M];rw[a];rfl
   omega
  .show(M s 1).st=3;rw[b];rfl
  show T s 1=[36];simp only[T,M];rw[a];rfl
 rw[aa (by simp[a]),fT rfl];refine I ⟨si,rfl,⟨by simp[M,g0],?_,aT _,si⟩⟩;show(M s 1).st+2=2;simp only[M];have e:g0=cS 2 []:=rfl;grind[iI,dq,bt,cS,aJ,cC,Tr.norm]
structure ig where
 d:Bool
 a:Option Addr
 k:Nat
 cp:Nat
 tx:ByteArray
def ig.cells(g:ig):List Value:=[.bool g.d,.slice g.a g.k g.cp,.string g.tx]
def cellsOf(l:List ig):List Value:=l.flatMap ig.cells
def kQ(l:List ig):Nat:=(l.map ig.k).sum
def gH(l:List ig):List UInt8:=l.flatMap λg=>E g.tx
theorem wA(l:List ig)(g:ig):cellsOf (l++[g])=cellsOf l++g.cells:=by simp[cellsOf]
theorem uQ(l:List ig)(g:ig):kQ (l++[g])=kQ l+g.k:=by simp[kQ]
theorem qc(l:List ig)(g:ig):gH (l++[g])=gH l++E g.tx:=by simp[gH]
abbrev Q(w a:World):Prop:=Fr (λ_=>False) w a
theorem Fr.new{K L:Nat->Prop}(h:Fr K w v)(k:Fr L v u)(c:∀i,i<w.heap.size->L i->K i):Fr K w u:=⟨k.os.trans h.os,k.tape.trans h.tape,k.output.trans h.output,az h.size k.size,λi a b=>(k.block i (aI a h.size) λx=>b (c i a x)).trans (h.block i a b)⟩
theorem Tryz.zr:(prog.info? 152).map (λi=>(i.zero,i.size,i.bytes))=some (some (.agg #[.bool false,.slice none 0 0,.string ⟨#[]⟩]),3,48):=by kernel_rfl
structure ad4(w:World)(B gq:Nat)(l:List ig)(v:Value):Prop where
 ge:B<=gq
 blk:V w gq #[v] 148
 own:w.ownsRow (B+1) 152 3 v l.length (cellsOf l)few:l.length<=121
 small:∀g∈l,g.tx.size<=200
theorem bB.grow{w':World}(h:bB w n q a)(b:w.grownBy w' d)(c:∀k,d=some k->n<k):bB w' n q a:=(b.block n h.lt λe=>by have:=c n e.symm;omega).trans h
theorem qd(l:List ig):∀(k i:Nat)(h:k<l.length),i<3->(cellsOf l)[k*3+i]?=(l[k]).cells[i]?:=by induction l with|nil=>intro k i h;simp at h|cons a r d=>intro k i h b;have e:cellsOf (a::r)=a.cells++cellsOf r:=rfl;rw[e];have c:a.cells.length=3:=rfl;grind
theorem GL(l:List ig)(k:Nat)(h:k<l.length):(cellsOf l)[k*3+1]?=some (.slice (l[k]).a (l[k]).k (l[k]).cp):=(qd l k 1 h om).trans rfl
theorem GM(l:List ig)(k:Nat)(h:k<l.length):(cellsOf l)[k*3+2]?=some (.string (l[k]).tx):=(qd l k 2 h om).trans rfl
theorem GN(l:List ig)(k:Nat)(h:k<l.length):kQ (l.take (k+1))=kQ (l.take k)+(l[k]).k:=by rw[eC h,uQ]
theorem Ef(l:List ig)(k:Nat):kQ (l.take k)<=kQ l:=by
 have e:kQ l=kQ (l.take k++l.drop k):=by rw[iU]
 grind[kQ]
theorem ng(h:w.drew.grownBy v d):w.grownBy v d:=⟨h.os,h.tape,h.output,h.size,h.block⟩
theorem bB.setOther(h:bB w n q a)(g:Nat)(b:n≠g)(i:Nat)(v:Value):bB (w.setCell (aD g i) v) n q a:=(Below.heap_setCell _ _ _ _ b).trans h
theorem GQ:nb ⟨#[36]⟩=[36]:=rfl
theorem nZ(d:120<q.size)(a:q.size<=maxLen):Calls prog 41 #[.string q] w λr b=>r=.returned (.tuple #[.pointer none,.int .i64 1,.int .i64 0])/\b=w:=by unfold maxLen at a;have c:(120:Int)<(q.size:Int):=om;go_enter func41,ntmps41;go_wp2;go_ret3;exact⟨rfl,rfl⟩
theorem zs(l:List ig)(k:Nat)(h:k<l.length):gH (l.take (k+1))=gH (l.take k)++E (l[k]).tx:=by rw[eC h,qc]
theorem FJ{B:Nat}{l:List ig}(h:ad4 w B n l f):Calls prog 44 #[pT n] w λr y=>∃t:ByteArray,r=.returned (.string t)/\E t=[36]++gH l/\y=w:=by
 have x:=h.blk.cell 0;simp at x;obtain⟨z,c0,rfl⟩:=X h.own;have m:=h.few;have c:=Z h;clear h;go_enter func44,ntmps44;go_wp2;go_loop[3,4]λt i=>∃(k:Nat)(b:ByteArray),k<=l.length/\i=.int .i64 k/\t=.string b/\E b=[36]++gH (l.take k)/\b.size<=1+200*kλ_ i=>l.length-(intOf i).toNat;case atStart=>exact⟨0,⟨#[36]⟩,aT _,rfl,rfl,rfl,de⟩
 case round=>
  obtain⟨k,b,A,rfl,rfl,j,C⟩:=hrel;have e:=Z j;clear j;by_cases a:k<l.length
  .obtain⟨g,q,o,s,u⟩:=c.o.own.form om;simp only[Value.slice.injEq,true_and]at o;obtain⟨rfl,rfl⟩:=o;have D:=(c.o.own.cellAt (k*3+2) om).trans (GM l k a);have p:=Z (zs l k a);have v:=c.o.small _ (bP a);generalize l[k]=gk at*;go_wp2;go_round;case rel=>
    refine⟨k+1,b++gk.tx,om,by go_num,rfl,?_,?_⟩;.rw[dI,e.o,p.o,gh]
    grind
   case measure=>simp[intOf];omega
  have d:k=l.length:=om;subst d;go_wp2;go_ret;refine⟨b,rfl,?_,rfl⟩;rw[e.o,bX];rfl
theorem AE(h:Ig b n o)(a:Ig b k p):n=k/\o=p:=by have d:=h.ge a.lv;have e:=a.ge h.lv;have c:o=p:=om;subst c;exact⟨by have:=h.st;have:=a.st;omega,rfl⟩
theorem Di(h:Ig b n k)(a:Fin b):False:=by unfold Fin at a;have:=h.ge (i:=b.length+1) om;have:=h.le;omega
theorem PI(h:E q=E s):q=s:=by cases q;cases s;simp only[E]at h;rw[ByteArray.mk.injEq];exact Array.toList_inj.1 h
theorem pU(n:Int):Calls prog 42 #[.int .i64 n] w λr a=>r=.returned (.int .i64 n)/\a=w:=by go_enter func42,ntmps42;go_wp2;go_ret;exact⟨rfl,rfl⟩
theorem uf{a b:Bool}(h:a=b):Ending.returned (.bool a)=.returned (.bool b):=by rw[h]
def ds(k:Int)(n:Nat):Nat:=if k<0\/(n:Int)<=k then 0 else k.toNat
theorem rJ(k:Int)(n:Nat)(h:0<n):ds k n<n:=by unfold ds;split<;>omega
theorem rK(k:Int)(n:Nat):Calls prog 43 #[.int .i64 k,.int .i64 n] w λr c=>r=.returned (.int .i64 (ds k n:Nat))/\c=w:=by
 by_cases a:k<0
 .have e:ds k n=0:=by simp[ds,a]
  rw[e];clear e;go_enter func43,ntmps43;go_wp2;go_ret;exact⟨rfl,rfl⟩
 have d1:decide (k<0)=false:=by simpa using a
 by_cases b:(n:Int)<=k
 .have e:ds k n=0:=by simp[ds,b]
  rw[e];clear e;go_enter func43,ntmps43;go_wp2;go_ret;exact⟨rfl,rfl⟩
 have d2:decide ((n:Int)<=k)=false:=by simpa using b
 have e:((ds k n:Nat):Int)=k:=by simp[ds,a,b];omega
 rw[e];clear e;go_enter func43,ntmps43;go_wp2;go_ret;exact⟨rfl,rfl⟩
