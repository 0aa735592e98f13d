import Derived.Deep.RegionHeldLaw
import Derived.Test.YtcbadebjpogmlaaGreatDoorVvRefC
import Derived.Test.YtcbadebjpogmlaaGreatDoorVvPlain7
set_option maxHeartbeats 1000000
namespace Go.Proofs.YtcbadebjpogmlaaGreatDoor
open Go.RowKit Tr
variable{f:Program}{c:Array Oper}{d:Exit->Act->World->Prop}{g:Region.Mode}{i:World->Prop}{j:Oper}{n k:Nat}{b:Array Bool}{a:Act}{w:World}
theorem htk(k:Nat){v:Value}(h:wpAnyH f g c d i n (b.setIfInBounds k true) (a.put j.dst v) w)(t:c[k]?=some j:=by rfl)(hy:YieldsIf f c i j v a:=by(refine Y ⟨by rfl,?_⟩;intro w l;(try dsimp only at l);(first|(obtain⟨m,o,p,q,y,z⟩:=l)|(obtain⟨m,o,p,q,y⟩:=l)|(obtain⟨m,o,p,q⟩:=l)|(obtain⟨m,o,p⟩:=l)|(obtain⟨m,o⟩:=l)|skip);(go_simp<;>with_reducible rfl)))(x:Region.noSelect c=true:=by kernel_rfl)(s:Region.free g c b k=true:=by kernel_rfl)(u:(Region.ready g c b).contains k=true:=by kernel_rfl)(hQ:∀e a w,d (.panic e) (a.put j.dst v) w->d (.panic e) a w:=by(intro _ _ _ h;exact h))(r:i w:=by assumption):wpAnyH f g c d i (n+1) b a w:=wpAnyH_take t x s u hQ hy r h
theorem dA(j:List Nat)(h:AllReadyH f g c d i n b a w j)(k:Region.ready g c b=j:=by kernel_rfl)(e:j≠[]:=by simp):wpAnyH f g c d i (n+1) b a w:=wpAnyH_ready k e h
theorem Fq(k:Nat)(h:wpAnyH f g c d i n (b.setIfInBounds k true) (a.put j.dst undef) w)(p:c[k]?=some j:=by rfl)(hy:Region.wanted j (yielded c a.tmps)=false:=by kernel_rfl)(r:Region.noSelect c=true:=by kernel_rfl)(o:Region.free g c b k=true:=by kernel_rfl)(q:(Region.ready g c b).contains k=true:=by kernel_rfl)(l:∀e a w,d (.panic e) (a.put j.dst undef) w->d (.panic e) a w:=by(intro _ _ _ h;exact h))(m:i w:=by assumption):wpAnyH f g c d i (n+1) b a w:=wpAnyH_take p r o q l (I ⟨hy,rfl⟩) m h
theorem hone(h:∀e:Act->World->Prop,Shut (∀a w,i w->(i w->wpAnyH f g c d i n (b.setIfInBounds k true) a w)->e a w)->if Region.wanted j (yielded c a.tmps)=true then Oper.wp f j a w e d else e (a.put j.dst undef) w)(l:c[k]?=some j:=by rfl):AllReadyH f g c d i n b a w [k]:=AllReadyH.cons l h AllReadyH.nil
theorem mU:(∀(l:List Oper)(i:Nat)(h:i<l.length),l.toArray[i]'h=l[i])/\(∀(a:Oper)(l:List Oper)(h:0<(a::l).length),(a::l)[0]'h=a)/\(∀(a:Oper)(l:List Oper)(i:Nat)(h:i+1<(a::l).length),(a::l)[i+1]'h=l[i]'(Nat.lt_of_succ_lt_succ h))/\(∀(l:List Value)(i:Nat)(v:Value),l.toArray.setIfInBounds i v=(l.set i v).toArray)/\(∀(a v:Value)(l:List Value),(a::l).set 0 v=v::l)/\∀(a v:Value)(l:List Value)(i:Nat),(a::l).set (i+1) v=a::l.set i v:=⟨λ_ _ _=>List.getElem_toArray _,λ_ _ _=>rfl,λ_ _ _ _=>rfl,λ_ _ _=>List.setIfInBounds_toArray ..,λ_ _ _=>rfl,λ_ _ _ _=>rfl⟩
end Go.Proofs.YtcbadebjpogmlaaGreatDoor
namespace Go.Proofs.YtcbadebjpogmlaaGreatDoor
open Go.RowKit Tr Go.Proofs.Tryz
def qJ(s:ByteArray)(p e:Nat)(a:Value):Array Value:=#[.string s,.int .i64 (p:Nat),.int .i64 (e:Nat),a]
structure RR(b:Nat)(s:ByteArray)(w:World)(p e:Nat)(rt:Value)(w':World):Prop where
 k:V w' b (qJ s p e rt) 161
 f:Fr (PB b) w w'
variable{n k i:Nat}{q:ByteArray}{w v:World}{a:Value}
theorem RR.c0(h:RR n q w k i a v):v.cell? (aD n 0)=some (.string q):=h.k.cell 0
theorem RR.c1(h:RR n q w k i a v):v.cell? (aD n 1)=some (.int .i64 (k:Nat)):=h.k.cell 1
theorem RR.c2{w b:World}(h:RR n q w k i a b):b.cell? (aD n 2)=some (.int .i64 (i:Nat)):=h.k.cell 2
theorem RR.drewN(h:RR n q w k i a v)(b:Nat):RR n q w k i a (v.drewN b):=⟨h.k,h.f.drewN b⟩
theorem RR.kI{w c:World}(h:RR n q w k i a c)(b:Nat):RR n q w b i a (c.setCell (aD n 1) (.int .i64 (b:Nat))):=⟨h.k.set 1 _,h.f.setCell (aD n 1) (Y rfl) _⟩
theorem RR.JJ(h:RR n q w k i a v)(b:Nat):RR n q w k b a (v.setCell (aD n 2) (.int .i64 (b:Nat))):=⟨h.k.set 2 _,h.f.setCell (aD n 2) (Y rfl) _⟩
theorem RR.here(h:RR n q w k i a v):RR n q v k i a v:=⟨h.k,Fr.refl _ _⟩
theorem RR.alloc{w b:World}(h:RR n q w k i a b)(o:Obj):RR n q w k i a (b.alloc o):=⟨h.k.alloc o,h.f.alloc o⟩
theorem fQ(w:World)(a b:Nat):(w.drewN a).drewN b=w.drewN (a+b):=by simp[World.drewN,Nat.add_assoc]
theorem iL(h:RR n q w k i a v)(c:Nat)(f:Int)(e:f=c):Calls prog 100 #[pT n,.int .i64 f] v λr j=>r=.returned (.tuple #[])/\RR n q w k (if i=0 then c else i) a j:=by
 subst e;have g:=h.c2;have m:=h.k.fz 2;by_cases d:i=0;.subst d;have b:=Z (h.JJ c);rw[ae rfl];clear h;simp only[Int.natCast_zero]at g;go_enter func100,ntmps100;go_wp2;go_end0;exact⟨rfl,b.o⟩
 rw[aa d];have b:=Z h;have l:=qp d;clear h;go_enter func100,ntmps100;go_wp2;go_end0;exact⟨rfl,b.o⟩
theorem rE(h:RR n q w k i a v):Calls prog 99 #[pT n] v λr j=>r=.returned (.bool (decide (i=0)&&decide (k<q.size)))/\∃b,j=v.drewN b:=by
 have l:=h.c0;have m:=h.c1;have o:=h.c2;clear h;by_cases d:i=0
 .subst d;have f:(decide ((k:Int)<(q.size:Int)))=decide (k<q.size):=si;by_cases e:k<q.size;focus
   have g:decide ((k:Int)<(q.size:Int))=true:=by simp;omega
   have c:(decide (0=0)&&decide (k<q.size))=true:=by simp[e]
  rotate_left;focus
   have g:decide ((k:Int)<(q.size:Int))=false:=by simp;omega
   have c:(decide (0=0)&&decide (k<q.size))=false:=by simp[e]
  all_goals rw[c];clear c f;go_enter func99,ntmps99;go_wp2;go_quiet(fail);go_wp2;go_ret;exact⟨rfl,_,rfl⟩
 have c:(decide (i=0)&&decide (k<q.size))=false:=by simp[d]
 rw[c];have f:=qp d;clear c;go_enter func99,ntmps99;go_wp2;go_quiet(fail);go_wp2;go_ret;exact⟨rfl,_,rfl⟩
theorem AB(h:RR n q w k i a v)(c:Nat)(l:Int)(g:l=c)(u:c<256):Calls prog 130 #[pT n,.int .u8 l] v λr s=>r=.returned (.bool (decide (i=0)&&decide (bt (E q) k=c)))/\∃b,s=v.drewN b:=by
 subst g;have H:=Z h;have m:=h.c0;have o:=h.c1;clear h;by_cases d:(decide (i=0)&&decide (k<q.size))=true
 .have y:k<q.size:=by simp at d;exact d.2
  have x:i=0:=by simp at d;exact d.1
  have e:(decide (i=0)&&decide (bt (E q) k=c))=((q[k].toNat:Int)==(c:Int)):=by grind[dY]
  rw[e];have f:=Z d;clear e d;go_enter func130,ntmps130;go_wp2_with fail;refine(rE H.o).mono ?_;rintro r t⟨rfl,j,rfl⟩;rw[f.o];have z:(v.drewN j).cell? (aD n 0)=some (.string q):=m;have A:(v.drewN j).cell? (aD n 1)=some (.int .i64 (k:Nat)):=o;have p:(k:Int)<(q.size:Int):=om;go_wp2;go_quiet(fail);go_wp2;go_ret;exact⟨rfl,_,fQ _ _ _⟩
 have d:(decide (i=0)&&decide (k<q.size))=false:=by simpa using d
 have e:(decide (i=0)&&decide (bt (E q) k=c))=false:=by grind[iF]
 rw[e];have f:=Z d;clear e d;go_enter func130,ntmps130;go_wp2_with fail;refine(rE H.o).mono ?_;rintro r t⟨rfl,j,rfl⟩;rw[f.o];go_wp2;go_quiet(fail);go_wp2;go_ret;exact⟨rfl,_,fQ _ _ _⟩
theorem Ps(h:RR n q w k i a v):Calls prog 172 #[pT n] v λr A=>r=.returned (.bool (decide (i=0)&&O (bt (E q) k)))/\∃b,A=v.drewN b:=by
 have H:=Z h;have m:=h.c0;have o:=h.c1;clear h;by_cases c:(decide (i=0)&&decide (k<q.size))=true
 .have s:k<q.size:=by simp at c;exact c.2
  have p:i=0:=by simp at c;exact c.1
  have j:=Z c;have t:(k:Int)<(q.size:Int):=om;have u:∀b,(v.drewN b).cell? (aD n 0)=some (.string q):=λ_=>m;have y:∀b,(v.drewN b).cell? (aD n 1)=some (.int .i64 (k:Nat)):=λ_=>o;have d:=dY s;by_cases f:48<=q[k].toNat;focus
   have d1:decide ((48:Int)<=(q[k].toNat:Int))=true:=by simp;omega
   by_cases g:q[k].toNat<=57;focus
    have d2:decide ((q[k].toNat:Int)<=(57:Int))=true:=by simp;omega
    have e:(decide (i=0)&&O (bt (E q) k))=true:=by rw[d];simp[p,O,f,g]
   rotate_left;focus
    have d2:decide ((q[k].toNat:Int)<=(57:Int))=false:=by simp;omega
    have e:(decide (i=0)&&O (bt (E q) k))=false:=by rw[d];simp[O,g]
  rotate_left 2;focus
   have d1:decide ((48:Int)<=(q[k].toNat:Int))=false:=by simp;omega
   have e:(decide (i=0)&&O (bt (E q) k))=false:=by rw[d];simp[O,f]
  all_goals rw[e];clear e c d;go_enter func172,ntmps172;go_wp2_with fail;refine(rE H.o).mono ?_;rintro r B⟨rfl,l,rfl⟩;rw[j.o];have x:=u l;have z:=y l;go_wp2;go_quiet(fail);go_wp2;go_ret;exact⟨rfl,_,fQ _ _ _⟩
 have c:(decide (i=0)&&decide (k<q.size))=false:=by simpa using c
 have e:(decide (i=0)&&O (bt (E q) k))=false:=by grind[iF,O]
 rw[e];have j:=Z c;clear e c;go_enter func172,ntmps172;go_wp2_with fail;refine(rE H.o).mono ?_;rintro r B⟨rfl,l,rfl⟩;rw[j.o];go_wp2;go_quiet(fail);go_wp2;go_ret;exact⟨rfl,_,fQ _ _ _⟩
def eU(s:List UInt8)(p e c:Nat):Nat:=if e=0/\bt s p=c then p+1 else p
def eW(s:List UInt8)(p e c:Nat):Nat:=if e=0/\bt s p≠c then 2 else e
theorem kj(h:RR n q w k i a v)(B:q.size<=4000000)(c:Nat)(s:Int)(o:s=c)(t:c<256):Calls prog 171 #[pT n,.int .u8 s] v λr p=>r=.returned (.tuple #[])/\RR n q w (eU (E q) k i c) (eW (E q) k i c) a p:=by
 subst o;have H:=Z h;have l:=h.c1;have y:=h.k.fz 1;clear h;by_cases b:(decide (i=0)&&decide (bt (E q) k=c))=true
 .have m:i=0/\bt (E q) k=c:=by simpa using b
  have A:k<q.size:=by have:=cQ (s:=E q) (p:=k) om;rw[ak]at this;exact this
  have j:=Z b;have d:eU (E q) k i c=k+1:=by simp[eU,m]
  have e:eW (E q) k i c=i:=by simp[eW,m]
  rw[d,e];clear b m d e;go_enter func171,ntmps171;go_wp2_with fail;refine(AB H.o c _ rfl t).mono ?_;rintro r g⟨rfl,f,rfl⟩;rw[j.o];have C:(v.drewN f).cell? (aD n 1)=some (.int .i64 (k:Nat)):=l;have D:(v.drewN f).frozen? (aD n 1)=false:=y;go_wp2;go_end0;exact⟨rfl,(H.o.drewN f).kI (k+1)⟩
 have b:(decide (i=0)&&decide (bt (E q) k=c))=false:=by simpa using b
 have j:=Z b;have d:eU (E q) k i c=k:=by grind[eU]
 have e:eW (E q) k i c=if i=0 then 2 else i:=by grind[E,bt,eW]
 rw[d,e];have x:Hid (∀g,RR n q w k i a g->Calls prog 100 #[pT n,.int .i64 2] g λr p=>r=.returned (.tuple #[])/\RR n q w k (if i=0 then 2 else i) a p):=λg l=>iL l 2 _ rfl;clear b d e;generalize(if i=0 then 2 else i)=z at*;go_enter func171,ntmps171;go_wp2_with fail;refine(AB H.o c _ rfl t).mono ?_;rintro r g⟨rfl,f,rfl⟩;rw[j.o];go_wp2_with fail;refine mh (x.o _ (H.o.drewN f)) λF u=>?_;go_wp2;(try simp only[Exit.inBlock,Exit.then]);refine bodyPost_ret (results_none rfl _ _ _) rfl ?_;exact⟨rfl,u.o⟩
def rP(b:Nat)(w:World):Nat:=match w.cell? (aD b 1)with|some (.int _ n)=>n.toNat|_=>0
theorem RR.rP{w b:World}(h:RR n q w k i a b):rP n b=k:=by have:=h.c1;simp[Go.Proofs.YtcbadebjpogmlaaGreatDoor.rP,this]
theorem lG(h:RR n q w k i a v)(c:Nat)(d:Int)(e:d=c)(j:c<256)(x:Bool)(l:(decide (i=0)&&decide (bt (E q) k=c))=x):Calls prog 130 #[pT n,.int .u8 d] v λr m=>r=.returned (.bool x)/\RR n q w k i a m:=(AB h c d e j).mono λ_ _⟨f,b,g⟩=>⟨by rw[f,l],by rw[g];exact h.drewN b⟩
theorem xV(h:RR n q w k i a v)(x:Bool)(e:(decide (i=0)&&decide (k<q.size))=x):Calls prog 99 #[pT n] v λr f=>r=.returned (.bool x)/\RR n q w k i a f:=(rE h).mono λ_ _⟨c,b,d⟩=>⟨by rw[c,e],by rw[d];exact h.drewN b⟩
theorem JK(h:RR n q w k i a v)(x:Bool)(e:(decide (i=0)&&O (bt (E q) k))=x):Calls prog 172 #[pT n] v λr f=>r=.returned (.bool x)/\RR n q w k i a f:=(Ps h).mono λ_ _⟨c,b,d⟩=>⟨by rw[c,e],by rw[d];exact h.drewN b⟩
theorem Vf(h:bt (E q) n=k)(a:k<256):n<q.size:=by have:=cQ (s:=E q) (p:=n) om;rw[ak]at this;exact this
theorem ef{w0:World}(h:RR n q w0 k 0 a w)(S:q.size<=4000000):Calls prog 98 #[pT n] w λr N=>r=.returned (.tuple #[])/\∃j,Sk (E q) k j/\RR n q w0 j 0 a N:=by
 have H:=Z h;clear h;go_enter func98,ntmps98;go_wp2;go_loopw[2,3]λ_ _ wr=>∃j,k<=j/\(∀b,k<=b->b<j->cm (bt (E q) b)=true)/\RR n q w0 j 0 a wrλ_ _ wr=>q.size-rP n wr;case atStart=>exact⟨k,aP _,λb G f=>by omega,H.o⟩
 case round=>
  clear H;obtain⟨j,L,c,y⟩:=hrel;have C:=Z y;have B:=Z c;have K:=Z y.rP;clear y c;obtain⟨g,d⟩:∃g,(decide (0=0)&&decide (bt (E q) j=32))=g:=⟨_,rfl⟩;obtain⟨o,e⟩:∃o,(decide (0=0)&&decide (bt (E q) j=10))=o:=⟨_,rfl⟩;have D:=Z d;have F:=Z e;by_cases J:g=false/\o=false
  .have m:cm (bt (E q) j)=false:=by grind[cm]
   have s:=Z m;obtain⟨rfl,rfl⟩:=J;clear d e m;go_wp2_with fail;refine mh (lG C.o 32 _ rfl de _ D.o) λP i=>?_;go_wp2_with fail;refine mh (lG i.o 10 _ rfl de _ F.o) λR t=>?_;clear i;go_wp2;(try simp only[Exit.inBlock,Exit.then]);refine bodyPost_ret (results_none rfl _ _ _) rfl ?_;exact⟨rfl,j,⟨L,B.o,s.o⟩,t.o⟩
  have M:j<q.size:=by
   by_cases x:bt (E q) j=32;.exact Vf x de
   by_cases v:bt (E q) j=10;.exact Vf v de
   grind
  have l:cm (bt (E q) j)=true:=by grind[E,bt,cm]
  have s:=Z l;have A:g=true\/(g=false/\o=true):=by cases g<;>cases o<;>simp_all
  clear d e l J;go_wp2_with fail;refine mh (lG C.o 32 _ rfl de _ D.o) λP i=>?_;go_wp2_with fail;refine mo (lG i.o 10 _ rfl de _ F.o) λR f=>?_;have t:=Z f;have T:=f.c1;have U:=f.k.fz 1;clear f i;have u:=Z (t.o.kI (j+1));have z:((j+1:Nat):Int)=(j:Int)+1:=om;rw[z]at u;have p:=Z u.o.rP;rcases A with rfl|⟨rfl,rfl⟩;all_goals
   go_wp2;go_roundw;case rel=>
    refine⟨j+1,om,λb G f=>?_,u.o⟩;rcases Nat.lt_or_ge b j with h|h;.exact B.o b G h
    have:b=j:=om;rw[this];exact s.o
   case measure=>rw[K.o,p.o];omega
