import Derived.Test.YtcbadebjpogmlaaGreatDoorVvTyM
import Derived.Test.YtcbadebjpogmlaaGreatDoorVvRrE
set_option maxHeartbeats 8000000
set_option maxRecDepth 100000
namespace Go.Proofs.YtcbadebjpogmlaaGreatDoor
open Go.RowKit Tr Go.Proofs.Tryz
def cM(l:List Value):Nat->List Value|0=>[]|n+1=>cM l n++l
theorem ic(l:List Value):∀n,(cM l n).length=n*l.length|0=>by simp[cM]|n+1=>by rw[cM,cG,ic l n,Nat.succ_mul]
theorem nW(l:List Value)(n:Nat):∀m,cM l n++cM l m=cM l (n+m)|0=>by simp[cM]|m+1=>by rw[cM,<-gh,nW l n m];rfl
variable{n k a i j D:Nat}
theorem Fs(l:List Value)(h:n<=k):(cM l k).take (n*l.length)=cM l n:=by obtain⟨a,rfl⟩:∃a,k=n+a:=⟨k-n,om⟩;rw[<-nW,<-ic l n,List.take_left'];rfl
theorem JN(l:List Value)(c:k<n)(d:a<l.length):(cM l n)[k*l.length+a]?=l[a]?:=by obtain⟨b,rfl⟩:∃b,n=(k+1)+b:=⟨n-(k+1),om⟩;rw[<-nW,List.getElem?_append_left (by rw[ic,Nat.succ_mul];omega),cM,List.getElem?_append_right (by rw[ic];omega),ic];congr 1;omega
theorem lU(l:List Value)(h:∀u∈l,u.oneCell'=true):∀n,∀u∈cM l n,u.oneCell'=true
 |0,u,a=>by cases a|n+1,u,a=>by
  rcases gU.1 a with y|y;.exact lU l h n u y
  exact h u y
variable{w v u U:World}{b K:TypeId}{c r R:List Value}
theorem JO(h:w.ownsRow n b k (.slice (sA a) i j) i c)(p:D<=i):w.ownsRow n b k (.slice (sA a) D j) D (c.take (D*k)):=by
 have t:D*k<=i*k:=Nat.mul_le_mul_right _ p;rcases h.2 with⟨x,_⟩|⟨q,e,d,f,g,l,r,m,o,s⟩;.cases x
 simp only[Value.slice.injEq,Option.some.injEq,Addr.mk.injEq,and_true,true_and]at f;obtain⟨rfl,rfl⟩:=f;refine⟨by rw[List.length_take,h.1];omega,I ⟨a,j,d,rfl,g,l,om,m,o,?_⟩⟩;grind
def Px(w c:World)(v b:Value)(n m:Nat):Prop:=(∃g a,v=.slice (sA g) n a/\b=.slice (sA g) (n+m) a)\/(b.ownBlock=some w.heap.size/\∀k,k<w.heap.size->c.heap[k]?=w.heap[k]?)
theorem JP{P:Program}(w:World)(p:Nat)(t L e:TypeId)(i:TypeInfo)(z:Value)(d o:Nat)(T:P.underlying t=some (.slice e))(R:P.info? e=some i)(hz:i.zero=some z)(s:i.size=d)(H:i.bytes=o)(hzs:z.cells.size=d)(hsz:0<d)(v:Value)(n:Nat)(M:List Value)(q:w.ownsRow p e d v n M)(a:Addr)(m c:Nat)(b:List Value)(K:b.length=m*d)(h:∀j u,b[j]?=some u->w.cell? (a.add j)=some u)(h1:∀u∈b,u.oneCell'=true)(hm:0<m)(G:n+m<=maxLen)(f:(n+m)*o<=140737488355328)(y:p<=w.heap.size):∃B C,(Builtin.append_ #[t,t] L #[v,.slice (some a) m c]).run P w=.ok B C/\C.ownsRow p e d B (n+m) (M++b)/\w.grownBy C v.ownBlock/\Px w C v B n m/\(B.ownBlock=v.ownBlock\/B.ownBlock=some w.heap.size):=by
 obtain⟨B,C,S,h2,h3,_,h5⟩:=run_append_own_at (P:=P) w p t L e i z d o T R hz s H hzs hsz v n M q a m c b K h h1 G f y;refine⟨B,C,S,h2,h3,?_,h5⟩;subst s;subst H;have ajI:n+m<=9223372036854775807:=by unfold maxLen at G;omega
 rcases q.2 with⟨rfl,rfl⟩|⟨g,x,D,rfl,NK,hg,hnc,hcm,U,Tc⟩;.have l:=run_append_nil (P:=P) w t L e i z T R hz a m c b K h hm om (by have hb:=f;simp only[Nat.zero_add]at hb;omega);rw[S]at l;injection l with F N;subst F N;exact I ⟨rfl,λk W=>Below.heap_alloc w.drew _ k W⟩
 by_cases r:n+m<=x
 .have J:n*i.size+b.length<=D.size:=by rw[K,U,<-Nat.add_mul];exact Nat.mul_le_mul_right _ r
  have l:=run_append_room (P:=P) w t L e i T R g n x D hg a m c b K h h1 r J;rw[S]at l;injection l with F N;exact Y ⟨g,x,rfl,F⟩
 have A:∀j u,M[j]?=some u->w.cell? (((aD g 0):Addr).add j)=some u:=q.cells (g:=g) rfl;have l:=run_append_grow (P:=P) w t L e i z T R hz (aD g 0) n x M q.1 A a m c b K h om om (growslice_fits om f);rw[S]at l;injection l with F N;subst F N;exact I ⟨rfl,λk W=>Below.heap_alloc w.drew _ k W⟩
theorem gS{P:Program}{D:Array Oper}{p:List Oper}{o:Oper}{a:Act}{b:Exit->Act->World->Prop}(J:o.guard=none)(s x:Operand)(t:TypeId)(ho:o.op=.call {callee:=.builtin .append,args:=#[s,x],argTypes:=#[t,t]})(k:Nat)(e:TypeId)(i:TypeInfo)(z:Value)(d g:Nat)(ht:P.underlying t=some (.slice e))(hi:P.info? e=some i)(hz:i.zero=some z)(y:i.size=d)(H:i.bytes=g)(M:z.cells.size=d)(L:0<d)(v:Value)(n:Nat)(N:List Value)(hs:a.eval s=v)(C:w.ownsRow k e d v n N)(F:Addr)(m c:Nat)(f:List Value)(hx:a.eval x=.slice (some F) m c)(hl:f.length=m*d)(r:∀j u,f[j]?=some u->w.cell? (F.add j)=some u)(R:∀u∈f,u.oneCell'=true)(hm:0<m)(G:n+m<=maxLen)(l:(n+m)*g<=140737488355328)(q:k<=w.heap.size)(h:∀A B,B.ownsRow k e d A (n+m) (N++f)->w.grownBy B v.ownBlock->Px w B v A n m->(A.ownBlock=v.ownBlock\/A.ownBlock=some w.heap.size)->wpList P D b p (a.put o.dst A) B):wpList P D b (o::p) a w:=by refine wpList_plain J λK hK=>?_;obtain⟨A,B,hr,S,T,U,W⟩:=JP (P:=P) w k t o.type e i z d g ht hi hz y H M L v n N C F m c f hl r R hm G l q;unfold Oper.wp execOp;simp only[ho,resolve,invoke,builtin,Sem.run_bind,Sem.run_pure,Result.andThen_ok,List.map_toArray,List.map_cons,List.map_nil,hs,hx,hr];exact hK _ _ (h A B S T U W)
variable{f g A F L N P:Value}
theorem rG(r:0<k)(o:c.length=k)(P:w.ownsRow n b k f a (cM c a))(R:v.ownsRow n b k g (a+i) (cM c (a+i)))(N:w.grownBy v f.ownBlock)(M:Px w v f g a i)(h:w.ownsRow n b k A j (cM c j))(y:A.ownBlock=f.ownBlock->j<=a+i):v.ownsRow n b k A j (cM c j):=by
 rcases M with⟨d,m,rfl,rfl⟩|⟨_,L⟩
 .by_cases p:A.ownBlock=some d
  .rcases h.2 with⟨rfl,_⟩|⟨H,e,C,rfl,T,J,U,W,K,h7⟩;.cases p
   have G:H=d:=cI p;subst G;rcases P.2 with⟨x,_⟩|⟨S,t,u,z,x2,s,x4,x5,B,x7⟩;.cases x
   simp only[Value.slice.injEq,Option.some.injEq,Addr.mk.injEq,and_true,true_and]at z;obtain⟨rfl,rfl⟩:=z;rw[J]at s;simp only[Option.some.injEq,Obj.cells.injEq,and_true]at s;subst s;have F:e=m:=by rw[K]at B;exact Nat.eq_of_mul_eq_mul_right r B
   subst F;have:=JO R (y rfl);rw[<-o,Fs c (y rfl)]at this;grind
  exact aV h λq l=>N.block q (h.lt q l).2 λD=>p (by rw[l];exact D)
 exact aV h λq l=>L q (h.lt q l).2
def Fu(m:Int):List Value:=[.string ⟨#[]⟩,.int .i64 m,.int .i64 0]
def Dk(m:Int):List Value:=[.string ⟨#[]⟩,.int .i64 0,.int .i64 0,.int .i64 m]
theorem Fv:(prog.info? 29).map (λi=>(i.zero,i.size,i.bytes))=some (some (.slice none 0 0),1,24):=by kernel_rfl
theorem x8:(prog.info? 33).map (λi=>(i.zero,i.size,i.bytes))=some (some (.slice none 0 0),1,24):=by kernel_rfl
theorem uc:(prog.info? 3).map (λi=>(i.zero,i.size,i.bytes))=some (some (.int .i64 0),1,8):=by kernel_rfl
structure XI(T S:TypeId)(sz i:Nat)(mk:List Value)(B gw:Nat)(cs:List Value)(nx:Nat)(lv nv mv:Value)(k n:Nat)(nsv nmv:List Value)(w w':World):Prop where ex:∃g1 g2 g3 Te Tf,V w' gw ((((cs.set i Te).set (i+1) Tf)++[Value.int .i64 ((nx+1:Nat):Int)]).toArray) 61/\w'.ownsRow (gw+1) S 1 Te (k+4) (nsv++[lv,g1,g2,g3])/\w'.ownsRow (gw+1) 3 1 Tf (k+4) (nmv++[.int .i64 (-((nx+1:Nat):Int)),.int .i64 (-((nx+1:Nat):Int)),.int .i64 (-((nx+1:Nat):Int)),.int .i64 (-((nx+1:Nat):Int))])/\(w'.ownsRow B T sz lv n (cM mk n)/\w'.ownsRow B T sz g1 (n+1) (cM mk (n+1))/\w'.ownsRow B T sz g2 (n+2) (cM mk (n+2))/\w'.ownsRow B T sz g3 (n+3) (cM mk (n+3)))/\(∀q,Te.ownBlock=some q->nv.ownBlock=some q\/w.heap.size<=q)/\(∀q,Tf.ownBlock=some q->mv.ownBlock=some q\/w.heap.size<=q)/\(∀q,g1.ownBlock=some q\/g2.ownBlock=some q\/g3.ownBlock=some q->lv.ownBlock=some q\/w.heap.size<=q)fr:Fr (λq=>q=gw\/nv.ownBlock=some q\/mv.ownBlock=some q\/lv.ownBlock=some q) w w'
theorem rH{l:Nat}(h:w.ownsRow n b l f a c){k:Nat}(d:f.ownBlock=some k):∃j,V w k j b:=by
 rcases h.2 with⟨x,_⟩|⟨g,i,e,m,_,o,_⟩;.rw[x]at d;cases d
 rw[m]at d;have b:g=k:=cI d;subst b;exact⟨e,o⟩
theorem cu(h:w.ownsRow n b a f j c)(l:w.ownsRow k K i g D r)(m:b≠K):∀d,f.ownBlock=some d->g.ownBlock≠some d:=λd o e=>by grind[rH,V]
theorem vB{d:Array Value}(h:w.ownsRow n b k f a c)(e:V w i d K)(g:b≠K):f.ownBlock≠some i:=λj=>by grind[rH,V]
variable{J:Obj}
theorem pR(h:n<=w.heap.size):n<=(w.alloc J).heap.size:=by simp;omega
structure YZ(T:TypeId)(sz B:Nat)(lv:Value)(n:Nat)(ms:List Value)(W:World)(j:Nat)(LS:List (Value×Nat))(w:World):Prop where
 fr:Fr (λq=>lv.ownBlock=some q) W w
 l:w.ownsRow B T sz lv n (cM ms n)ls:∀e∈LS,w.ownsRow B T sz e.1 e.2 (cM ms e.2)/\(e.1.ownBlock=lv.ownBlock->e.2<=n+j)/\∀q,e.1.ownBlock=some q->lv.ownBlock=some q\/W.heap.size<=q
theorem YZ.step(l:0<n)(j:c.length=n){t:List (Value×Nat)}(h:YZ b n k f a c w i t v)(G:r=cM c (i+1))(B:u.ownsRow k b n g (a+(i+1)) (cM c a++r))(p:(v.alloc J).grownBy u f.ownBlock)(A:Px (v.alloc J) u f g a (i+1))(o:g.ownBlock=f.ownBlock\/g.ownBlock=some (v.heap.size+1)):YZ b n k f a c w (i+1) (t++[(g,a+(i+1))]) u:=by
 have d:u.ownsRow k b n g (a+(i+1)) (cM c (a+(i+1))):=by rw[G,nW]at B;exact B
 have s:=h.l.alloc J;refine⟨(h.fr.alloc J).grown p λq m=>I m,rG l j s d p A s λ_=>by omega,λe F=>?_⟩;rcases gU.1 F with y|y;.obtain⟨C,x,D⟩:=h.ls e y;exact⟨rG l j s d p A (C.alloc J) λy=>by have:=x y;omega,λy=>by have:=x y;omega,D⟩
 rw[dy.1 y];refine⟨d,λ_=>aP _,λq m=>?_⟩;rcases o with z|z;.exact Y (z▸m)
 have H:v.heap.size+1=q:=cI (z.symm.trans m);have:=h.fr.size;exact I om
theorem JQ(m:c=[f,g,A])(h:w.ownsRow n b 3 (.slice (sA k) a i) a (cM c j++r))(K:j<a):(((w.setCell (aD k (j*3)) f).setCell (aD k (j*3+1)) g).setCell (aD k (j*3+2)) A).ownsRow n b 3 (.slice (sA k) a i) a (cM c (j+1)++r.drop 3):=by
 have v:(cM c j).length=j*3:=by rw[ic,m];rfl
 have e:=h.1;rw[cG,v]at e;rcases h.2 with⟨x,_⟩|⟨J,u,s,y,B,C,D,F,G,H⟩;.cases x
 simp only[Value.slice.injEq,Option.some.injEq,Addr.mk.injEq,and_true,true_and]at y;obtain⟨rfl,rfl⟩:=y;have z:V w k s b:=C;have t:=((z.set (j*3) f).set (j*3+1) g).set (j*3+2) A;obtain⟨o,p,q,d,rfl⟩:∃o p q d,r=o::p::q::d:=by match r,e with|[],l=>simp at l;omega|[_],l=>simp at l;omega|[_,_],l=>simp at l;omega|o::p::q::d,_=>exact⟨o,p,q,d,rfl⟩
 refine⟨?_,I ⟨k,i,_,rfl,B,t,D,F,by simp[G],?_⟩⟩;.grind[ic]
 simp only[Array.toList_setIfInBounds,List.take_set,H];rw[List.set_append_right _ _ om,List.set_append_right _ _ om,List.set_append_right _ _ om,v];simp only[Nat.sub_self,Nat.add_sub_cancel_left,List.set_cons_zero,List.set_cons_succ,List.drop_succ_cons,List.drop_zero];rw[cM,m];simp
theorem JR(m:c=[f,g,A,F])(h:w.ownsRow n b 4 (.slice (sA k) a i) a (cM c j++r))(M:j<a):((((w.setCell (aD k (j*4)) f).setCell (aD k (j*4+1)) g).setCell (aD k (j*4+2)) A).setCell (aD k (j*4+3)) F).ownsRow n b 4 (.slice (sA k) a i) a (cM c (j+1)++r.drop 4):=by
 have y:(cM c j).length=j*4:=by rw[ic,m];rfl
 have e:=h.1;rw[cG,y]at e;rcases h.2 with⟨x,_⟩|⟨L,v,t,z,C,D,G,H,J,K⟩;.cases x
 simp only[Value.slice.injEq,Option.some.injEq,Addr.mk.injEq,and_true,true_and]at z;obtain⟨rfl,rfl⟩:=z;have B:V w k t b:=D;have u:=(((B.set (j*4) f).set (j*4+1) g).set (j*4+2) A).set (j*4+3) F;obtain⟨o,p,q,s,d,rfl⟩:∃o p q s d,r=o::p::q::s::d:=by match r,e with|[],l=>simp at l;omega|[_],l=>simp at l;omega|[_,_],l=>simp at l;omega|[_,_,_],l=>simp at l;omega|o::p::q::s::d,_=>exact⟨o,p,q,s,d,rfl⟩
 refine⟨?_,I ⟨k,i,_,rfl,C,u,G,H,by simp[J],?_⟩⟩;.grind[ic]
 simp only[Array.toList_setIfInBounds,List.take_set,K];rw[List.set_append_right _ _ om,List.set_append_right _ _ om,List.set_append_right _ _ om,List.set_append_right _ _ om,y];simp only[Nat.sub_self,Nat.add_sub_cancel_left,List.set_cons_zero,List.set_cons_succ,List.drop_succ_cons,List.drop_zero];rw[cM,m];simp
theorem iG{d j:Nat}(h:w.ownsRow n b D (.slice (sA k) a i) a c)(g:d<a)(m:j<D):(∃v,w.cell? (aD k (d*D+j))=some v)/\∀o,w.frozen? (aD k o)=false:=by
 obtain⟨l,f⟩:=rH h (k:=k) rfl;have p:=h.1;have e:d*D+j<a*D:=by have:(d+1)*D<=a*D:=Nat.mul_le_mul_right _ g;grind
 refine⟨⟨c[d*D+j]'(by omega),?_⟩,f.fz⟩;rw[h.cellAt (d*D+j) e];exact fB _
set_option linter.unusedSimpArgs false
theorem Vg{w:World}{B:Nat}(hb:V w n #[f,g,A,F,L,N,.int .i64 (k:Nat)] 61)(S:w.ownsRow (n+1) 29 1 A a c)(J:w.ownsRow (n+1) 3 1 F a r)(hl:w.ownsRow B 42 3 P i R)(hB:n<B)(hBw:B<=w.heap.size)(hn:i<=2000000000000)(hk:a<=2000000000000)(hx:k<=2000000000000):Calls prog 67 #[pT n,P] w λl w'=>l=.returned (.tuple #[])/\XI 42 29 3 2 (Fu (-((k+1:Nat):Int))) B n [f,g,A,F,L,N] k P A F a i c r w w':=by
 obtain⟨G,H,rfl⟩:=X S;obtain⟨s,t,rfl⟩:=X J;obtain⟨M,hM⟩:∃M:Int,M=-((k+1:Nat):Int):=⟨_,rfl⟩;obtain⟨ms,Vh⟩:∃ms,ms=Fu M:=⟨_,rfl⟩;have JS:ms=[.string ⟨#[]⟩,.int .i64 M,.int .i64 0]:=Vh;obtain⟨W1,mQ⟩:∃W1,W1=w.setCell (aD n 6) (.int .i64 ((k:Int)+1)):=⟨_,rfl⟩;have B1:V W1 n #[f,g,.slice G a H,.slice s a t,L,N,.int .i64 ((k:Int)+1)] 61:=by rw[mQ];exact hb.set 6 _
 have F1:Fr (λq=>q=n) w W1:=by rw[mQ];exact(Fr.refl (λq=>q=n) w).setCell (aD n 6) (Y rfl) _
 obtain⟨W2,nQ⟩:∃W2,W2=W1.alloc (.cells #[.string ⟨#[]⟩,.int .i64 M,.int .i64 0] 42):=⟨_,rfl⟩;obtain⟨z,hmb⟩:∃z,z=W1.heap.size:=⟨_,rfl⟩;have B2:V W2 n #[f,g,.slice G a H,.slice s a t,L,N,.int .i64 ((k:Int)+1)] 61:=by rw[nQ];exact B1.alloc _
 have Vi:V W2 z #[.string ⟨#[]⟩,.int .i64 M,.int .i64 0] 42:=by rw[nQ,hmb];exact V.new W1 _ _
 have F2:Fr (λq=>q=n) w W2:=by rw[nQ];exact F1.alloc _
 have x_:W1.heap.size=w.heap.size:=by rw[mQ];simp[World.setCell]
 have JT:z=w.heap.size:=by rw[hmb,x_]
 have Vj:∀q,(Value.slice G a H).ownBlock=some q->q≠n:=λq m=>by have:=(S.lt q m).1;omega
 have Vk:∀q,(Value.slice s a t).ownBlock=some q->q≠n:=λq m=>by have:=(J.lt q m).1;omega
 have Vl:∀q,P.ownBlock=some q->q≠n:=λq m=>by have:=(hl.lt q m).1;omega
 have Y0:W2.ownsRow (n+1) 29 1 (Value.slice G a H) a c:=aV S λq m=>F2.block q (S.lt q m).2 (Vj q m);have Y1:W2.ownsRow (n+1) 3 1 (Value.slice s a t) a r:=aV J λq m=>F2.block q (J.lt q m).2 (Vk q m);have L2:W2.ownsRow B 42 3 P i (cM ms 0++R):=aV (by simpa[cM]using hl) λq m=>F2.block q (hl.lt q m).2 (Vl q m);have n1:∀q,P.ownBlock=some q->(Value.slice G a H).ownBlock≠some q:=cu hl S de;have n2:∀q,P.ownBlock=some q->(Value.slice s a t).ownBlock≠some q:=cu hl J de;have n3:∀q,(Value.slice G a H).ownBlock=some q->(Value.slice s a t).ownBlock≠some q:=cu S J de;have n4:P.ownBlock≠some z:=λe=>by have:=(hl.lt z e).2;omega
 have HB:=Z hb;have b6:=hb.cell 6;have bf:=hb.fz;simp at b6;have d6:W1.cell? (aD n 6)=some (.int .i64 ((k:Int)+1)):=B1.cell 6;have HMN:-((k:Int)+1)=M:=by rw[hM];push_cast;rfl
 obtain⟨la,lc,hlv⟩:=X hl;have HNS:=Z S;have Y2:=Z J;have HL:=Z hl;subst hlv;have me:=Z mQ;have Cs:=Z nQ;have HM:=Z hM;have D:=Z JS;have Vm:=Z Vh;have HMB:=Z hmb;have acV:=Z JT;have C:=Z F2;have BB2:=Z B2;have Py:=Z Vi;have JU:=Z Y0;have JV:=Z Y1;have Vn:=Z L2;have NG:=Z (db Vj (db Vk Vl));have NN:=Z (db n1 (db n2 (db n3 n4)));have acX:z<W2.heap.size:=Vi.lt;have Tg:n≠z:=by have:=hb.lt;omega
 clear hb S J hl nQ hM Vh JS hmb JT F1 F2 B1 B2 Vi Y0 Y1 L2 Vj Vk Vl n1 n2 n3 n4 x_;go_enter func67,ntmps67;go_upto_region 1 with fail;rw[<-me.o];clear mQ b6 bf;go_upto_region 2 with fail;rw[<-Cs.o,<-HMB.o];clear d6;go_wp2;go_loopw[5]λd wr=>∃j:Nat,j<=i/\d=.int .i64 j/\Fr (λq=>(Value.slice la i lc).ownBlock=some q) W2 wr/\wr.ownsRow B 42 3 (.slice la i lc) i (cM ms j++R.drop (j*3))λd _=>i-(intOf d).toNat;case atStart=>exact⟨0,aT _,rfl,Fr.refl _ _,by simpa using Vn.o⟩
 case round=>
  clear Vn;obtain⟨j,hj,rfl,hF,hO⟩:=hrel;have FF:=Z hF;have OO:=Z hO;have p:V wr z #[.string ⟨#[]⟩,.int .i64 M,.int .i64 0] 42:=Py.o.fr hF NN.o.2.2.2;have m0:=p.cell 0;have m1:=p.cell 1;have m2:=p.cell 2;simp at m0 m1 m2;clear hF hO p;by_cases hjn:j<i
  .have hji:(j:Int)<(i:Int):=om;obtain⟨b,cap,hv,_,_⟩:=OO.o.form om;simp only[Value.slice.injEq,true_and]at hv;obtain⟨rfl,rfl⟩:=hv;obtain⟨⟨y0,h0⟩,hfz⟩:=iG OO.o hjn (j:=0) om;obtain⟨⟨y1,h1⟩,_⟩:=iG OO.o hjn (j:=1) om;obtain⟨⟨y2,h2⟩,_⟩:=iG OO.o hjn (j:=2) om;rw[Nat.add_zero]at h0;have R2:=Z (JQ D.o OO.o hjn);have F2:Hid (Fr (λq=>(Value.slice (sA b) i lc).ownBlock=some q) W2 ((((wr.setCell (aD b (j*3)) (.string ⟨#[]⟩)).setCell (aD b (j*3+1)) (.int .i64 M)).setCell (aD b (j*3+2)) (.int .i64 0)))):=by exact(((FF.o.setCell (aD b (j*3)) (Y rfl) (.string ⟨#[]⟩)).setCell (aD b (j*3+1)) (Y rfl) (.int .i64 M)).setCell (aD b (j*3+2)) (Y rfl) (.int .i64 0))
   go_wp2;go_roundw;case rel=>refine⟨j+1,om,by go_num,F2.o,?_⟩;have:=R2.o;rw[List.drop_drop]at this;rw[show(j+1)*3=j*3+3 by omega];exact this
   case measure=>simp[intOf];omega
  have Vo:j=i:=om;have hji:¬(j:Int)<(i:Int):=om;have S0:Hid (YZ 42 3 B (.slice la i lc) i ms W2 0 [] wr):=by refine⟨FF.o,?_,λe he=>by cases he⟩;have:=OO.o;rw[Vo,List.drop_of_length_le (by rw[HL.o.1];exact aP _),gz]at this;exact this
  have hsB:B<=wr.heap.size:=by have:=FF.o.size;have:=C.o.size;omega
  have Vp:Hid (ms.length=3):=by rw[D.o];rfl
  obtain⟨i0,hi,hz0,hz1,eE⟩:=info_parts rz;have HI:=Z hi;have iK:=Z hz0;have iz:=Z hz1;have ja:=Z eE;have AG:Hid (∀u∈ms,u.oneCell'=true):=by rw[D.o];intro u hu;simp at hu;rcases hu with rfl|rfl|rfl<;>rfl
  have ON1:Hid (∀u∈([.string ⟨#[]⟩,.int .i64 M,.int .i64 0]:List Value),u.oneCell'=true):=by have:=AG.o;rw[D.o]at this;exact this
  have ON2:Hid (∀u∈([.string ⟨#[]⟩,.int .i64 M,.int .i64 0,.string ⟨#[]⟩,.int .i64 M,.int .i64 0]:List Value),u.oneCell'=true):=by have:=lU ms AG.o 2;rw[D.o]at this;exact this
  have ON3:Hid (∀u∈([.string ⟨#[]⟩,.int .i64 M,.int .i64 0,.string ⟨#[]⟩,.int .i64 M,.int .i64 0,.string ⟨#[]⟩,.int .i64 M,.int .i64 0]:List Value),u.oneCell'=true):=by have:=lU ms AG.o 3;rw[D.o]at this;exact this
  clear OO hi hz0 hz1 eE;have x:=S0.o.l;go_wp2_with(at_builtin;refine gS rfl _ _ 29 rfl B 42 i0 _ 3 32 underlying29 HI.o iK.o iz.o ja.o rfl de _ _ _ rfl (x.alloc _) (aD wr.heap.size 0) 1 1 [.string ⟨#[]⟩,.int .i64 M,.int .i64 0] rfl rfl (World.news_of_block (V.new wr #[.string ⟨#[]⟩,.int .i64 M,.int .i64 0] 42)) ON1.o om (by unfold maxLen;omega) om (pR hsB) ?_);intro v1 w4 T hg hf y;have S1:=Z (S0.o.step om Vp.o (by rw[D.o];rfl) T hg hf y);obtain⟨a1,k1,rfl⟩:=X T;clear T hg hf y x S0 m0 m1 m2;have p:V w4 z #[.string ⟨#[]⟩,.int .i64 M,.int .i64 0] 42:=Py.o.fr S1.o.fr NN.o.2.2.2;have m0:=p.cell 0;have m1:=p.cell 1;have m2:=p.cell 2;simp at m0 m1 m2;clear p;have Vq:B<=w4.heap.size:=by have:=S1.o.fr.size;have:=C.o.size;omega
  have x:=S1.o.l;go_wp2_with(at_builtin;refine gS rfl _ _ 29 rfl B 42 i0 _ 3 32 underlying29 HI.o iK.o iz.o ja.o rfl de _ _ _ rfl (x.alloc _) (aD w4.heap.size 0) 2 2 [.string ⟨#[]⟩,.int .i64 M,.int .i64 0,.string ⟨#[]⟩,.int .i64 M,.int .i64 0] rfl rfl (World.news_of_block (V.new w4 #[.string ⟨#[]⟩,.int .i64 M,.int .i64 0,.string ⟨#[]⟩,.int .i64 M,.int .i64 0] 42)) ON2.o om (by unfold maxLen;omega) om (pR Vq) ?_);intro v2 w5 T hg hf y;have S2:=Z (S1.o.step om Vp.o (by rw[D.o];rfl) T hg hf y);obtain⟨a2,k2,rfl⟩:=X T;clear T hg hf y x S1 m0 m1 m2;have p:V w5 z #[.string ⟨#[]⟩,.int .i64 M,.int .i64 0] 42:=Py.o.fr S2.o.fr NN.o.2.2.2;have m0:=p.cell 0;have m1:=p.cell 1;have m2:=p.cell 2;simp at m0 m1 m2;clear p;have Vr:B<=w5.heap.size:=by have:=S2.o.fr.size;have:=C.o.size;omega
  have x:=S2.o.l;go_wp2_with(at_builtin;refine gS rfl _ _ 29 rfl B 42 i0 _ 3 32 underlying29 HI.o iK.o iz.o ja.o rfl de _ _ _ rfl (x.alloc _) (aD w5.heap.size 0) 3 3 [.string ⟨#[]⟩,.int .i64 M,.int .i64 0,.string ⟨#[]⟩,.int .i64 M,.int .i64 0,.string ⟨#[]⟩,.int .i64 M,.int .i64 0] rfl rfl (World.news_of_block (V.new w5 #[.string ⟨#[]⟩,.int .i64 M,.int .i64 0,.string ⟨#[]⟩,.int .i64 M,.int .i64 0,.string ⟨#[]⟩,.int .i64 M,.int .i64 0] 42)) ON3.o om (by unfold maxLen;omega) om (pR Vr) ?_);intro v3 U T hg hf y;have S3:=Z (S2.o.step om Vp.o (by rw[D.o];rfl) T hg hf y);obtain⟨a3,k3,rfl⟩:=X T;clear T hg hf y x S2 m0 m1 m2;have Vs:(Value.slice la i lc).ownBlock≠some n:=λe=>NG.o.2.2 n e rfl;have JW:V U n #[f,g,.slice G a H,.slice s a t,L,N,.int .i64 ((k:Int)+1)] 61:=BB2.o.fr S3.o.fr Vs;have Vt:U.ownsRow (n+1) 29 1 (Value.slice G a H) a c:=aV JU.o λq m=>S3.o.fr.block q (JU.o.lt q m).2 λe=>NN.o.1 q e m;have Y3:U.ownsRow (n+1) 3 1 (Value.slice s a t) a r:=aV JV.o λq m=>S3.o.fr.block q (JV.o.lt q m).2 λe=>NN.o.2.1 q e m;have Y5:V U z #[.string ⟨#[]⟩,.int .i64 M,.int .i64 0] 42:=Py.o.fr S3.o.fr NN.o.2.2.2;have b2:U.cell? (aD n 2)=some (Value.slice G a H):=JW.cell 2;have bf:=JW.fz;have hz6:w.heap.size<=U.heap.size:=az C.o.size S3.o.fr.size;have Vu:n+1<=U.heap.size:=JW.lt;obtain⟨i1,hi,hz0,hz1,eE⟩:=info_parts Fv;have JI:=Z hi;have Y6:=Z hz0;have Y7:=Z hz1;have Y8:=Z eE;obtain⟨i2,hi2,hy0,hy1,Th⟩:=info_parts uc;have KI:=Z hi2;have KZ0:=Z hy0;have KZ1:=Z hy1;have KZ2:=Z Th;have vC:=Z Y3;have vD:=Z Vt;have JX:=Z JW;have vE:=Z Y5;have ON4:Hid (∀u∈([.slice la i lc,.slice a1 (i+1) k1,.slice a2 (i+2) k2,.slice a3 (i+3) k3]:List Value),u.oneCell'=true):=by intro u hu;simp at hu;rcases hu with rfl|rfl|rfl|rfl<;>rfl
  clear hi hz0 hz1 eE hi2 hy0 hy1 Th Y3 JW Y5;go_wp2_with(at_builtin;refine wpList_append_own_at _ rfl _ _ 58 rfl (n+1) 29 i1 _ 1 24 underlying58 JI.o Y6.o Y7.o Y8.o rfl de _ _ _ rfl (Vt.alloc _) (aD U.heap.size 0) 4 4 [.slice la i lc,.slice a1 (i+1) k1,.slice a2 (i+2) k2,.slice a3 (i+3) k3] rfl rfl (World.news_of_block (V.new U #[.slice la i lc,.slice a1 (i+1) k1,.slice a2 (i+2) k2,.slice a3 (i+3) k3] 29)) ON4.o (by unfold maxLen;omega) om (pR Vu) ?_);intro v4 w7 T hg _ y;clear b2 bf Vt;have Pz:V w7 n #[f,g,.slice G a H,.slice s a t,L,N,.int .i64 ((k:Int)+1)] 61:=(JX.o.alloc _).grown hg (λq m=>by have:=(vD.o.lt q m).1;omega);have b2:w7.cell? (aD n 2)=some (Value.slice G a H):=Pz.cell 2;have bf:=Pz.fz;obtain⟨o,AH⟩:∃o,o=w7.setCell (aD n 2) v4:=⟨_,rfl⟩;have B8:V o n #[f,g,v4,.slice s a t,L,N,.int .i64 ((k:Int)+1)] 61:=by rw[AH];exact Pz.set 2 v4
  have vF:∀q,q<U.heap.size->q≠n->(Value.slice G a H).ownBlock≠some q->o.heap[q]?=U.heap[q]?:=λq h1 h2 h3=>by rw[AH,Below.heap_setCell _ _ _ _ h2,hg.block q (by simp;omega) λe=>h3 e.symm,Below.heap_alloc _ _ _ h1]
  have hz8:U.heap.size<=o.heap.size:=by have:=hg.size;rw[AH];simp[World.setCell]at this⊢;omega
  have v4b:∀q,v4.ownBlock=some q->(Value.slice G a H).ownBlock=some q\/U.heap.size<q:=λq m=>by grind
  have JY:o.ownsRow (n+1) 29 1 v4 (a+4) (c++[.slice la i lc,.slice a1 (i+1) k1,.slice a2 (i+2) k2,.slice a3 (i+3) k3]):=by rw[AH];exact ie T λe=>by have:=(T.lt n e).1;omega _ _
  have Fy:o.ownsRow (n+1) 3 1 (Value.slice s a t) a r:=aV vC.o λq m=>vF q (vC.o.lt q m).2 (by have:=(vC.o.lt q m).1;omega) λe=>NN.o.2.2.1 q e m;have Fz:V o z #[.string ⟨#[]⟩,.int .i64 M,.int .i64 0] 42:=(vF z vE.o.lt (λe=>Tg e.symm) λe=>vB vD.o vE.o de e).trans vE.o;have JZ:∀sv j',U.ownsRow B 42 3 sv j' (cM ms j')->o.ownsRow B 42 3 sv j' (cM ms j'):=λsv j' h=>aV h λq m=>vF q (h.lt q m).2 (by have:=(h.lt q m).1;omega) λe=>cu vD.o h de q e m;have L3:=S3.o.ls;obtain⟨x1,_,x1b⟩:=L3 (.slice a1 (i+1) k1,i+(0+1)) si;obtain⟨x2,_,x2b⟩:=L3 (.slice a2 (i+2) k2,i+(1+1)) si;obtain⟨x3,_,x3b⟩:=L3 (.slice a3 (i+3) k3,i+(2+1)) si;have eE:w.heap.size<=W2.heap.size:=C.o.size;have F8:Fr (λq=>q=n\/(Value.slice G a H).ownBlock=some q\/(Value.slice s a t).ownBlock=some q\/(Value.slice la i lc).ownBlock=some q) w o:=by have f6:Fr (λq=>q=n\/(Value.slice G a H).ownBlock=some q\/(Value.slice s a t).ownBlock=some q\/(Value.slice la i lc).ownBlock=some q) w U:=(C.o.mono λq _ e=>Y e).trans (S3.o.fr.mono λq _ e=>I (I (I e)));rw[AH];exact((f6.alloc _).grown hg λq m=>I (I (Y m))).setCell (aD n 2) (Y (Y rfl)) _
  obtain⟨a4,k4,hv4⟩:=X T;have Vv:Hid (∀g9 c9 w9,w9.ownsRow (n+1) 3 1 (.slice (sA g9) (a+4) c9) (a+4) (r++[.int .i64 M,.int .i64 M,.int .i64 M,.int .i64 M])->((o.alloc (.cells #[.int .i64 M,.int .i64 M,.int .i64 M,.int .i64 M] 3)).drew).grownBy w9 (Value.slice s a t).ownBlock->((Value.slice s a t).ownBlock=some g9\/g9=o.heap.size+1)->V w9 n #[f,g,v4,.slice s a t,L,N,.int .i64 ((k:Int)+1)] 61/\w9.cell? (aD z 1)=some (.int .i64 M)/\(∀v,(w9.setCell (aD n 3) v).cell? (aD z 1)=some (.int .i64 M))/\XI 42 29 3 2 (Fu (-((k+1:Nat):Int))) B n [f,g,.slice G a H,.slice s a t,L,N] k (.slice la i lc) (Value.slice G a H) (Value.slice s a t) a i c r w (w9.setCell (aD n 3) (.slice (sA g9) (a+4) c9))):=λg9 c9 w9 J0 J1 yb=>by
   have Ve:∀q,(Value.slice s a t).ownBlock=some q->n+1<=q:=λq m=>(Fy.lt q m).1;have bl:∀q,q<o.heap.size->(Value.slice s a t).ownBlock≠some q->w9.heap[q]?=o.heap[q]?:=λq h1 h2=>by have e1:w9.heap[q]?=((o.alloc (.cells #[.int .i64 M,.int .i64 M,.int .i64 M,.int .i64 M] 3)).drew).heap[q]?:=J1.block q (by show q<(o.alloc _).heap.size;simp;omega) λe=>h2 e.symm;rw[e1];exact Below.heap_alloc _ _ _ h1
   have B9:V w9 n #[f,g,v4,.slice s a t,L,N,.int .i64 ((k:Int)+1)] 61:=(bl n B8.lt λe=>by have:=Ve n e;omega).trans B8;have Y9:V w9 z #[.string ⟨#[]⟩,.int .i64 M,.int .i64 0] 42:=(bl z Fz.lt λe=>vB Fy Fz de e).trans Fz;have J2:∀q,q<o.heap.size->q≠n->(Value.slice s a t).ownBlock≠some q->(w9.setCell (aD n 3) (.slice (sA g9) (a+4) c9)).heap[q]?=o.heap[q]?:=λq h1 h2 h3=>by rw[Below.heap_setCell _ _ _ _ h2];exact bl q h1 h3
   have vG:∀sv j',U.ownsRow B 42 3 sv j' (cM ms j')->(w9.setCell (aD n 3) (.slice (sA g9) (a+4) c9)).ownsRow B 42 3 sv j' (cM ms j'):=λsv j' h=>by have h8:=JZ sv j' h;exact aV h8 λq m=>J2 q (h8.lt q m).2 (by have:=(h8.lt q m).1;omega) λe=>cu Fy h8 de q e m
   refine⟨B9,Y9.cell 1,λv=>(Y9.other (λe=>Tg e.symm) _ _).cell 1,⟨⟨.slice a1 (i+1) k1,.slice a2 (i+2) k2,.slice a3 (i+3) k3,v4,.slice (sA g9) (a+4) c9,?_,?_,?_,?_,?_,?_,?_⟩,?_⟩⟩
   .have:=B9.set 3 (.slice (sA g9) (a+4) c9);have e:((k+1:Nat):Int)=(k:Int)+1:=by push_cast;rfl
    rw[e];exact this
   .exact aV JY λq m=>J2 q (JY.lt q m).2 (by have:=(JY.lt q m).1;omega) λe=>cu Fy JY de q e m
   .rw[<-HM.o];exact ie J0 λe=>by have:=(J0.lt n e).1;omega _ _
   .rw[<-HM.o,<-Vm.o];exact⟨vG _ _ S3.o.l,vG _ _ x1,vG _ _ x2,vG _ _ x3⟩
   .grind
   .intro q m;have e:g9=q:=cI m;grind
   .grind
   exact(((F8.alloc _).drew).grown J1 λq m=>I (I (I (Y m)))).setCell (aD n 3) (Y (Y rfl)) _
  have HW8:=Z AH;have e3:o.cell? (aD n 3)=some (Value.slice s a t):=B8.cell 3;have e3a:(o.alloc (.cells #[.int .i64 M,.int .i64 M,.int .i64 M,.int .i64 M] 3)).cell? (aD n 3)=some (Value.slice s a t):=(B8.alloc _).cell 3;have s3:o.cell? (aD z 1)=some (.int .i64 M):=Fz.cell 1;have Y_:(o.alloc (.cells #[.int .i64 M,.int .i64 M,.int .i64 M,.int .i64 M] 3)).cell? (aD z 1)=some (.int .i64 M):=(Fz.alloc _).cell 1;have HOr:Hid ((o.alloc (.cells #[.int .i64 M,.int .i64 M,.int .i64 M,.int .i64 M] 3)).drew.ownsRow (n+1) 3 1 (Value.slice s a t) a r):=aV (Fy.alloc _) λ_ _=>rfl;have YV:Hid (∀(j:Nat)(u:Value),[Value.int .i64 M,.int .i64 M,.int .i64 M,.int .i64 M][j]?=some u->(o.alloc (.cells #[.int .i64 M,.int .i64 M,.int .i64 M,.int .i64 M] 3)).drew.cell? (((aD o.heap.size 0):Addr).add j)=some u):=World.news_of_block (w:=(o.alloc (.cells #[.int .i64 M,.int .i64 M,.int .i64 M,.int .i64 M] 3)).drew) (V.new o #[.int .i64 M,.int .i64 M,.int .i64 M,.int .i64 M] 3);have YW:Hid (∀u∈[Value.int .i64 M,.int .i64 M,.int .i64 M,.int .i64 M],u.oneCell'=true):=by intro u hu;simp at hu;subst hu;rfl
  have ac8:n+1<=o.heap.size:=B8.lt;subst hv4;clear T hg y AH Pz B8 vF v4b JY Fy Fz JZ L3 x1 x1b x2 x2b x3 x3b F8 S3 vC vD JX vE;go_upto_region 10 with fail;rw[<-HW8.o];clear b2 bf;refine wp_region_held_drew (S:=λW=>W.cell? (aD z 1)=some (.int .i64 M)) (by kernel_rfl) s3 λJ3=>?_;refine htk 0 ?_;refine htk 1 ?_;refine htk 2 ?_;refine htk 3 ?_;refine htk 5 ?_;refine htk 6 ?_;refine htk 7 ?_;refine htk 8 ?_;refine htk 9 ?_;refine htk 10 ?_;refine htk 11 ?_;refine htk 12 ?_;refine dA [4,13] ?_;refine AllReadyH.cons rfl (λK hK=>?_) ?_;focus go_simp;refine hK.out _ _ s3 λAI=>?_;clear hK K;refine dA [13] ?_
  rotate_left;focus refine hone λK hK=>?_;go_simp;refine hK.out _ _ Y_ λAI=>?_;clear hK K;refine dA [4] ?_
  all_goals refine hone λK hK=>?_;go_simp;refine hK.out _ _ Y_ λVw=>?_;clear hK K;refine dA [14] ?_;refine hone λK hK=>?_;refine step_append_lies _ rfl (.tmp 64) (.tmp 73) 24 rfl (n+1) 3 i2 _ 1 8 underlying24 KI.o KZ0.o KZ1.o KZ2.o rfl de (Value.slice s a t) a r rfl HOr.o (aD o.heap.size 0) 4 4 [.int .i64 M,.int .i64 M,.int .i64 M,.int .i64 M] rfl rfl YV.o YW.o om (by unfold maxLen;omega) om (by show n+1<=(o.alloc _).heap.size;simp;omega) _ rfl ?_;intro g9 c9 w9 J0 J1 yb _;obtain⟨B9,s9,s9s,F9⟩:=Vv.o g9 c9 w9 J0 J1 (by simpa using yb);have FF9:=Z F9;have f9:=B9.fz;have d9:=B9.cell 3;simp at d9;clear J0 J1 yb F9 B9;refine hK.out _ _ s9 λVx=>?_;clear hK K;refine htk 15 ?_;refine htk 16 ?_;refine dA [17] ?_;refine hone λK hK=>?_;go_simp;refine hK.out _ _ (s9s _) λVy=>?_;clear hK K;refine wpAnyH_done (by kernel_rfl) ?_ _;go_wp2;go_end0;exact⟨rfl,by have:=FF9.o;rw[<-HM.o]at this;exact this⟩
def FA(T:TypeId)(c:Nat)(b:Int->List Value)(w:World)(a:Nat->Nat)(e:Value×Int):Prop:=∃n,n<=3000000000000/\w.ownsRow 0 T c e.1 n (cM (b e.2) n)/\∀k,e.1.ownBlock=some k->a k=1
variable{d H:Nat->Nat}
theorem FA.keep{i:Int->List Value}{w w':World}{e:Value×Int}(h:FA b n i w d e)(m:∀k,k<w.heap.size->d k≠2->H k=d k)(l:∀k,k<w.heap.size->d k=1->w'.heap[k]?=w.heap[k]?):FA b n i w' H e:=by obtain⟨a,j,f,g⟩:=h;refine⟨a,j,aV f λk c=>l k (f.lt k c).2 (g k c),λk c=>?_⟩;rw[m k (f.lt k c).2 (by rw[g k c];decide)];exact g k c
theorem mX{c j sz:Nat}{ms:List Value}(d:ms.length=sz)(h:w.ownsRow n b sz (.slice (sA k) i c) a (cM ms i))(g:a=i)(e:D<i)(l:j<sz):w.cell? (aD k (D*sz+j))=ms[j]?:=by
 subst g;have f:D*sz+j<a*sz:=by have:(D+1)*sz<=a*sz:=Nat.mul_le_mul_right _ e;grind
 rw[h.cellAt (D*sz+j) f,<-d,JN ms e om]
variable{l m:List (Value×Int)}
theorem J4(H:V w n #[f,g,A,F,L,N,P] 61)(T:w.ownsRow (n+1) 29 1 A l.length (l.map (·.1)))(U:w.ownsRow (n+1) 3 1 F l.length (l.map λe=>.int .i64 e.2))(W:w.ownsRow (n+1) 33 1 L m.length (m.map (·.1)))(h5:w.ownsRow (n+1) 3 1 N m.length (m.map λe=>.int .i64 e.2))(hn:∀e∈l,FA 42 3 Fu w d e)(hm:∀e∈m,FA 44 4 Dk w d e)(PA:l.length<=3000000000000)(hlm:m.length<=3000000000000):Calls prog 31 #[pT n] w λr w'=>r=.returned (.bool true)/\Q w w':=by
 have b2:w.cell? (aD n 2)=some A:=H.cell 2;have b3:w.cell? (aD n 3)=some F:=H.cell 3;have b4:w.cell? (aD n 4)=some L:=H.cell 4;have b5:w.cell? (aD n 5)=some N:=H.cell 5;obtain⟨a2,k2,rfl⟩:=X T;obtain⟨a3,k3,rfl⟩:=X U;obtain⟨a4,k4,rfl⟩:=X W;obtain⟨a5,k5,rfl⟩:=X h5;have H2:=Z T;have H3:=Z U;have H4:=Z W;have H5:=Z h5;have HN:=Z hn;have HM:=Z hm;obtain⟨G,B⟩:∃G,G=l.length:=⟨_,rfl⟩;obtain⟨D,z⟩:∃D,D=m.length:=⟨_,rfl⟩;rw[<-B]at b2 b3 PA;rw[<-z]at b4 b5 hlm;have M:=Z B;have K:=Z z;clear H T U W h5 hn hm B z;go_enter func31,ntmps31;go_wp2;go_loopw[3]λi wr=>∃j q:Nat,j<=G/\i=.int .i64 j/\wr=w.drewN qλi _=>G-(intOf i).toNat;case atStart=>exact⟨0,0,aT _,rfl,rfl⟩
 case round=>
  obtain⟨j,q,hj,rfl,rfl⟩:=hrel;by_cases hjn:j<G
  .have hji:(j:Int)<(G:Int):=om;have y:j<l.length:=by rw[<-M.o];exact hjn
   obtain⟨R,cA,p,_,_⟩:=H2.o.form om;simp only[Value.slice.injEq,true_and]at p;obtain⟨rfl,rfl⟩:=p;obtain⟨S,cB,s,_,_⟩:=H3.o.form om;simp only[Value.slice.injEq,true_and]at s;obtain⟨rfl,rfl⟩:=s;have kA:w.cell? (aD R j)=some (l[j]).1:=by rw[H2.o.cellAt j om];simp[y]
   have kB:w.cell? (aD S j)=some (.int .i64 (l[j]).2):=by rw[H3.o.cellAt j om];simp[y]
   obtain⟨k,hen,b,_⟩:=HN.o _ (bP y);generalize l[j]=e at*;obtain⟨ev,x⟩:=e;simp only at kA kB b;obtain⟨ea,ec,rfl⟩:=X b;have v:=Z b;clear b;go_wp2;go_loopw[4]λi wr=>∃t q:Nat,t<=k/\i=.int .i64 t/\wr=w.drewN qλi _=>k-(intOf i).toNat;case atStart=>exact⟨0,q,aT _,rfl,rfl⟩
   case round=>
    obtain⟨t,q3,ht,rfl,rfl⟩:=hrel;by_cases c:t<k
    .have C:(t:Int)<(k:Int):=om;obtain⟨a,cg,u,_,_⟩:=v.o.form om;simp only[Value.slice.injEq,true_and]at u;obtain⟨rfl,rfl⟩:=u;have x0:w.cell? (aD a (t*3))=some (.string ⟨#[]⟩):=mX (sz:=3) (j:=0) (ms:=Fu x) rfl v.o rfl c om;have x1:w.cell? (aD a (t*3+1))=some (.int .i64 x):=mX (sz:=3) (j:=1) (ms:=Fu x) rfl v.o rfl c om;have x2:w.cell? (aD a (t*3+2))=some (.int .i64 0):=mX (sz:=3) (j:=2) (ms:=Fu x) rfl v.o rfl c om;go_wp2;go_quiet(fail);go_wp2;go_roundw;case rel=>exact⟨t+1,_,om,by go_num,by first|rfl|exact fQ _ _ _⟩
     case measure=>simp[intOf];omega
    have C:¬(t:Int)<(k:Int):=om;go_wp2;go_roundw;case rel=>exact⟨j+1,q3,om,by go_num,rfl⟩
    case measure=>simp[intOf];omega
  have hji:¬(j:Int)<(G:Int):=om;go_wp2;go_loopw[5]λi wr=>∃j q:Nat,j<=D/\i=.int .i64 j/\wr=w.drewN qλi _=>D-(intOf i).toNat;case atStart=>exact⟨0,q,aT _,rfl,rfl⟩
  case round=>
   obtain⟨h,q2,hj2,rfl,rfl⟩:=hrel;by_cases hjm:h<D
   .have J:(h:Int)<(D:Int):=om;have o:h<m.length:=by rw[<-K.o];exact hjm
    obtain⟨R,cA,p,_,_⟩:=H4.o.form om;simp only[Value.slice.injEq,true_and]at p;obtain⟨rfl,rfl⟩:=p;obtain⟨S,cB,s,_,_⟩:=H5.o.form om;simp only[Value.slice.injEq,true_and]at s;obtain⟨rfl,rfl⟩:=s;have kA:w.cell? (aD R h)=some (m[h]).1:=by rw[H4.o.cellAt h om];simp[o]
    have kB:w.cell? (aD S h)=some (.int .i64 (m[h]).2):=by rw[H5.o.cellAt h om];simp[o]
    obtain⟨k,hen,b,_⟩:=HM.o _ (bP o);generalize m[h]=e at*;obtain⟨ev,x⟩:=e;simp only at kA kB b;obtain⟨ea,ec,rfl⟩:=X b;have v:=Z b;clear b;go_wp2;go_loopw[6]λi wr=>∃t q:Nat,t<=k/\i=.int .i64 t/\wr=w.drewN qλi _=>k-(intOf i).toNat;case atStart=>exact⟨0,q2,aT _,rfl,rfl⟩
    case round=>
     obtain⟨t,q3,ht,rfl,rfl⟩:=hrel;by_cases c:t<k
     .have C:(t:Int)<(k:Int):=om;obtain⟨a,cg,u,_,_⟩:=v.o.form om;simp only[Value.slice.injEq,true_and]at u;obtain⟨rfl,rfl⟩:=u;have x0:w.cell? (aD a (t*4))=some (.string ⟨#[]⟩):=mX (sz:=4) (j:=0) (ms:=Dk x) rfl v.o rfl c om;have x1:w.cell? (aD a (t*4+1))=some (.int .i64 0):=mX (sz:=4) (j:=1) (ms:=Dk x) rfl v.o rfl c om;have x2:w.cell? (aD a (t*4+2))=some (.int .i64 0):=mX (sz:=4) (j:=2) (ms:=Dk x) rfl v.o rfl c om;have x3:w.cell? (aD a (t*4+3))=some (.int .i64 x):=mX (sz:=4) (j:=3) (ms:=Dk x) rfl v.o rfl c om;go_wp2;go_quiet(fail);go_wp2;go_roundw;case rel=>exact⟨t+1,_,om,by go_num,by first|rfl|exact fQ _ _ _⟩
      case measure=>simp[intOf];omega
     have C:¬(t:Int)<(k:Int):=om;go_wp2;go_roundw;case rel=>exact⟨h+1,q3,om,by go_num,rfl⟩
     case measure=>simp[intOf];omega
   have J:¬(h:Int)<(D:Int):=om;go_wp2;go_ret;exact⟨rfl,(Fr.refl _ w).drewN _⟩
structure PX where
 gp:Nat
 gx:Nat
 b:Nat
 gq:Nat
 q:ByteArray
 tt:ByteArray
 v:Value
 l:List ig
def PX.xs(p:PX):List Sg:=cK (E p.q)
def PX.ptr(p:PX):Value:=pT p.gp
def QP(w:World)(p:PX):Prop:=V w p.gp #[pT p.gx,pT p.gq] 95/\(V w p.gx #[pT p.b] 77/\gW w p.b p.tt p.xs)/\QRv w p.gq p.v p.l p.xs
structure XJ(w:World)(col:Nat->Nat)(p:PX):Prop where
 AJ:cD p.xs<=10
 tt:E p.tt=T (E p.q) (p.q.size+1)tl:T (E p.q) (p.q.size+1)=[36]++gH p.l
 ok:∃D,Ft D 0 w/\(∀k,D k->col k=1)/\fg D w λw=>QP w p
theorem XJ.keep{w w':World}{p:PX}(h:XJ w d p)(g:∀k,k<w.heap.size->d k≠2->H k=d k)(f:∀k,k<w.heap.size->d k=1->w'.heap[k]?=w.heap[k]?):XJ w' H p:=by obtain⟨D,b,c,e⟩:=h.ok;have s:Sm D w w':=λk a=>f k (b.lt a) (c k a);exact⟨h.AJ,h.tt,h.tl,D,b.keep s,λk a=>by rw[g k (b.lt a) (by rw[c k a];decide)];exact c k a,e.keep s⟩
structure FX where
 gp:Nat
 gx:Nat
 gy:Nat
 q:ByteArray
 p:ByteArray
 cl:Bool
def FX.ptr(f:FX):Value:=pT f.gp
structure Rv where
 l:Value
 f:Value
 ns:Value
 nm:Value
 ms:Value
 mm:Value
def RB(r:Rv)(k:Nat):Prop:=r.l.ownBlock=some k\/r.f.ownBlock=some k\/r.ns.ownBlock=some k\/r.nm.ownBlock=some k\/r.ms.ownBlock=some k\/r.mm.ownBlock=some k
structure LA(Φ:World->(Nat->Nat)->FX->Prop)(w:World)(gw:Nat)(col:Nat->Nat)(r:Rv)(nx:Nat)(ps:List PX)(fs:List FX)(ns ms:List (Value×Int)):Prop where
 blk:V w gw #[r.l,r.f,r.ns,r.nm,r.ms,r.mm,.int .i64 (nx:Nat)] 61
 cg:col gw=2
 c0:(∀k,k<gw->col k=0)/\∀k,jO k->k<gw
 ol:w.ownsRow (gw+1) 93 1 r.l ps.length (ps.map PX.ptr)of:w.ownsRow (gw+1) 97 1 r.f fs.length (fs.map FX.ptr)wY:w.ownsRow (gw+1) 29 1 r.ns ns.length (ns.map (·.1))ud:w.ownsRow (gw+1) 3 1 r.nm ns.length (ns.map λe=>.int .i64 e.2)zW:w.ownsRow (gw+1) 33 1 r.ms ms.length (ms.map (·.1))wZ:w.ownsRow (gw+1) 3 1 r.mm ms.length (ms.map λe=>.int .i64 e.2)cr:∀k,RB r k->col k=2
 NO:∀k,r.nm.ownBlock=some k->r.mm.ownBlock≠some k
 pk:∀p∈ps,XJ w col p
 fk:∀f∈fs,Φ w col f
 nk:∀e∈ns,FA 42 3 Fu w col e
 km:∀e∈ms,FA 44 4 Dk w col e
 fd:fs.Pairwise λf g=>f.gp≠g.gp
def j1(d:World->(Nat->Nat)->FX->Prop):Prop:=∀(w c:World)(a b:Nat->Nat)(f:FX),d w a f->w.heap.size<=c.heap.size->(∀k,k<w.heap.size->a k≠2->b k=a k)->(∀k,k<w.heap.size->a k≠2->c.heap[k]?=w.heap[k]?)->d c b f
structure Nxt(w:World)(col:Nat->Nat)(w':World)(dV:Nat->Nat):Prop where
 f:Fr (λk=>col k=2) w w'
 c:∀k,k<w.heap.size->col k≠2->dV k=col k
variable{B:World->(Nat->Nat)->FX->Prop}{z:Rv}{p:List PX}{o:List FX}
theorem LA.AK(i:j1 B)(h:LA B w n d z k p o l m){w':World}{dV:Nat->Nat}(b:Nxt w d w' dV):(∀c∈p,XJ w' dV c)/\(∀f∈o,B w' dV f)/\(∀e∈l,FA 42 3 Fu w' dV e)/\∀e∈m,FA 44 4 Dk w' dV e:=⟨λc r=>(h.pk c r).keep b.c λa g e=>b.f.block a g om,λf q=>i w w' d dV f (h.fk f q) b.f.size b.c λa g e=>b.f.block a g e,λe j=>(h.nk e j).keep b.c λa g e=>b.f.block a g om,λe j=>(h.km e j).keep b.c λa g e=>b.f.block a g om⟩
variable{t S:Nat->Prop}
theorem cz(h:w.ownsRow n b k f a c)(d:Fr t w v)(i:∀e,f.ownBlock=some e->¬t e):v.ownsRow n b k f a c:=aV h λe g=>d.block e (h.lt e g).2 (i e g)
theorem LA.keep(g:j1 B){w:World}(h:LA B w n d z k p o l m){w':World}(f:Q w w'):LA B w' n d z k p o l m:=by obtain⟨a,b,c,e⟩:=h.AK g (w':=w') (dV:=d) ⟨f.mono λ_ _ x=>x.elim,λ_ _ _=>rfl⟩;exact⟨h.blk.fr f id,h.cg,h.c0,aS h.ol f λ_ _=>id,aS h.of f λ_ _=>id,aS h.wY f λ_ _=>id,aS h.ud f λ_ _=>id,aS h.zW f λ_ _=>id,aS h.wZ f λ_ _=>id,h.cr,h.NO,a,b,c,e,h.fd⟩
theorem LA.rl(h:LA B w n d z k p o l m)(a:Nat)(b:RB z a):n<a/\a<w.heap.size:=by
 rcases b with e|e|e|e|e|e;.have:=h.ol.lt a e;omega
 .have:=h.of.lt a e;omega
 .have:=h.wY.lt a e;omega
 .have:=h.ud.lt a e;omega
 .have:=h.zW.lt a e;omega
 have:=h.wZ.lt a e;omega
def rI(w:World)(b:Nat->Nat)(a:Nat->Prop)[DecidablePred a](k:Nat):Nat:=if k<w.heap.size then b k else if a k then 2 else 1
theorem nX[DecidablePred t](h:n<w.heap.size):rI w d t n=d n:=by unfold rI;rw[ae h]
theorem nY[DecidablePred t](h:w.heap.size<=n)(a:¬t n):rI w d t n=1:=by unfold rI;rw[aa om,aa a]
theorem kJ[DecidablePred t](h:w.heap.size<=n)(a:t n):rI w d t n=2:=by unfold rI;rw[aa om,ae a]
def CmX(s:ByteArray)(w:World)(r:Ending)(a:World):Prop:=Q w a/\((∃e p:Nat,rF s e p/\r=.returned (.tuple #[.pointer none,.int .i64 e,.int .i64 p]))\/(Good s/\∃c b d D,r=.returned (.tuple #[pT c,.int .i64 0,.int .i64 0])/\Ft D w.heap.size a/\fg D a (λw=>V w c #[pT b] 77/\gW w b d (cK (E s)))/\E d=T (E s) (s.size+1)/\cD (cK (E s))<=10))
variable{q s:ByteArray}
theorem Vz(F:q.size<=maxLen)(t:EV w):Calls prog 26 #[.string q] w (CmX q w):=by
 have x:=Z t;clear t;by_cases h:q.size<=120
 .go_enter func26,ntmps26;go_wp2_with fail;refine(VA h x.o).mono ?_;rintro r d⟨i,C⟩;have n:=Z i;clear i;rcases C with⟨e,p,c,rfl⟩|⟨g,f,rfl⟩|⟨g,f,b,H,D,rfl,⟨a,j⟩,m,l⟩
  .have B:e≠0:=by have:=c.st;omega
   have A:((e:Int)!=0)=true:=by rw[bne_iff_ne];omega
   have z:=Z c;clear c;go_wp2;go_ret3;exact⟨n.o,Y ⟨e,p,I (Y ⟨h,z.o⟩),rfl⟩⟩
  .have y:=Z g;have v:=Z f;clear g f;go_wp2;go_ret3;exact⟨n.o,Y ⟨1,0,I (I ⟨h,y.o,v.o,rfl,rfl⟩),rfl⟩⟩
  have o:Hid (CmX q w (.returned (.tuple #[pT d.heap.size,.int .i64 0,.int .i64 0])) (d.alloc (.cells #[pT b] 77))):=by
   refine⟨n.o.alloc _,I ⟨⟨h,g,f⟩,d.heap.size,b,H,λk=>D k\/k=d.heap.size,rfl,?_,λs u=>⟨?_,?_⟩,m,l⟩⟩;.have G:=Sm.alloc a (.cells #[pT b] 77);exact(a.keep G).or (Ft.one (V.new d _ _) de n.o.size)
   .exact(V.new d #[pT b] 77).sm u (I rfl)
   exact j s λk i=>(u k (Y i)).trans (Sm.alloc a _ k i)
  clear g f a j m l;go_wp2;go_ret3;exact o.o
 go_enter func26,ntmps26;go_wp2_with fail;refine(yd om F).mono ?_;rintro r d⟨rfl,rfl⟩;go_wp2;go_ret3;exact⟨Fr.refl _ _,Y ⟨1,0,Y ⟨om,rfl,rfl⟩,rfl⟩⟩
def CmY(s:ByteArray)(w:World)(r:Ending)(a:World):Prop:=Q w a/\((∃e p:Nat,rF s e p/\r=.returned (.tuple #[.pointer none,.int .i64 e,.int .i64 p]))\/(Good s/\∃b v l D,r=.returned (.tuple #[pT b,.int .i64 0,.int .i64 0])/\T (E s) (s.size+1)=[36]++gH l/\Ft D w.heap.size a/\fg D a λw=>QRv w b v l (cK (E s))))
theorem J5{w:World}(g:q.size<=maxLen):Calls prog 41 #[.string q] w (CmY q w):=by
 by_cases h:q.size<=120
 .refine(vH h).mono ?_;rintro r i⟨d,⟨e,p,f,a⟩|⟨c,b,a⟩|⟨c,b,a⟩⟩;.exact⟨d,Y ⟨e,p,I (Y ⟨h,f⟩),a⟩⟩
  .exact⟨d,Y ⟨1,0,I (I ⟨h,c,b,rfl,rfl⟩),a⟩⟩
  exact⟨d,I ⟨⟨h,c,b⟩,a⟩⟩
 refine(nZ om g).mono ?_;rintro r i⟨a,rfl⟩;exact⟨Fr.refl _ _,Y ⟨1,0,Y ⟨om,rfl,rfl⟩,a⟩⟩
structure Cn where
 p:Nat
 f:Nat
 n:Nat
 m:Nat
 x:Nat
 b:Nat
def gI(n:World->(Nat->Nat)->FX->Prop)(l:Nat)(d:Nat->Nat)(c:Cn)(w:World)(j:World):Prop:=∃b m i e a h g,LA n j l b m i e a h g/\Fr (λk=>2<=d k) w j/\(∀k,k<w.heap.size->d k<3->b k=d k)/\(c.p<=e.length/\e.length<=c.p+1)/\(c.f<=a.length/\a.length<=c.f+1)/\h.length<=c.n+4/\g.length<=c.m+4/\i<=c.x+1/\∀f∈a,f.p.size<=c.b
theorem PD(HΦ:j1 B){sl:List ig}(h:LA B w n d z j p o l m)(k1:Q w v)(k2:Q v u)(J:Ft t w.heap.size v)(o1:fg t v λw=>V w k #[pT a] 77/\gW w a s (cK (E q)))(ht:E s=T (E q) (q.size+1))(R:cD (cK (E q))<=10)(M:Ft S v.heap.size u)(o2:fg S u λw=>QRv w i f sl (cK (E q)))(htl:T (E q) (q.size+1)=[36]++gH sl)(H:U.ownsRow (n+1) 93 1 g (p.length+1) (p.map PX.ptr++[pT u.heap.size]))(P:((u.alloc (.cells #[pT k,pT i] 95)).alloc (.cells #[pT u.heap.size] 93)).grownBy U z.l.ownBlock)(q_:g.ownBlock=z.l.ownBlock\/g.ownBlock=some (u.heap.size+1+1)):V U n #[z.l,z.f,z.ns,z.nm,z.ms,z.mm,.int .i64 (j:Nat)] 61/\∃A c,LA B (U.setCell (aD n 0) g) n A {z with l:=g} j (p++[c]) o l m/\Fr (λb=>d b=2) w (U.setCell (aD n 0) g)/\(∀b,b<w.heap.size->A b=d b):=by
 classical
 have nV:n<w.heap.size:=h.blk.lt;have s1:=k1.size;have s2:=k2.size;have W:=k1.trans k2;have hsz:u.heap.size+2<=U.heap.size:=by have:=P.size;simp at this;omega
 have C:∀b,z.l.ownBlock=some b->n<b/\b<w.heap.size:=λb r=>h.rl b (Y r);have hB:V U n #[z.l,z.f,z.ns,z.nm,z.ms,z.mm,.int .i64 (j:Nat)] 61:=(((h.blk.fr W id).alloc _).alloc _).grown P (λb r=>by have:=(C b r).1;omega);refine⟨hB,?_⟩;have F:Fr (λb=>b=n\/z.l.ownBlock=some b) w (U.setCell (aD n 0) g):=by have J:Fr (λb=>b=n\/z.l.ownBlock=some b) w u:=W.mono λ_ _ x=>x.elim;exact(((J.alloc _).alloc _).grown P λb r=>I (I r)).setCell (aD n 0) (Y (Y rfl)) g
 have far:∀b,b<u.heap.size->b≠n->z.l.ownBlock≠some b->(U.setCell (aD n 0) g).heap[b]?=u.heap[b]?:=λb r N K=>by rw[Below.heap_setCell _ _ _ _ N,P.block b (by simp;omega) λe=>K e.symm,Below.heap_alloc _ _ _ (by simp;omega),Below.heap_alloc _ _ _ r]
 have vb:∀b,g.ownBlock=some b->z.l.ownBlock=some b\/b=u.heap.size+2:=λb r=>by grind
 obtain⟨A,D⟩:∃A,A=rI w d λb=>g.ownBlock=some b:=⟨_,rfl⟩;have L:∀b,b<w.heap.size->A b=d b:=λb r=>by rw[D];exact nX r
 have F2:Fr (λb=>d b=2) w (U.setCell (aD n 0) g):=F.mono (λb _ e=>by
  rcases e with e|e;.rw[e];exact h.cg
  exact h.cr b (Y e));obtain⟨a1,a2,a3,a4⟩:=h.AK HΦ ⟨F2,λb r _=>L b r⟩;have G:V (U.setCell (aD n 0) g) u.heap.size #[pT k,pT i] 95:=by have b1:=(V.new u #[pT k,pT i] 95).alloc (.cells #[pT u.heap.size] 93);have b2:U.heap[u.heap.size]?=_:=P.block u.heap.size (by simp;omega) (λe=>by have:=(C _ e.symm).2;omega);exact V.other (b2.trans b1) om 0 g
 have nl:∀b,w.heap.size<=b->b<u.heap.size->(U.setCell (aD n 0) g).heap[b]?=u.heap[b]?:=λb N K=>far b K om (λe=>by have:=(C b e).2;omega);have S1:Sm t v (U.setCell (aD n 0) g):=λb r=>by have N:=J.ge b r;have K:=J.lt r;rw[nl b N om];exact k2.block b K id
 have S2:Sm S u (U.setCell (aD n 0) g):=λb r=>by have N:=M.ge b r;have K:=M.lt r;exact nl b om K
 have ajU:XJ (U.setCell (aD n 0) g) A ⟨u.heap.size,k,a,i,q,s,f,sl⟩:=by
  refine⟨R,ht,htl,λb=>(t b\/S b)\/b=u.heap.size,?_,λb r=>?_,λw' sm=>⟨?_,?_,?_⟩⟩;.exact(((J.keep S1).low zl).or ((M.keep S2).low zl)).or (Ft.one G de zl)
  .have hh:w.heap.size<=b/\b<=u.heap.size:=by
    rcases r with(y|y)|y;.have:=J.ge b y;have:=J.lt y;omega
    .have:=M.ge b y;have:=M.lt y;omega
    omega
   rw[D];grind[nY]
  .exact G.sm sm (I rfl)
  .exact(o1.keep S1) w' λb r=>sm b (Y (Y r))
  exact(o2.keep S2) w' λb r=>sm b (Y (I r))
 have ne:∀(T2:TypeId)(v2:Value)(n2:Nat)(x2:List Value),w.ownsRow (n+1) T2 1 v2 n2 x2->93≠T2->∀b,v2.ownBlock=some b->¬(b=n\/z.l.ownBlock=some b):=λT2 v2 n2 x2 ho hT b r e=>by
  rcases e with e|e;.have:=(ho.lt b r).1;omega
  exact cu h.ol ho hT b e r
 refine⟨A,⟨u.heap.size,k,a,i,q,s,f,sl⟩,⟨hB.set 0 g,by rw[L n nV];exact h.cg,⟨λb r=>by rw[L b om];exact h.c0.1 b r,h.c0.2⟩,?_,cz h.of F (ne _ _ _ _ h.of de),cz h.wY F (ne _ _ _ _ h.wY de),cz h.ud F (ne _ _ _ _ h.ud de),cz h.zW F (ne _ _ _ _ h.zW de),cz h.wZ F (ne _ _ _ _ h.wZ de),λb r=>?_,h.NO,λc hp=>?_,a2,a3,a4,h.fd⟩,F2,L⟩;.have:=ie H (g:=n) λe=>by have:=(H.lt n e).1;omega 0 g;rw[fC,cG];exact this
 .rcases r with e|e|e|e|e|e
  .rcases vb b e with y|y;.rw[L b (C b y).2];exact h.cr b (Y y)
   rw[D];exact kJ om e
  all_goals
   have hr:RB z b:=by first|exact I (Y e)|exact I (I (Y e))|exact I (I (I (Y e)))|exact I (I (I (I (Y e))))|exact I (I (I (I (I e))))
   rw[L b (h.rl b hr).2];exact h.cr b hr
 grind
theorem pS(J:j1 B)(hE:EV w)(h:LA B w n d z k p o l m)(hn:p.length<=2000000000000)(s:ByteArray)(hs:s.size<=maxLen):Calls prog 28 #[pT n,.string s] w λe w'=>e=.returned (.bool true)/\∃f W A,LA B w' n f W k A o l m/\Fr (λa=>d a=2) w w'/\(∀a,a<w.heap.size->f a=d a)/\(p.length<=A.length/\A.length<=p.length+1)/\(Good s->A.length=p.length+1):=by
 obtain⟨i0,hi,P,S,T⟩:=info_parts Tryz.xX;have HI:=Z hi;have iK:=Z P;have iz:=Z S;have ja:=Z T;have HH:=Z h;have HE:=Z hE;have HP:=Z J;have HS:=Z hs;clear hi P S T h hE hs J;go_enter func28,ntmps28;go_wp2_with fail;refine(Vz HS.o HE.o).mono ?_;rintro e w1⟨k1,hx⟩;have K1:=Z k1;clear k1;rcases hx with⟨e,c,ce,rfl⟩|⟨gd,gx,b,tt,D1,rfl,f1,o1,ht,F⟩
 .have CE:=Z ce;clear ce;go_wp2_with fail;refine(J5 (w:=w1) HS.o).mono ?_;rintro e' w2⟨U,hy⟩;have K:=Z (K1.o.trans U);clear U;rcases hy with⟨e',p',y,rfl⟩|⟨gd,_⟩;.obtain⟨rfl,rfl⟩:=xW CE.o y;clear y;go_wp2_with fail;refine(pU _).mono ?_;rintro W w3⟨rfl,rfl⟩;go_wp2_with fail;refine(pU _).mono ?_;rintro W w3⟨rfl,rfl⟩;go_wp2;go_ret;exact⟨rfl,d,z,p,HH.o.keep HP.o K.o,K.o.mono λ_ _ x=>x.elim,λ_ _=>rfl,⟨aP _,gT _⟩,λg=>(oX CE.o g).elim⟩
  exact(oX CE.o gd).elim
 have GD:=Z gd;have HT:=Z ht;have F1:=Z f1;have O1:=Z o1;have SL:=Z F;clear gd ht f1 o1 F;go_wp2_with fail;refine(J5 (w:=w1) HS.o).mono ?_;rintro e' w2⟨U,hy⟩;have K:=Z U;clear U;rcases hy with⟨e',p',y,rfl⟩|⟨_,gq,v,sl,D2,rfl,N,f2,o2⟩;.exact(oX y GD.o).elim
 have HTL:=Z N;have F2:=Z f2;have O2:=Z o2;clear N f2 o2;have H:=Z (HH.o.keep HP.o (K1.o.trans K.o));have b0:=H.o.blk.cell 0;simp at b0;have bf:=H.o.blk.fz 0;have nV:=H.o.blk.lt;obtain⟨a0,c0,M⟩:=X H.o.ol;have i:=H.o.ol;have r:Hid (∀C G,G.ownsRow (n+1) 93 1 C (p.length+1) (p.map PX.ptr++[pT w2.heap.size])->((w2.alloc (.cells #[pT gx,pT gq] 95)).alloc (.cells #[pT w2.heap.size] 93)).grownBy G z.l.ownBlock->(C.ownBlock=z.l.ownBlock\/C.ownBlock=some (w2.heap.size+1+1))->V G n #[z.l,z.f,z.ns,z.nm,z.ms,z.mm,.int .i64 (k:Nat)] 61/\∃f c,LA B (G.setCell (aD n 0) C) n f {z with l:=C} k (p++[c]) o l m/\Fr (λa=>d a=2) w (G.setCell (aD n 0) C)/\(∀a,a<w.heap.size->f a=d a)):=λC G x1 x2 x3=>PD HP.o HH.o K1.o K.o F1.o O1.o HT.o SL.o F2.o O2.o HTL.o x1 x2 x3;obtain⟨rl,D⟩:∃rl,rl=z.l:=⟨_,rfl⟩;rw[<-D]at b0 i M r;clear D H;subst M;go_wp2_with fail;refine(pU _).mono ?_;rintro W w3⟨rfl,rfl⟩;go_wp2_with fail;refine(pU _).mono ?_;rintro W w3⟨rfl,rfl⟩;go_wp2_with(at_builtin;refine wpList_append_own_at _ rfl _ _ 56 rfl (n+1) 93 i0 _ 1 8 underlying56 HI.o iK.o iz.o ja.o rfl de (.slice a0 p.length c0) p.length (p.map PX.ptr) rfl ((i.alloc _).alloc _) (aD (w3.heap.size+1) 0) 1 1 [pT w3.heap.size] rfl rfl ?c1 ?c2 ?c3 ?c4 ?c5 ?_);case c1=>intro j u hj;match j,hj with|0,hj=>simp at hj;subst hj;simp[Addr.add]
 case c2=>intro u hu;simp at hu;subst hu;rfl
 case c3=>unfold maxLen;omega
 case c4=>omega
 case c5=>simp;omega
 intro C G q t _ L;obtain⟨B4,f,pn,R1,R2,R3⟩:=r.o C G q t L;have R:=Z (db R1 (db R2 R3));have f4:=B4.fz 0;have k4:=B4.cell 0;simp at k4;obtain⟨a4,c4,rfl⟩:=X q;clear q t L i R1 R2 R3 B4 r;go_wp2;go_ret;exact⟨rfl,f,_,_,R.o.1,R.o.2.1,R.o.2.2,⟨si,si⟩,λ_=>by simp⟩
