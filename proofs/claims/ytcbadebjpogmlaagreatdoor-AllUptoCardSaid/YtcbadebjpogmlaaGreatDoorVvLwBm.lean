import Derived.Test.YtcbadebjpogmlaaGreatDoorVvLwA
set_option maxHeartbeats 8000000
set_option maxRecDepth 100000
namespace Go.Proofs.YtcbadebjpogmlaaGreatDoor
open Go.RowKit Tr Go.Proofs.Tryz
set_option linter.unusedSimpArgs false
variable{n k j m z A B:Nat}{o D J K L N P:Value}{r t F:List Value}
theorem VD{w:World}{B:Nat}(hb:V w n #[o,D,J,K,L,N,.int .i64 (k:Nat)] 61)(U:w.ownsRow (n+1) 33 1 L j r)(T:w.ownsRow (n+1) 3 1 N j t)(hl:w.ownsRow B 44 4 P m F)(hB:n<B)(hBw:B<=w.heap.size)(hn:m<=2000000000000)(hk:j<=2000000000000)(hx:k<=2000000000000):Calls prog 70 #[pT n,P] w λc w'=>c=.returned (.tuple #[])/\XI 44 33 4 4 (Dk (-((k+1:Nat):Int))) B n [o,D,J,K,L,N] k P L N j m r t w w':=by
 obtain⟨R,S,rfl⟩:=X U;obtain⟨p,s,rfl⟩:=X T;obtain⟨M,hM⟩:∃M:Int,M=-((k+1:Nat):Int):=⟨_,rfl⟩;obtain⟨ms,Vh⟩:∃ms,ms=Dk M:=⟨_,rfl⟩;have JS:ms=[.string ⟨#[]⟩,.int .i64 0,.int .i64 0,.int .i64 M]:=Vh;obtain⟨W1,mQ⟩:∃W1,W1=w.setCell (aD n 6) (.int .i64 ((k:Int)+1)):=⟨_,rfl⟩;have B1:V W1 n #[o,D,J,K,.slice R j S,.slice p j s,.int .i64 ((k:Int)+1)] 61:=by rw[mQ];exact hb.set 6 _
 have F1:Fr (λq=>q=n) w W1:=by rw[mQ];exact(Fr.refl (λq=>q=n) w).setCell (aD n 6) (Y rfl) _
 obtain⟨W2,nQ⟩:∃W2,W2=W1.alloc (.cells #[.string ⟨#[]⟩,.int .i64 0,.int .i64 0,.int .i64 M] 44):=⟨_,rfl⟩;obtain⟨C,hmb⟩:∃C,C=W1.heap.size:=⟨_,rfl⟩;have B2:V W2 n #[o,D,J,K,.slice R j S,.slice p j s,.int .i64 ((k:Int)+1)] 61:=by rw[nQ];exact B1.alloc _
 have Vi:V W2 C #[.string ⟨#[]⟩,.int .i64 0,.int .i64 0,.int .i64 M] 44:=by rw[nQ,hmb];exact V.new W1 _ _
 have F2:Fr (λq=>q=n) w W2:=by rw[nQ];exact F1.alloc _
 have x_:W1.heap.size=w.heap.size:=by rw[mQ];simp[World.setCell]
 have JT:C=w.heap.size:=by rw[hmb,x_]
 have Vj:∀q,(Value.slice R j S).ownBlock=some q->q≠n:=λq d=>by have:=(U.lt q d).1;omega
 have Vk:∀q,(Value.slice p j s).ownBlock=some q->q≠n:=λq d=>by have:=(T.lt q d).1;omega
 have Vl:∀q,P.ownBlock=some q->q≠n:=λq d=>by have:=(hl.lt q d).1;omega
 have Y0:W2.ownsRow (n+1) 33 1 (Value.slice R j S) j r:=aV U λq d=>F2.block q (U.lt q d).2 (Vj q d);have Y1:W2.ownsRow (n+1) 3 1 (Value.slice p j s) j t:=aV T λq d=>F2.block q (T.lt q d).2 (Vk q d);have L2:W2.ownsRow B 44 4 P m (cM ms 0++F):=aV (by simpa[cM]using hl) λq d=>F2.block q (hl.lt q d).2 (Vl q d);have n1:∀q,P.ownBlock=some q->(Value.slice R j S).ownBlock≠some q:=cu hl U de;have n2:∀q,P.ownBlock=some q->(Value.slice p j s).ownBlock≠some q:=cu hl T de;have n3:∀q,(Value.slice R j S).ownBlock=some q->(Value.slice p j s).ownBlock≠some q:=cu U T de;have n4:P.ownBlock≠some C:=λe=>by have:=(hl.lt C e).2;omega
 have HB:=Z hb;have b6:=hb.cell 6;have bf:=hb.fz;simp at b6;have d6:W1.cell? (aD n 6)=some (.int .i64 ((k:Int)+1)):=B1.cell 6;have HMN:-((k:Int)+1)=M:=by rw[hM];push_cast;rfl
 obtain⟨la,lc,hlv⟩:=X hl;have HNS:=Z U;have Y2:=Z T;have HL:=Z hl;subst hlv;have me:=Z mQ;have Cs:=Z nQ;have HM:=Z hM;have H:=Z JS;have Vm:=Z Vh;have HMB:=Z hmb;have acV:=Z JT;have G:=Z F2;have BB2:=Z B2;have Py:=Z Vi;have JU:=Z Y0;have JV:=Z Y1;have Vn:=Z L2;have NG:=Z (db Vj (db Vk Vl));have NN:=Z (db n1 (db n2 (db n3 n4)));have acX:C<W2.heap.size:=Vi.lt;have Tg:n≠C:=by have:=hb.lt;omega
 clear hb U T hl nQ hM Vh JS hmb JT F1 F2 B1 B2 Vi Y0 Y1 L2 Vj Vk Vl n1 n2 n3 n4 x_;go_enter func70,ntmps70;go_upto_region 1 with fail;rw[<-me.o];clear mQ b6 bf;go_upto_region 2 with fail;rw[<-Cs.o,<-HMB.o];clear d6;go_wp2;go_loopw[5]λi wr=>∃b:Nat,b<=m/\i=.int .i64 b/\Fr (λq=>(Value.slice la m lc).ownBlock=some q) W2 wr/\wr.ownsRow B 44 4 (.slice la m lc) m (cM ms b++F.drop (b*4))λi _=>m-(intOf i).toNat;case atStart=>exact⟨0,aT _,rfl,Fr.refl _ _,by simpa using Vn.o⟩
 case round=>
  clear Vn;obtain⟨b,hj,rfl,hF,hO⟩:=hrel;have FF:=Z hF;have OO:=Z hO;have f:V wr C #[.string ⟨#[]⟩,.int .i64 0,.int .i64 0,.int .i64 M] 44:=Py.o.fr hF NN.o.2.2.2;have m0:=f.cell 0;have m1:=f.cell 1;have m2:=f.cell 2;have m3:=f.cell 3;simp at m0 m1 m2 m3;clear hF hO f;by_cases hjn:b<m
  .have hji:(b:Int)<(m:Int):=om;obtain⟨g,cap,hv,_,_⟩:=OO.o.form om;simp only[Value.slice.injEq,true_and]at hv;obtain⟨rfl,rfl⟩:=hv;obtain⟨⟨y0,h0⟩,hfz⟩:=iG OO.o hjn (j:=0) om;obtain⟨⟨y1,h1⟩,_⟩:=iG OO.o hjn (j:=1) om;obtain⟨⟨y2,h2⟩,_⟩:=iG OO.o hjn (j:=2) om;obtain⟨⟨y3,h3⟩,_⟩:=iG OO.o hjn (j:=3) om;rw[Nat.add_zero]at h0;have R2:=Z (JR H.o OO.o hjn);have F2:Hid (Fr (λq=>(Value.slice (sA g) m lc).ownBlock=some q) W2 (((((wr.setCell (aD g (b*4)) (.string ⟨#[]⟩)).setCell (aD g (b*4+1)) (.int .i64 0)).setCell (aD g (b*4+2)) (.int .i64 0)).setCell (aD g (b*4+3)) (.int .i64 M)))):=by exact((((FF.o.setCell (aD g (b*4)) (Y rfl) (.string ⟨#[]⟩)).setCell (aD g (b*4+1)) (Y rfl) (.int .i64 0)).setCell (aD g (b*4+2)) (Y rfl) (.int .i64 0)).setCell (aD g (b*4+3)) (Y rfl) (.int .i64 M))
   go_wp2;go_roundw;case rel=>refine⟨b+1,om,by go_num,F2.o,?_⟩;have:=R2.o;rw[List.drop_drop]at this;rw[show(b+1)*4=b*4+4 by omega];exact this
   case measure=>simp[intOf];omega
  have Vo:b=m:=om;have hji:¬(b:Int)<(m:Int):=om;have S0:Hid (YZ 44 4 B (.slice la m lc) m ms W2 0 [] wr):=by refine⟨FF.o,?_,λe he=>by cases he⟩;have:=OO.o;rw[Vo,List.drop_of_length_le (by rw[HL.o.1];exact aP _),gz]at this;exact this
  have hsB:B<=wr.heap.size:=by have:=FF.o.size;have:=G.o.size;omega
  have Vp:Hid (ms.length=4):=by rw[H.o];rfl
  obtain⟨i0,hi,hz0,hz1,eE⟩:=info_parts oY;have HI:=Z hi;have iK:=Z hz0;have iz:=Z hz1;have ja:=Z eE;have AG:Hid (∀u∈ms,u.oneCell'=true):=by rw[H.o];intro u hu;simp at hu;rcases hu with rfl|rfl|rfl|rfl<;>rfl
  have ON1:Hid (∀u∈([.string ⟨#[]⟩,.int .i64 0,.int .i64 0,.int .i64 M]:List Value),u.oneCell'=true):=by have:=AG.o;rw[H.o]at this;exact this
  have ON2:Hid (∀u∈([.string ⟨#[]⟩,.int .i64 0,.int .i64 0,.int .i64 M,.string ⟨#[]⟩,.int .i64 0,.int .i64 0,.int .i64 M]:List Value),u.oneCell'=true):=by have:=lU ms AG.o 2;rw[H.o]at this;exact this
  have ON3:Hid (∀u∈([.string ⟨#[]⟩,.int .i64 0,.int .i64 0,.int .i64 M,.string ⟨#[]⟩,.int .i64 0,.int .i64 0,.int .i64 M,.string ⟨#[]⟩,.int .i64 0,.int .i64 0,.int .i64 M]:List Value),u.oneCell'=true):=by have:=lU ms AG.o 3;rw[H.o]at this;exact this
  clear OO hi hz0 hz1 eE;have x:=S0.o.l;go_wp2_with(at_builtin;refine gS rfl _ _ 33 rfl B 44 i0 _ 4 40 underlying33 HI.o iK.o iz.o ja.o rfl de _ _ _ rfl (x.alloc _) (aD wr.heap.size 0) 1 1 [.string ⟨#[]⟩,.int .i64 0,.int .i64 0,.int .i64 M] rfl rfl (World.news_of_block (V.new wr #[.string ⟨#[]⟩,.int .i64 0,.int .i64 0,.int .i64 M] 44)) ON1.o om (by unfold maxLen;omega) om (pR hsB) ?_);intro v1 w4 ho hg hf A;have S1:=Z (S0.o.step om Vp.o (by rw[H.o];rfl) ho hg hf A);obtain⟨a1,k1,rfl⟩:=X ho;clear ho hg hf A x S0 m0 m1 m2 m3;have f:V w4 C #[.string ⟨#[]⟩,.int .i64 0,.int .i64 0,.int .i64 M] 44:=Py.o.fr S1.o.fr NN.o.2.2.2;have m0:=f.cell 0;have m1:=f.cell 1;have m2:=f.cell 2;have m3:=f.cell 3;simp at m0 m1 m2 m3;clear f;have Vq:B<=w4.heap.size:=by have:=S1.o.fr.size;have:=G.o.size;omega
  have x:=S1.o.l;go_wp2_with(at_builtin;refine gS rfl _ _ 33 rfl B 44 i0 _ 4 40 underlying33 HI.o iK.o iz.o ja.o rfl de _ _ _ rfl (x.alloc _) (aD w4.heap.size 0) 2 2 [.string ⟨#[]⟩,.int .i64 0,.int .i64 0,.int .i64 M,.string ⟨#[]⟩,.int .i64 0,.int .i64 0,.int .i64 M] rfl rfl (World.news_of_block (V.new w4 #[.string ⟨#[]⟩,.int .i64 0,.int .i64 0,.int .i64 M,.string ⟨#[]⟩,.int .i64 0,.int .i64 0,.int .i64 M] 44)) ON2.o om (by unfold maxLen;omega) om (pR Vq) ?_);intro v2 w5 ho hg hf A;have S2:=Z (S1.o.step om Vp.o (by rw[H.o];rfl) ho hg hf A);obtain⟨a2,k2,rfl⟩:=X ho;clear ho hg hf A x S1 m0 m1 m2 m3;have f:V w5 C #[.string ⟨#[]⟩,.int .i64 0,.int .i64 0,.int .i64 M] 44:=Py.o.fr S2.o.fr NN.o.2.2.2;have m0:=f.cell 0;have m1:=f.cell 1;have m2:=f.cell 2;have m3:=f.cell 3;simp at m0 m1 m2 m3;clear f;have Vr:B<=w5.heap.size:=by have:=S2.o.fr.size;have:=G.o.size;omega
  have x:=S2.o.l;go_wp2_with(at_builtin;refine gS rfl _ _ 33 rfl B 44 i0 _ 4 40 underlying33 HI.o iK.o iz.o ja.o rfl de _ _ _ rfl (x.alloc _) (aD w5.heap.size 0) 3 3 [.string ⟨#[]⟩,.int .i64 0,.int .i64 0,.int .i64 M,.string ⟨#[]⟩,.int .i64 0,.int .i64 0,.int .i64 M,.string ⟨#[]⟩,.int .i64 0,.int .i64 0,.int .i64 M] rfl rfl (World.news_of_block (V.new w5 #[.string ⟨#[]⟩,.int .i64 0,.int .i64 0,.int .i64 M,.string ⟨#[]⟩,.int .i64 0,.int .i64 0,.int .i64 M,.string ⟨#[]⟩,.int .i64 0,.int .i64 0,.int .i64 M] 44)) ON3.o om (by unfold maxLen;omega) om (pR Vr) ?_);intro v3 w6 ho hg hf A;have S3:=Z (S2.o.step om Vp.o (by rw[H.o];rfl) ho hg hf A);obtain⟨a3,k3,rfl⟩:=X ho;clear ho hg hf A x S2 m0 m1 m2 m3;have Vs:(Value.slice la m lc).ownBlock≠some n:=λe=>NG.o.2.2 n e rfl;have JW:V w6 n #[o,D,J,K,.slice R j S,.slice p j s,.int .i64 ((k:Int)+1)] 61:=BB2.o.fr S3.o.fr Vs;have Vt:w6.ownsRow (n+1) 33 1 (Value.slice R j S) j r:=aV JU.o λq d=>S3.o.fr.block q (JU.o.lt q d).2 λe=>NN.o.1 q e d;have Y3:w6.ownsRow (n+1) 3 1 (Value.slice p j s) j t:=aV JV.o λq d=>S3.o.fr.block q (JV.o.lt q d).2 λe=>NN.o.2.1 q e d;have Y5:V w6 C #[.string ⟨#[]⟩,.int .i64 0,.int .i64 0,.int .i64 M] 44:=Py.o.fr S3.o.fr NN.o.2.2.2;have b2:w6.cell? (aD n 4)=some (Value.slice R j S):=JW.cell 4;have bf:=JW.fz;have hz6:w.heap.size<=w6.heap.size:=az G.o.size S3.o.fr.size;have Vu:n+1<=w6.heap.size:=JW.lt;obtain⟨i1,hi,hz0,hz1,eE⟩:=info_parts x8;have JI:=Z hi;have Y6:=Z hz0;have Y7:=Z hz1;have Y8:=Z eE;obtain⟨i2,hi2,hy0,hy1,Th⟩:=info_parts uc;have KI:=Z hi2;have KZ0:=Z hy0;have KZ1:=Z hy1;have KZ2:=Z Th;have vC:=Z Y3;have vD:=Z Vt;have JX:=Z JW;have vE:=Z Y5;have ON4:Hid (∀u∈([.slice la m lc,.slice a1 (m+1) k1,.slice a2 (m+2) k2,.slice a3 (m+3) k3]:List Value),u.oneCell'=true):=by intro u hu;simp at hu;rcases hu with rfl|rfl|rfl|rfl<;>rfl
  clear hi hz0 hz1 eE hi2 hy0 hy1 Th Y3 JW Y5;go_wp2_with(at_builtin;refine wpList_append_own_at _ rfl _ _ 59 rfl (n+1) 33 i1 _ 1 24 underlying59 JI.o Y6.o Y7.o Y8.o rfl de _ _ _ rfl (Vt.alloc _) (aD w6.heap.size 0) 4 4 [.slice la m lc,.slice a1 (m+1) k1,.slice a2 (m+2) k2,.slice a3 (m+3) k3] rfl rfl (World.news_of_block (V.new w6 #[.slice la m lc,.slice a1 (m+1) k1,.slice a2 (m+2) k2,.slice a3 (m+3) k3] 33)) ON4.o (by unfold maxLen;omega) om (pR Vu) ?_);intro v4 w7 ho hg _ A;clear b2 bf Vt;have Pz:V w7 n #[o,D,J,K,.slice R j S,.slice p j s,.int .i64 ((k:Int)+1)] 61:=(JX.o.alloc _).grown hg (λq d=>by have:=(vD.o.lt q d).1;omega);have b2:w7.cell? (aD n 4)=some (Value.slice R j S):=Pz.cell 4;have bf:=Pz.fz;obtain⟨l,AH⟩:∃l,l=w7.setCell (aD n 4) v4:=⟨_,rfl⟩;have B8:V l n #[o,D,J,K,v4,.slice p j s,.int .i64 ((k:Int)+1)] 61:=by rw[AH];exact Pz.set 4 v4
  have vF:∀q,q<w6.heap.size->q≠n->(Value.slice R j S).ownBlock≠some q->l.heap[q]?=w6.heap[q]?:=λq h1 h2 h3=>by rw[AH,Below.heap_setCell _ _ _ _ h2,hg.block q (by simp;omega) λe=>h3 e.symm,Below.heap_alloc _ _ _ h1]
  have hz8:w6.heap.size<=l.heap.size:=by have:=hg.size;rw[AH];simp[World.setCell]at this⊢;omega
  have v4b:∀q,v4.ownBlock=some q->(Value.slice R j S).ownBlock=some q\/w6.heap.size<q:=λq d=>by
   rcases A with e|e;.exact Y (e▸d)
   have:w6.heap.size+1=q:=cI (e.symm.trans d);exact I om
  have JY:l.ownsRow (n+1) 33 1 v4 (j+4) (r++[.slice la m lc,.slice a1 (m+1) k1,.slice a2 (m+2) k2,.slice a3 (m+3) k3]):=by rw[AH];exact ie ho λe=>by have:=(ho.lt n e).1;omega _ _
  have Fy:l.ownsRow (n+1) 3 1 (Value.slice p j s) j t:=aV vC.o λq d=>vF q (vC.o.lt q d).2 (by have:=(vC.o.lt q d).1;omega) λe=>NN.o.2.2.1 q e d;have Fz:V l C #[.string ⟨#[]⟩,.int .i64 0,.int .i64 0,.int .i64 M] 44:=(vF C vE.o.lt (λe=>Tg e.symm) λe=>vB vD.o vE.o de e).trans vE.o;have JZ:∀sv j',w6.ownsRow B 44 4 sv j' (cM ms j')->l.ownsRow B 44 4 sv j' (cM ms j'):=λsv j' h=>aV h λq d=>vF q (h.lt q d).2 (by have:=(h.lt q d).1;omega) λe=>cu vD.o h de q e d;have L3:=S3.o.ls;obtain⟨x1,_,x1b⟩:=L3 (.slice a1 (m+1) k1,m+(0+1)) si;obtain⟨x2,_,x2b⟩:=L3 (.slice a2 (m+2) k2,m+(1+1)) si;obtain⟨x3,_,x3b⟩:=L3 (.slice a3 (m+3) k3,m+(2+1)) si;have eE:w.heap.size<=W2.heap.size:=G.o.size;have F8:Fr (λq=>q=n\/(Value.slice R j S).ownBlock=some q\/(Value.slice p j s).ownBlock=some q\/(Value.slice la m lc).ownBlock=some q) w l:=by have f6:Fr (λq=>q=n\/(Value.slice R j S).ownBlock=some q\/(Value.slice p j s).ownBlock=some q\/(Value.slice la m lc).ownBlock=some q) w w6:=(G.o.mono λq _ e=>Y e).trans (S3.o.fr.mono λq _ e=>I (I (I e)));rw[AH];exact((f6.alloc _).grown hg λq d=>I (I (Y d))).setCell (aD n 4) (Y (Y rfl)) _
  obtain⟨a4,k4,hv4⟩:=X ho;have Vv:Hid (∀g9 c9 w9,w9.ownsRow (n+1) 3 1 (.slice (sA g9) (j+4) c9) (j+4) (t++[.int .i64 M,.int .i64 M,.int .i64 M,.int .i64 M])->((l.alloc (.cells #[.int .i64 M,.int .i64 M,.int .i64 M,.int .i64 M] 3)).drew).grownBy w9 (Value.slice p j s).ownBlock->((Value.slice p j s).ownBlock=some g9\/g9=l.heap.size+1)->V w9 n #[o,D,J,K,v4,.slice p j s,.int .i64 ((k:Int)+1)] 61/\w9.cell? (aD C 3)=some (.int .i64 M)/\(∀v,(w9.setCell (aD n 5) v).cell? (aD C 3)=some (.int .i64 M))/\XI 44 33 4 4 (Dk (-((k+1:Nat):Int))) B n [o,D,J,K,.slice R j S,.slice p j s] k (.slice la m lc) (Value.slice R j S) (Value.slice p j s) j m r t w (w9.setCell (aD n 5) (.slice (sA g9) (j+4) c9))):=λg9 c9 w9 J0 J1 yb=>by
   have Ve:∀q,(Value.slice p j s).ownBlock=some q->n+1<=q:=λq d=>(Fy.lt q d).1;have bl:∀q,q<l.heap.size->(Value.slice p j s).ownBlock≠some q->w9.heap[q]?=l.heap[q]?:=λq h1 h2=>by have e1:w9.heap[q]?=((l.alloc (.cells #[.int .i64 M,.int .i64 M,.int .i64 M,.int .i64 M] 3)).drew).heap[q]?:=J1.block q (by show q<(l.alloc _).heap.size;simp;omega) λe=>h2 e.symm;rw[e1];exact Below.heap_alloc _ _ _ h1
   have B9:V w9 n #[o,D,J,K,v4,.slice p j s,.int .i64 ((k:Int)+1)] 61:=(bl n B8.lt λe=>by have:=Ve n e;omega).trans B8;have Y9:V w9 C #[.string ⟨#[]⟩,.int .i64 0,.int .i64 0,.int .i64 M] 44:=(bl C Fz.lt λe=>vB Fy Fz de e).trans Fz;have J2:∀q,q<l.heap.size->q≠n->(Value.slice p j s).ownBlock≠some q->(w9.setCell (aD n 5) (.slice (sA g9) (j+4) c9)).heap[q]?=l.heap[q]?:=λq h1 h2 h3=>by rw[Below.heap_setCell _ _ _ _ h2];exact bl q h1 h3
   have vG:∀sv j',w6.ownsRow B 44 4 sv j' (cM ms j')->(w9.setCell (aD n 5) (.slice (sA g9) (j+4) c9)).ownsRow B 44 4 sv j' (cM ms j'):=λsv j' h=>by have h8:=JZ sv j' h;exact aV h8 λq d=>J2 q (h8.lt q d).2 (by have:=(h8.lt q d).1;omega) λe=>cu Fy h8 de q e d
   refine⟨B9,Y9.cell 3,λv=>(Y9.other (λe=>Tg e.symm) _ _).cell 3,⟨⟨.slice a1 (m+1) k1,.slice a2 (m+2) k2,.slice a3 (m+3) k3,v4,.slice (sA g9) (j+4) c9,?_,?_,?_,?_,?_,?_,?_⟩,?_⟩⟩
   .have:=B9.set 5 (.slice (sA g9) (j+4) c9);have e:((k+1:Nat):Int)=(k:Int)+1:=by push_cast;rfl
    rw[e];exact this
   .exact aV JY λq d=>J2 q (JY.lt q d).2 (by have:=(JY.lt q d).1;omega) λe=>cu Fy JY de q e d
   .rw[<-HM.o];exact ie J0 λe=>by have:=(J0.lt n e).1;omega _ _
   .rw[<-HM.o,<-Vm.o];exact⟨vG _ _ S3.o.l,vG _ _ x1,vG _ _ x2,vG _ _ x3⟩
   .intro q d;rcases v4b q d with e|e;.exact Y e
    exact I om
   .intro q d;have e:g9=q:=cI d;rcases yb with y|y;.exact Y (e▸y)
    exact I om
   .intro q d;rcases d with y|y|y
    .rcases x1b q y with z|z;.exact Y z
     exact I om
    .rcases x2b q y with z|z;.exact Y z
     exact I om
    rcases x3b q y with z|z;.exact Y z
    exact I om
   exact(((F8.alloc _).drew).grown J1 λq d=>I (I (I (Y d)))).setCell (aD n 5) (Y (Y rfl)) _
  have HW8:=Z AH;have e3:l.cell? (aD n 5)=some (Value.slice p j s):=B8.cell 5;have e3a:(l.alloc (.cells #[.int .i64 M,.int .i64 M,.int .i64 M,.int .i64 M] 3)).cell? (aD n 5)=some (Value.slice p j s):=(B8.alloc _).cell 5;have s3:l.cell? (aD C 3)=some (.int .i64 M):=Fz.cell 3;have Y_:(l.alloc (.cells #[.int .i64 M,.int .i64 M,.int .i64 M,.int .i64 M] 3)).cell? (aD C 3)=some (.int .i64 M):=(Fz.alloc _).cell 3;have HOr:Hid ((l.alloc (.cells #[.int .i64 M,.int .i64 M,.int .i64 M,.int .i64 M] 3)).drew.ownsRow (n+1) 3 1 (Value.slice p j s) j t):=aV (Fy.alloc _) λ_ _=>rfl;have YV:Hid (∀(b:Nat)(u:Value),[Value.int .i64 M,.int .i64 M,.int .i64 M,.int .i64 M][b]?=some u->(l.alloc (.cells #[.int .i64 M,.int .i64 M,.int .i64 M,.int .i64 M] 3)).drew.cell? (((aD l.heap.size 0):Addr).add b)=some u):=World.news_of_block (w:=(l.alloc (.cells #[.int .i64 M,.int .i64 M,.int .i64 M,.int .i64 M] 3)).drew) (V.new l #[.int .i64 M,.int .i64 M,.int .i64 M,.int .i64 M] 3);have YW:Hid (∀u∈[Value.int .i64 M,.int .i64 M,.int .i64 M,.int .i64 M],u.oneCell'=true):=by intro u hu;simp at hu;subst hu;rfl
  have ac8:n+1<=l.heap.size:=B8.lt;subst hv4;clear ho hg A AH Pz B8 vF v4b JY Fy Fz JZ L3 x1 x1b x2 x2b x3 x3b F8 S3 vC vD JX vE;go_upto_region 10 with fail;rw[<-HW8.o];clear b2 bf;refine wp_region_held_drew (S:=λW=>W.cell? (aD C 3)=some (.int .i64 M)) (by kernel_rfl) s3 λJ3=>?_;refine htk 0 ?_;refine htk 1 ?_;refine htk 2 ?_;refine htk 3 ?_;refine htk 5 ?_;refine htk 6 ?_;refine htk 7 ?_;refine htk 8 ?_;refine htk 9 ?_;refine htk 10 ?_;refine htk 11 ?_;refine htk 12 ?_;refine dA [4,13] ?_;refine AllReadyH.cons rfl (λa hK=>?_) ?_;focus go_simp;refine hK.out _ _ s3 λAI=>?_;clear hK a;refine dA [13] ?_
  rotate_left;focus refine hone λa hK=>?_;go_simp;refine hK.out _ _ Y_ λAI=>?_;clear hK a;refine dA [4] ?_
  all_goals refine hone λa hK=>?_;go_simp;refine hK.out _ _ Y_ λVw=>?_;clear hK a;refine dA [14] ?_;refine hone λa hK=>?_;refine step_append_lies _ rfl (.tmp 64) (.tmp 73) 24 rfl (n+1) 3 i2 _ 1 8 underlying24 KI.o KZ0.o KZ1.o KZ2.o rfl de (Value.slice p j s) j t rfl HOr.o (aD l.heap.size 0) 4 4 [.int .i64 M,.int .i64 M,.int .i64 M,.int .i64 M] rfl rfl YV.o YW.o om (by unfold maxLen;omega) om (by show n+1<=(l.alloc _).heap.size;simp;omega) _ rfl ?_;intro g9 c9 w9 J0 J1 yb _;obtain⟨B9,s9,s9s,F9⟩:=Vv.o g9 c9 w9 J0 J1 (by simpa using yb);have FF9:=Z F9;have f9:=B9.fz;have d9:=B9.cell 5;simp at d9;clear J0 J1 yb F9 B9;refine hK.out _ _ s9 λVx=>?_;clear hK a;refine htk 15 ?_;refine htk 16 ?_;refine dA [17] ?_;refine hone λa hK=>?_;go_simp;refine hK.out _ _ (s9s _) λVy=>?_;clear hK a;refine wpAnyH_done (by kernel_rfl) ?_ _;go_wp2;go_end0;exact⟨rfl,by have:=FF9.o;rw[<-HM.o]at this;exact this⟩
variable{i:World->(Nat->Nat)->FX->Prop}{w v u:World}{f H:Nat->Nat}{g:Rv}{d:List PX}{c:List FX}{a b:List (Value×Int)}
theorem PE(L:j1 i)(h:LA i w n f g j d c a b)(k3:Q w v)(K:v.ownsRow w.heap.size 42 3 o k r)(hn:k<=2000000000000)(P:t=[g.l,g.f,g.ns,g.nm,g.ms,g.mm])(hO:XI 42 29 3 2 (Fu (-((j+1:Nat):Int))) w.heap.size n t j o g.ns g.nm a.length k (a.map (·.1)) (a.map λe=>.int .i64 e.2) v u):∃p T H,LA i u n p T (j+1) d c H b/\Fr (λm=>f m=2) w u/\(∀m,m<w.heap.size->p m=f m)/\H.length=a.length+4/\(T.l=g.l/\T.f=g.f)/\Fr (λm=>m=n\/g.ns.ownBlock=some m\/g.nm.ownBlock=some m) w u:=by
 classical
 obtain⟨⟨g1,g2,g3,G,D,hb,o1,o2,⟨l0,l1,l2,l3⟩,b1,b2,b3⟩,fr⟩:=hO;obtain⟨M,hM⟩:∃M:Int,M=-((j+1:Nat):Int):=⟨_,rfl⟩;have z3:=k3.size;have R:n<w.heap.size:=h.blk.lt;have F:Fr (λm=>m=n\/g.ns.ownBlock=some m\/g.nm.ownBlock=some m\/o.ownBlock=some m) w u:=(k3.mono λ_ _ x=>x.elim).trans fr;have W:Fr (λm=>f m=2) w u:=⟨F.os,F.tape,F.output,F.size,λm q e=>F.block m q λy=>by
  rcases y with y|y|y|y;.exact e (y▸h.cg)
  .exact e (h.cr m (I (I (Y y))))
  .exact e (h.cr m (I (I (I (Y y)))))
  have:=(K.lt m y).1;omega⟩;have FG:Fr (λm=>m=n\/g.ns.ownBlock=some m\/g.nm.ownBlock=some m) w u:=⟨F.os,F.tape,F.output,F.size,λm q e=>F.block m q λy=>by
  rcases y with y|y|y|y;.exact e (Y y)
  .exact e (I (Y y))
  .exact e (I (I y))
  have:=(K.lt m y).1;omega⟩;obtain⟨p,s⟩:∃p,p=rI w f λm=>G.ownBlock=some m\/D.ownBlock=some m:=⟨_,rfl⟩;have C:∀m,m<w.heap.size->p m=f m:=λm q=>by rw[s];exact nX q
 obtain⟨a1,a2,a3,a4⟩:=h.AK L ⟨W,λm q _=>C m q⟩;have S:∀(J:TypeId)(U:Value)(n2:Nat)(x2:List Value),w.ownsRow (n+1) J 1 U n2 x2->29≠J->3≠J->∀m,U.ownBlock=some m->¬(m=n\/g.ns.ownBlock=some m\/g.nm.ownBlock=some m\/o.ownBlock=some m):=λJ U n2 x2 z h1 h2 m q e=>by
  rcases e with e|e|e|e;.have:=(z.lt m q).1;omega
  .exact cu h.wY z h1 m e q
  .exact cu h.ud z h2 m e q
  have:=(K.lt m e).1;have:=(z.lt m q).2;omega
 have Ti:∀sv l,l<=3000000000000->u.ownsRow w.heap.size 42 3 sv l (cM (Fu (-((j+1:Nat):Int))) l)->FA 42 3 Fu u p (sv,M):=λsv l hj z=>by
  refine⟨l,hj,?_,λm q=>?_⟩;.rw[hM];exact fR z
  rw[s];refine nY (z.lt m q).1 λy=>?_;rcases y with y|y;.exact cu o1 z de m y q
  exact cu o2 z de m y q
 have N:∀e∈a++[(o,M),(g1,M),(g2,M),(g3,M)],FA 42 3 Fu u p e:=λe he=>by
  rcases gU.1 he with y|y;.exact a3 e y
  simp only[List.mem_cons,List.not_mem_nil,or_false]at y;rcases y with rfl|rfl|rfl|rfl;.exact Ti _ _ om l0
  .exact Ti _ _ om l1
  .exact Ti _ _ om l2
  exact Ti _ _ om l3
 have rn:∀m,G.ownBlock=some m->p m=2:=λm q=>by
  rcases b1 m q with y|y;.have B:RB g m:=I (I (Y y));rw[C m (h.rl m B).2];exact h.cr m B
  rw[s];exact kJ om (Y q)
 have rm:∀m,D.ownBlock=some m->p m=2:=λm q=>by
  rcases b2 m q with y|y;.have B:RB g m:=I (I (I (Y y)));rw[C m (h.rl m B).2];exact h.cr m B
  rw[s];exact kJ om (I q)
 have A:∀m,RB g m->p m=2:=λm B=>by rw[C m (h.rl m B).2];exact h.cr m B
 refine⟨p,{g with ns:=G,nm:=D},a++[(o,M),(g1,M),(g2,M),(g3,M)],⟨by rw[P]at hb;exact hb,by rw[C n R];exact h.cg,⟨λm q=>by rw[C m om];exact h.c0.1 m q,h.c0.2⟩,cz h.ol F (S _ _ _ _ h.ol de de),cz h.of F (S _ _ _ _ h.of de de),by rw[fC,cG];exact o1,by rw[fC,cG];have:=o2;rw[<-hM]at this;exact this,cz h.zW F (S _ _ _ _ h.zW de de),cz h.wZ F λm q e=>by
  rcases e with e|e|e|e;.have:=(h.wZ.lt m q).1;omega
  .exact cu h.wY h.wZ de m e q
  .exact h.NO m e q
  have:=(K.lt m e).1;have:=(h.wZ.lt m q).2;omega,λm q=>?_,λm q=>?_,a1,a2,N,a4,h.fd⟩,W,C,si,⟨rfl,rfl⟩,FG⟩
 .rcases q with e|e|e|e|e|e;.exact A m (Y e)
  .exact A m (I (Y e))
  .exact rn m e
  .exact rm m e
  .exact A m (I (I (I (I (Y e)))))
  exact A m (I (I (I (I (I e)))))
 rcases b2 m q with y|y;.exact h.NO m y
 intro e;have:=(h.wZ.lt m e).2;omega
theorem PF {Φ:World->(Nat->Nat)->FX->Prop} (HΦ:j1 Φ) {w w3 w4:World} {gw n:Nat} {lv:Value} {xs:List Value} {col:Nat->Nat} {r:Rv} {nx:Nat} {ps:List PX} {fs:List FX} {ns ms:List (Value×Int)} (h:LA Φ w gw col r nx ps fs ns ms) (k3:Q w w3) (hl:w3.ownsRow (gw+1) 44 4 lv n xs) (hlc:∀k,lv.ownBlock=some k->k<w.heap.size->col k=2) (hn:n<=2000000000000) {cs:List Value} (hcs:cs=[r.l,r.f,r.ns,r.nm,r.ms,r.mm])
 (hO:XI 44 33 4 4 (Dk (-((nx+1:Nat):Int))) (gw+1) gw cs nx lv r.ms r.mm ms.length n (ms.map (·.1)) (ms.map (λe=>.int .i64 e.2)) w3 w4) :
 ∃dV r' ms',LA Φ w4 gw dV r' (nx+1) ps fs ns ms'/\Fr (λk=>col k=2) w w4/\(∀k,k<w.heap.size->lv.ownBlock≠some k->dV k=col k)/\ms'.length=ms.length+4/\(r'.l=r.l/\r'.f=r.f):=by
 classical
 obtain ⟨⟨g1,g2,g3,Te,Tf,hb,o1,o2,⟨l0,l1,l2,l3⟩,b1,b2,b3⟩,fr⟩:=hO
 obtain ⟨M,hM⟩:∃M:Int,M=-((nx+1:Nat):Int):=⟨_,rfl⟩
 have z3:=k3.size
 have nV:gw<w.heap.size:=h.blk.lt
 have F:Fr (λk=>k=gw\/r.ms.ownBlock=some k\/r.mm.ownBlock=some k\/lv.ownBlock=some k) w w4:=(k3.mono (λ_ _ x=>x.elim)).trans fr
 have F2:Fr (λk=>col k=2) w w4:=⟨F.os,F.tape,F.output,F.size,λk hk e=>F.block k hk (λy=>by
  rcases y with y | y | y | y
  ·exact e (y▸h.cg)
  ·exact e (h.cr k (I (I (I (I (Y y))))))
  ·exact e (h.cr k (I (I (I (I (I y))))))
  exact e (hlc k y hk))⟩
 obtain ⟨dV,Y'⟩:∃dV:Nat->Nat,dV=λk=>if lv.ownBlock=some k then 1 else rI w col (λk=>Te.ownBlock=some k\/Tf.ownBlock=some k) k:=⟨_,rfl⟩
 have hcl:∀k,lv.ownBlock=some k->dV k=1:=λk hk=>by rw [Y']; exact ae hk
 have hcn:∀k,lv.ownBlock≠some k->dV k=rI w col (λk=>Te.ownBlock=some k\/Tf.ownBlock=some k) k:=λk hk=>by rw [Y']; exact aa hk
 have hc:∀k,k<w.heap.size->lv.ownBlock≠some k->dV k=col k:=λk hk e=>by rw [hcn k e]; exact nX hk
 obtain ⟨a1,a2,a3,a4⟩:=h.AK HΦ (dV:=dV) ⟨F2,λk hk e=>hc k hk (λy=>e (hlc k y hk))⟩
 -- the list lies apart from the rows of the World
 have VF:∀(T2:TypeId) (v2:Value) (n2:Nat) (x2:List Value),w.ownsRow (gw+1) T2 1 v2 n2 x2->44≠T2->∀k,v2.ownBlock=some k->lv.ownBlock≠some k:=λT2 v2 n2 x2 ho h1 k hk e=>cu hl (aS ho k3 (λ_ _=>id)) h1 k e hk
 have hne:lv.ownBlock≠some gw:=λe=>by have:=(hl.lt gw e).1; omega
 have ne:∀(T2:TypeId) (v2:Value) (n2:Nat) (x2:List Value),w.ownsRow (gw+1) T2 1 v2 n2 x2->33≠T2->3≠T2->44≠T2->∀k,v2.ownBlock=some k->¬(k=gw\/r.ms.ownBlock=some k\/r.mm.ownBlock=some k\/lv.ownBlock=some k):=λT2 v2 n2 x2 ho h1 h2 h3 k hk e=>by
  rcases e with e | e | e | e
  ·have:=(ho.lt k hk).1; omega
  ·exact cu h.zW ho h1 k e hk
  ·exact cu h.wZ ho h2 k e hk
  grind
 have Ti:∀sv j,j<=3000000000000->w4.ownsRow (gw+1) 44 4 sv j (cM (Dk (-((nx+1:Nat):Int))) j)->(∀k,sv.ownBlock=some k->lv.ownBlock=some k\/w3.heap.size<=k)->FA 44 4 Dk w4 dV (sv,M):=λsv j hj ho hbk=>by
  refine ⟨j,hj,?_,λk hk=>?_⟩
  ·rw [hM]; exact fR ho
  grind [nY,cu]
 have NEW:∀e ∈ ms++[(lv,M),(g1,M),(g2,M),(g3,M)],FA 44 4 Dk w4 dV e:=λe he=>by grind
 have rbl:∀k,RB r k->lv.ownBlock≠some k:=λk hk=>by
  rcases hk with e | e | e | e | e | e
  ·exact VF _ _ _ _ h.ol de k e
  ·exact VF _ _ _ _ h.of de k e
  ·exact VF _ _ _ _ h.wY de k e
  ·exact VF _ _ _ _ h.ud de k e
  ·exact VF _ _ _ _ h.zW de k e
  exact VF _ _ _ _ h.wZ de k e
 have old:∀k,RB r k->dV k=2:=λk hr=>by rw [hc k (h.rl k hr).2 (rbl k hr)]; exact h.cr k hr
 have rn:∀k,Te.ownBlock=some k->dV k=2:=λk hk=>by
  rcases b1 k hk with y | y
  ·exact old k (I (I (I (I (Y y)))))
  grind [kJ,cu]
 have rm:∀k,Tf.ownBlock=some k->dV k=2:=λk hk=>by
  rcases b2 k hk with y | y
  ·exact old k (I (I (I (I (I y)))))
  grind [kJ,cu]
 refine ⟨dV,{ r with ms:=Te,mm:=Tf },ms++[(lv,M),(g1,M),(g2,M),(g3,M)],⟨by rw [hcs] at hb; exact hb,by rw [hc gw nV hne]; exact h.cg,⟨λk hk=>by rw [hc k om (λe=>by have:=(hl.lt k e).1; omega)]; exact h.c0.1 k hk,h.c0.2⟩,cz h.ol F (ne _ _ _ _ h.ol de de de),cz h.of F (ne _ _ _ _ h.of de de de),cz h.wY F (ne _ _ _ _ h.wY de de de),cz h.ud F (λk hk e=>by
  rcases e with e | e | e | e
  ·have:=(h.ud.lt k hk).1; omega
  ·exact cu h.zW h.ud de k e hk
  ·exact h.NO k hk e
  ·exact VF _ _ _ _ h.ud de k hk e),by
  rw [fC,cG]
  exact o1,by
  rw [fC,cG]
  have:=o2
  rw [<-hM] at this
  exact this,λk hk=>?_,λk hk=>?_,a1,a2,a3,NEW,h.fd⟩,F2,hc,si,⟨rfl,rfl⟩⟩
 ·rcases hk with e | e | e | e | e | e
  ·exact old k (Y e)
  ·exact old k (I (Y e))
  ·exact old k (I (I (Y e)))
  ·exact old k (I (I (I (Y e))))
  ·exact rn k e
  exact rm k e
 intro e
 rcases b2 k e with y | y
 ·exact h.NO k hk y
 have:=(h.ud.lt k hk).2
 omega
def Tj(s:List UInt8)(a:List Sg):Nat:=if bD s=0 then((jA s).map λt=>(aq a [t]).length).getD 0 else 0
def NP(s:List UInt8)(a:List Sg):List Value:=if bD s=0 then((jA s).map λt=>(aq a [t]).flatMap cR).getD []else[]
def slA(s:List UInt8):Nat:=if bD s=0 then 0 else jB s
variable{q:ByteArray}{l:List Sg}
theorem ue{r:Ending}(h:Aq q l w r v):Q w v/\∃(sv:Value),r=.returned (.tuple #[sv,.int .i64 (bD (E q):Nat),.int .i64 (slA (E q):Nat)])/\v.ownsRow w.heap.size 42 3 sv (Tj (E q) l) (NP (E q) l):=by
 obtain⟨k,h⟩:=h;refine⟨k,?_⟩;unfold slA Tj NP;rcases h with⟨a,rfl⟩|⟨a,t,sv,b,rfl,c⟩
 .refine⟨.slice none 0 0,?_,?_⟩;.rw[aa a]
  rw[aa a,aa a];exact⟨rfl,Y ⟨rfl,rfl⟩⟩
 grind
theorem FD{s:ByteArray}(i:∀g∈l,0<g.l.length)(b:cD l<=10)(j:s.size<=1100000):Tj (E s) l<=2000000000000:=by
 unfold Tj;split
 .rename_i d;cases f:jA (E s)with|none=>simp|some t=>
   have e:(E s).length<=4000000:=by rw[ak];omega
   obtain⟨h,_⟩:=vf e d f;obtain⟨c,_⟩:=qX e d f;have a:=mr h c l i b lr;grind[ak,E]
 omega
theorem J6(l:List Tv)(h:n<l.length):∃a b c,(l.flatMap cR)[n*3]?=some (.string a)/\(l.flatMap cR)[n*3+1]?=some (.int .i64 b)/\(l.flatMap cR)[n*3+2]?=some (.int .i64 c):=by have g:=λi d=>jw cR 3 (λ_=>rfl) l n i h d;exact⟨_,_,_,g 0 om,g 1 om,g 2 om⟩
theorem FH{s:List UInt8}(h:n<Tj s l):∃a b c,(NP s l)[n*3]?=some (.string a)/\(NP s l)[n*3+1]?=some (.int .i64 b)/\(NP s l)[n*3+2]?=some (.int .i64 c):=by
 unfold Tj at h;unfold NP;split at h;.rename_i d;rw[ae d];cases e:jA s with|none=>rw[e]at h;simp at h|some t=>grind[J6]
 omega
theorem ye(H:j1 i)(hE:EN w)(h:LA i w n f g k d c a b)(hn:a.length<=2000000000000)(hx:k<=2000000000000){p:PX}(hp:p∈d)(s:ByteArray)(hs:s.size<=1100000):Calls prog 45 #[pT n,p.ptr,.string s] w λe U=>e=.returned (.bool true)/\∃F T S,LA i U n F T (k+1) d c S b/\Fr (λv=>f v=2) w U/\(∀v,v<w.heap.size->F v=f v)/\S.length=a.length+4/\(T.l=g.l/\T.f=g.f)/\Fr (λv=>v=n\/g.ns.ownBlock=some v\/g.nm.ownBlock=some v) w U:=by
 have HP:=Z H;have HE:=Z hE;have HH:=Z h;obtain⟨D,d1,d2,d3⟩:=(h.pk p hp).ok;have z:=(h.pk p hp).AJ;obtain⟨q1,⟨q2,q3⟩,q4⟩:=d3.self;have c0:w.cell? (aD p.gp 0)=some (pT p.gx):=q1.cell 0;have c1:w.cell? (aD p.gp 1)=some (pT p.gq):=q1.cell 1;have B:∀t∈p.xs,0<t.l.length:=eh (E p.q);have XS:=Z (Jn (w:=w) (xs:=p.xs) q2 (λU v=>(d3 U (Sm.fr d1 v λ_ _ x=>x)).2.1.2) hE B z s hs);have YS:Hid (∀G,Q w G->Calls prog 66 #[pT p.gq,.string s] G (Aq s p.xs G)):=λG v=>by obtain⟨_,_,y⟩:=d3 G (Sm.fr d1 v λ_ _ x=>x);exact J7 y.1 y.2.2.2.2 z s hs
 have BD:=FD (s:=s) B z hs;have CL:Hid (∀v,v<Tj (E s) p.xs->∃l m r,(NP (E s) p.xs)[v*3]?=some (.string l)/\(NP (E s) p.xs)[v*3+1]?=some (.int .i64 m)/\(NP (E s) p.xs)[v*3+2]?=some (.int .i64 r)):=λv hk=>FH hk;have yf:p.gp<w.heap.size:=q1.lt;have nV:n<w.heap.size:=h.blk.lt;unfold PX.ptr;clear h H hE d1 d2 d3 q1 q2 q3 q4 hp z B;go_enter func45,ntmps45;go_wp2_with fail;refine(XS.o).mono ?_;rintro e1 G P;obtain⟨k1,sx,rfl,ox⟩:=ue P;have K1:=Z k1;have OX:=Z ox;have c1':G.cell? (aD p.gp 1)=some (pT p.gq):=(k1.cell (p:=aD p.gp 1) yf id).trans c1;clear P k1 ox XS c0 c1;obtain⟨xa,xc,rfl⟩:=X OX.o;go_wp2_with fail;refine(YS.o G K1.o).mono ?_;rintro e2 C R;obtain⟨k2,sy,rfl,oy⟩:=ue R;have K2:=Z (K1.o.trans k2);have A:=Z (aS OX.o k2 λ_ _ x=>x);have K:=Z oy;clear R k2 oy YS c1' OX;obtain⟨ya,yc,rfl⟩:=X K.o;generalize Tj (E s) p.xs=N at*;generalize NP (E s) p.xs=CC at*;generalize bD (E s)=te at*;generalize slA (E s)=ta at*;go_wp2;go_loopw[13,14]λo u wr=>o=.bool true/\∃j q:Nat,j<=N/\u=.int .i64 j/\wr=C.drewN qλ_ u _=>N-(intOf u).toNat;case atStart=>exact⟨si,0,0,aT _,rfl,rfl⟩
 case round=>
  obtain⟨rfl,j,q,hj,rfl,rfl⟩:=hrel;by_cases hjn:j<N
  .have hji:(j:Int)<(N:Int):=om;obtain⟨ax,bx,cx,e0,e1,e2⟩:=CL.o j hjn;obtain⟨gx,cgx,L,_,_⟩:=A.o.form om;simp only[Value.slice.injEq,true_and]at L;obtain⟨rfl,rfl⟩:=L;obtain⟨gy,cgy,M,_,_⟩:=K.o.form om;simp only[Value.slice.injEq,true_and]at M;obtain⟨rfl,rfl⟩:=M;have x0:C.cell? (aD gx (j*3))=some (.string ax):=(A.o.cellAt (j*3) om).trans e0;have x1:C.cell? (aD gx (j*3+1))=some (.int .i64 bx):=(A.o.cellAt (j*3+1) om).trans e1;have x2:C.cell? (aD gx (j*3+2))=some (.int .i64 cx):=(A.o.cellAt (j*3+2) om).trans e2;have y0:C.cell? (aD gy (j*3))=some (.string ax):=(K.o.cellAt (j*3) om).trans e0;have y1:C.cell? (aD gy (j*3+1))=some (.int .i64 bx):=(K.o.cellAt (j*3+1) om).trans e1;have y2:C.cell? (aD gy (j*3+2))=some (.int .i64 cx):=(K.o.cellAt (j*3+2) om).trans e2;clear e0 e1 e2;go_wp2;go_quiet(fail);go_wp2;go_roundw;case rel=>exact⟨si,j+1,_,om,by go_num,by first|rfl|exact fQ _ _ _⟩
   case measure=>simp[intOf];omega
  have hji:¬(j:Int)<(N:Int):=om;have W:=HH.o.keep HP.o (K2.o.drewN q);have KD:=Z (K2.o.drewN q);have J:=Z (aV (w':=C.drewN q) A.o λ_ _=>rfl);have OW:=Z (Vg (w:=C.drewN q) (B:=w.heap.size) W.blk W.wY W.ud J.o nV (K2.o.drewN q).size BD hn hx);clear W;go_wp2_with fail;refine mo (OW.o) λw4 o4=>?_;have tu:=Z (PE HP.o HH.o KD.o J.o BD rfl o4);clear o4 OW;go_wp2_with fail;refine(pU _).mono ?_;rintro T w5⟨rfl,rfl⟩;go_wp2_with fail;refine(pU _).mono ?_;rintro T w5⟨rfl,rfl⟩;go_wp2;go_ret;exact⟨si,tu.o⟩
theorem gI.of(l:Q w v){ps:List PX}{fs:List FX}{ns ms:List (Value×Int)}{nx:Nat}(z:LA i u n H g k d c a b)(h:Fr (λl=>f l=2) v u)(y:∀l,l<v.heap.size->H l=f l)(m:ps.length<=d.length/\d.length<=ps.length+1)(o:fs.length<=c.length/\c.length<=fs.length+1)(p:a.length<=ns.length+4)(r:b.length<=ms.length+4)(s:k<=nx+1)(t:∀h∈c,h.p.size<=j):gI i n f ⟨ps.length,fs.length,ns.length,ms.length,nx,j⟩ w u:=⟨H,g,k,d,c,a,b,z,(l.mono λ_ _ x=>x.elim).trans (h.mono λq _ e=>by have:f q=2:=e;omega),λq A _=>y q (aI A l.size),m,o,p,r,s,t⟩
theorem VG(a:V w n #[pT k] 77)(b:V w k #[.string q,o,D] 88):Calls prog 27 #[pT n] w λr c=>r=.returned (.string q)/\Q w c:=by have c0:w.cell? (aD n 0)=some (pT k):=a.cell 0;have c1:w.cell? (aD k 0)=some (.string q):=b.cell 0;clear a b;go_enter func27,ntmps27;go_wp2;go_ret;exact⟨rfl,Fr.refl _ _⟩
theorem Dl(p:j1 i)(y:EN w)(h:LA i w n f g k d c a b)(t:∀l∈c,l.p.size<=j)(C:d.length<=2000000000000)(o q m:Int)(B:o=1)(s:ByteArray)(z:s.size<=maxLen):Calls prog 30 #[pT n,.agg #[.int .i64 o,.int .i64 q,.int .i64 m,.string s]] w λe F=>e=.returned (.bool true)/\gI i n f ⟨d.length,c.length,a.length,b.length,k,j⟩ w F:=by subst B;have r:=Z ((Fr.refl (λ_=>False) w).alloc (.cells #[.int .i64 1,.int .i64 q,.int .i64 m,.string s] 64));have u:=Z (pS p (y.keep r.o).ev (h.keep p r.o) C s z);clear h z y p;go_enter func30,ntmps30;go_wp2_with fail;refine(u.o).mono ?_;rintro e H⟨rfl,v,G,D,A,f2,c2,x,_⟩;have R:=Z (gI.of (ns:=a) (ms:=b) (fs:=c) (nx:=k) (ps:=d) r.o A f2 c2 x ⟨aP _,gT _⟩ om om om t);clear A f2 c2 x u;go_wp2;go_ret;exact⟨rfl,R.o⟩
structure PkQ(w:World)(gw:Nat)(g n j:Nat)(cap:Nat)(p:PX):Prop where
 l:w.cell? (aD gw 0)=some (.slice (sA g) n cap)c:w.cell? (aD g j)=some p.ptr
 lt:j<n
theorem vI(h:LA i w n f g k d c a b)(r:0<d.length)(j:Int):∃e l p,p∈d/\g.l=.slice (sA e) d.length l/\PkQ w n e d.length (ds j d.length) l p:=by
 obtain⟨e,l,o,_,_⟩:=h.ol.form r;have m:=rJ j d.length r;refine⟨e,l,d[ds j d.length]'m,bP m,o,?_,?_,m⟩;.have:w.cell? (aD n 0)=some g.l:=h.blk.cell 0;rw[this,o]
 have q:=h.ol;rw[o]at q;rw[q.cellAt (ds j d.length) om];grind
theorem PG(C:j1 i)(h:LA i w n f g k d c a b)(Df:∀o∈c,o.p.size<=j)(hp:0<d.length)(t u m:Int)(hk:t=2)(s:ByteArray):Calls prog 30 #[pT n,.agg #[.int .i64 t,.int .i64 u,.int .i64 m,.string s]] w λe B=>e=.returned (.bool true)/\gI i n f ⟨d.length,c.length,a.length,b.length,k,j⟩ w B:=by
 subst hk;obtain⟨v,z⟩:∃v,v=w.alloc (.cells #[.int .i64 2,.int .i64 u,.int .i64 m,.string s] 64):=⟨_,rfl⟩;obtain⟨H,F⟩:∃H,H=w.heap.size:=⟨_,rfl⟩;have K:Q w v:=by rw[z];exact(Fr.refl _ w).alloc _
 have X1:V v H #[.int .i64 2,.int .i64 u,.int .i64 m,.string s] 64:=by rw[z,F];exact V.new w _ _
 have G:=h.keep C K;obtain⟨q,cap,p,A,_,P⟩:=vI G hp u;obtain⟨D,d1,_,d3⟩:=(G.pk p A).ok;have tt:=(G.pk p A).tt;have tl:=(G.pk p A).tl;obtain⟨J,⟨q2,q3⟩,q4⟩:=d3.self;have yf:=J.lt;have x1:v.cell? (aD H 1)=some (.int .i64 u):=X1.cell 1;have x0:v.cell? (aD H 0)=some (.int .i64 2):=X1.cell 0;have b0:=P.l;have bc:=P.c;have hj:=P.lt;have p0:v.cell? (aD p.gp 0)=some (pT p.gx):=J.cell 0;have p1:v.cell? (aD p.gp 1)=some (pT p.gq):=J.cell 1;have TX:Hid (∀W,Q v W->Calls prog 27 #[pT p.gx] W λg B=>g=.returned (.string p.tt)/\Q W B):=λW t=>by obtain⟨_,⟨y1,y2⟩,_⟩:=d3 W (Sm.fr d1 t λ_ _ x=>x);obtain⟨sv,l,D',z1,_⟩:=y2;exact VG y1 z1
 have TY:Hid (∀W,Q v W->Calls prog 44 #[pT p.gq] W λg B=>g=.returned (.string p.tt)/\Q W B):=λW t=>by obtain⟨_,_,y⟩:=d3 W (Sm.fr d1 t λ_ _ x=>x);refine(FJ (B:=0) ⟨aT _,y.1,y.2.1,y.2.2.1,y.2.2.2.1⟩).mono ?_;grind[Fr.refl,PI]
 have M:Hid (∀B:World,Calls prog 43 #[.int .i64 u,.int .i64 d.length] B λg w2=>g=.returned (.int .i64 (ds u d.length:Nat))/\w2=B):=λB=>rK u d.length;have U:Hid (∀W,Q v W->gI i n f ⟨d.length,c.length,a.length,b.length,k,j⟩ w W):=λW t=>gI.of (K.trans t) (h.keep C (K.trans t)) (Fr.refl _ _) (λ_ _=>rfl) ⟨aP _,gT _⟩ ⟨aP _,gT _⟩ om om om Df;have S:=Z z;have L:=Z F;unfold PX.ptr at bc;generalize ds u d.length=r at*;generalize d.length=N at*;clear h C z F X1 G A P d1 d3 J q2 q3 q4 tt tl K;go_enter func30,ntmps30;go_upto_region 1 with fail;rw[<-S.o,<-L.o];go_wp2_with fail;go_quiet((go_at_call 43;exact Calls.quiet_of_same (M.o _)));go_wp2_with fail;refine mo (TX.o _ ((Fr.refl _ _).drewN _)) λw3 k3=>?_;have T:Hid (Q v w3):=Fr.trans ((Fr.refl _ v).drewN _) k3;have J:=(T.o.cell (p:=aD p.gp 1) yf id).trans p1;clear k3;go_wp2_with fail;refine mo (TY.o _ T.o) λw4 k4=>?_;have R:=Z (U.o w4 (T.o.trans k4));clear k4;go_wp2;go_ret;exact⟨si,R.o⟩
theorem PJ(B:j1 i)(hE:EN w)(h:LA i w n f g k d c a b)(Df:∀l∈c,l.p.size<=j)(hp:0<d.length)(hn:a.length<=2000000000000)(hx:k<=2000000000000)(r t m:Int)(hk:r=3)(s:ByteArray)(hs:s.size<=1100000):Calls prog 30 #[pT n,.agg #[.int .i64 r,.int .i64 t,.int .i64 m,.string s]] w λe A=>e=.returned (.bool true)/\gI i n f ⟨d.length,c.length,a.length,b.length,k,j⟩ w A:=by
 subst hk;obtain⟨x,C⟩:∃x,x=w.alloc (.cells #[.int .i64 3,.int .i64 t,.int .i64 m,.string s] 64):=⟨_,rfl⟩;obtain⟨v,J⟩:∃v,v=w.heap.size:=⟨_,rfl⟩;have T:Q w x:=by rw[C];exact(Fr.refl _ w).alloc _
 have M:V x v #[.int .i64 3,.int .i64 t,.int .i64 m,.string s] 64:=by rw[C,J];exact V.new w _ _
 have L1:=h.keep B T;obtain⟨o,H,p,R,K,P⟩:=vI L1 hp t;have x0:x.cell? (aD v 0)=some (.int .i64 3):=M.cell 0;have x1:x.cell? (aD v 1)=some (.int .i64 t):=M.cell 1;have x3:x.cell? (aD v 3)=some (.string s):=M.cell 3;have b0:=P.l;have S:=P.c;have hj:=P.lt;have u:g.ns.ownBlock≠some v/\g.nm.ownBlock≠some v/\n≠v:=⟨λe=>by have:=(h.wY.lt v e).2;omega,λe=>by have:=(h.ud.lt v e).2;omega,by have:=h.blk.lt;omega⟩;have D:o≠n/\g.ns.ownBlock≠some o/\g.nm.ownBlock≠some o:=by
  have e:g.l.ownBlock=some o:=by rw[K];rfl
  exact⟨by have:=(h.ol.lt o e).1;omega,λy=>cu h.wY h.ol de o y e,λy=>cu h.ud h.ol de o y e⟩
 have G:o<x.heap.size:=gF S;have z:v<x.heap.size:=M.lt;have L:Hid (∀A:World,Calls prog 43 #[.int .i64 t,.int .i64 d.length] A λg w2=>g=.returned (.int .i64 (ds t d.length:Nat))/\w2=A):=λA=>rK t d.length;have F:Hid (Calls prog 45 #[pT n,pT p.gp,.string s] x.drew λe A=>e=.returned (.bool true)/\gI i n f ⟨d.length,c.length,a.length,b.length,k,j⟩ w A/\(A.cell? (aD n 0)=some (.slice (sA o) d.length H)/\A.cell? (aD v 1)=some (.int .i64 t)/\A.cell? (aD v 3)=some (.string s)/\A.cell? (aD o (ds t d.length))=some (pT p.gp))):=by
  have kd:Q w x.drew:=T.drew;refine(ye B (hE.keep kd) (h.keep B kd) hn hx R s hs).mono ?_;rintro e A⟨rfl,dV,r',ns',l2,f2,c2,h2,⟨h3,_⟩,f3⟩;refine⟨rfl,gI.of (ns:=a) (ms:=b) (fs:=c) (nx:=k) (ps:=d) kd l2 f2 c2 ⟨aP _,gT _⟩ ⟨aP _,gT _⟩ om om om Df,?_,?_,?_,?_⟩;.have:A.cell? (aD n 0)=some r'.l:=l2.blk.cell 0;rw[this,h3,K]
  .rw[f3.cell (p:=aD v 1) z λy=>by rcases y with y|y|y;exact u.2.2 y.symm;exact u.1 y;exact u.2.1 y];exact x1
  .rw[f3.cell (p:=aD v 3) z λy=>by rcases y with y|y|y;exact u.2.2 y.symm;exact u.1 y;exact u.2.1 y];exact x3
  rw[f3.cell (p:=(aD o (ds t d.length))) G λy=>by rcases y with y|y|y;exact D.1 y;exact D.2.1 y;exact D.2.2 y];exact S
 have me:=Z C;have U:=Z J;unfold PX.ptr at S;generalize ds t d.length=q at*;obtain⟨N,hN⟩:∃N,N=d.length:=⟨_,rfl⟩;rw[<-hN]at b0 hj L F⊢;have S0:Hid (x.cell? (aD n 0)=some (.slice (sA o) N H)/\x.cell? (aD v 1)=some (.int .i64 t)/\x.cell? (aD v 3)=some (.string s)/\x.cell? (aD o q)=some (pT p.gp)):=⟨b0,x1,x3,S⟩;clear h B hE C J M L1 R P T u D K G z hN hn hx hp;go_enter func30,ntmps30;go_upto_region 1 with fail;rw[<-me.o,<-U.o];go_wp2_with fail;go_region_heldλW=>W.cell? (aD n 0)=some (.slice (sA o) N H)/\W.cell? (aD v 1)=some (.int .i64 t)/\W.cell? (aD v 3)=some (.string s)/\W.cell? (aD o q)=some (pT p.gp)(first|exact S0.o|exact Za|assumption)(first|(go_at_call 43;refine(L.o _).mono ?_;rintro rr w2⟨rfl,rfl⟩)|(go_at_call 45;refine(F.o).mono ?_;rintro rr w2⟨rfl,ha,Za⟩;have HA:=Z ha;clear ha));go_wp2;go_ret;exact⟨rfl,HA.o⟩
theorem PK{w:World}{g:Nat}{gJ:List Int}(a:∀i(h:i<gJ.length),w.cell? (aD g i)=some (.int .i64 gJ[i]))(B:gJ.length<=100)(k:Int):Calls prog 29 #[.slice (sA g) gJ.length gJ.length,.int .i64 k] w λr C=>r=.returned (.bool (decide (k∈gJ)))/\C=w:=by
 have A:=Z a;obtain⟨n,p⟩:∃n,n=gJ.length:=⟨_,rfl⟩;rw[<-p]at B⊢;have u:=Z p;clear a p;go_enter func29,ntmps29;go_wp2;go_loop[5]λi=>∃j:Nat,j<=n/\i=.int .i64 j/\∀t(h:t<gJ.length),t<j->gJ[t]≠kλi=>n-(intOf i).toNat;case atStart=>exact⟨0,om,rfl,λt _ h=>by omega⟩
 case round=>
  obtain⟨j,D,rfl,x⟩:=hrel;have s:=Z x;clear x;by_cases m:j<n
  .have l:(j:Int)<(n:Int):=om;have o:j<gJ.length:=by rw[<-u.o];exact m
   have c:=A.o j o;by_cases f:gJ[j]=k
   .have b:Hid (decide (k∈gJ)=true):=by unfold Hid;grind
    rw[f]at c;clear f;go_wp2;go_ret;exact⟨uf b.o.symm,rfl⟩
   have z:Hid (∀t(h:t<gJ.length),t<j+1->gJ[t]≠k):=λt q h=>by
    rcases Nat.lt_or_ge t j with y|y;.exact s.o t q y
    grind
   have d:(gJ[j]==k)=false:=by rw[iw];exact f
   generalize gJ[j]=v at*;clear f;go_wp2;go_round;case rel=>exact⟨j+1,om,by go_num,z.o⟩
   case measure=>simp[intOf];omega
  have l:¬(j:Int)<(n:Int):=om;have b:Hid (decide (k∈gJ)=false):=by unfold Hid;rw[decide_eq_false_iff_not];intro y;obtain⟨t,q,e⟩:=gR.1 y;exact s.o t q (by have:=u.o;omega) e
  go_wp2;go_ret;exact⟨uf b.o.symm,rfl⟩
def AL(l:World->(Nat->Nat)->FX->Prop)(n:Int->Prop):Prop:=∀(w:World)(h:Nat)(a:Nat->Nat)(r:Rv)(nx:Nat)(d:List PX)(c:List FX)(j i:List (Value×Int))(b:Nat),EN w->LA l w h a r nx d c j i->0<d.length->d.length<=2000000000000->c.length<=2000000000000->j.length<=2000000000000->i.length<=2000000000000->nx<=2000000000000->(∀f∈c,f.p.size<=b)->∀(k g m:Int)(s:ByteArray),n k->b+s.size<=1100000->Calls prog 30 #[pT h,.agg #[.int .i64 k,.int .i64 g,.int .i64 m,.string s]] w λe o=>e=.returned (.bool true)/\gI l h a ⟨d.length,c.length,j.length,i.length,nx,b+s.size⟩ w o
def gj:List qn->Nat|[]=>0|o::l=>o.s.size+gj l
theorem AN(l:List qn):∀k(h:k<l.length),gj (l.take (k+1))=gj (l.take k)+(l[k]).s.size:=by induction l with|nil=>intro k h;simp at h|cons a r b=>grind[gj]
theorem yg(l:List qn):∀k,gj (l.take k)<=gj l:=by induction l with|nil=>intro k;simp[gj]|cons a r b=>intro k;cases k with|zero=>simp[gj]|succ k=>simp only[List.take_succ_cons,gj];have:=b k;omega
structure Dm(Φ:World->(Nat->Nat)->FX->Prop)(w0 wr:World)(gl N cap:Nat)(ops:List qn)(b k:Nat)(col:Nat->Nat)(r:Rv)(nx:Nat)(ps:List PX)(fs:List FX)(ns ms:List (Value×Int)):Prop where
 l:LA Φ wr w0.heap.size col r nx ps fs ns ms
 f:Q w0 wr
 c0:∀q,q<w0.heap.size->col q=0
 cl:col gl=1
 row:wr.ownsRow 0 64 4 (.slice (sA gl) N cap) N (ed ops)p0:0<ps.length
 b:∀f∈fs,f.p.size<=b
 n:ps.length<=k+1/\fs.length<=k/\ns.length<=4*k/\ms.length<=4*k/\nx<=k
variable{p:List qn}
theorem Dm.step(h:Dm i w v n k j p m A f g B d c a b)(T:gI i w.heap.size f ⟨d.length,c.length,a.length,b.length,B,z⟩ v u):∃o G C D s x t,Dm i w u n k j p z (A+1) o G C D s x t:=by
 obtain⟨o,G,C,D,s,x,t,K,F,H,J,L,M,N,P,R⟩:=T;have S:n<v.heap.size:=(h.row.lt n rfl).2;have l:=h.n;simp only at J L M N P;refine⟨o,G,C,D,s,x,t,K,?_,λq r=>?_,by rw[H n S (by rw[h.cl];decide)];exact h.cl,aV h.row λq r=>F.block q (h.row.lt q r).2 λy=>?_,aI h.p0 J.1,R,om⟩;.exact⟨F.os.trans h.f.os,F.tape.trans h.f.tape,F.output.trans h.f.output,az h.f.size F.size,λq r _=>(F.block q (aI r h.f.size) λy=>by have:=h.c0 q r;omega).trans (h.f.block q r id)⟩
 .rw[H q (aI r h.f.size) (by rw[h.c0 q r];decide)];exact h.c0 q r
 have e:n=q:=cI r;subst e;have:=h.cl;omega
theorem Dm.more(h:Dm i w v n k j p m A f g B d c a b)(l:m<=z):Dm i w v n k j p z (A+1) f g B d c a b:=⟨h.l,h.f,h.c0,h.cl,h.row,h.p0,λe o=>az (h.b e o) l,by have:=h.n;omega⟩
theorem J8(d:World->(Nat->Nat)->FX->Prop)(w:World)(c:EN w):LA d (w.alloc (.cells #[.slice none 0 0,.slice none 0 0,.slice none 0 0,.slice none 0 0,.slice none 0 0,.slice none 0 0,.int .i64 0] 61)) w.heap.size (λk=>if k=w.heap.size then 2 else 0) ⟨.slice none 0 0,.slice none 0 0,.slice none 0 0,.slice none 0 0,.slice none 0 0,.slice none 0 0⟩ 0 [] [] [] []:=⟨V.new w _ _,si,⟨λk b=>aa om,λk b=>c.low b⟩,World.ownsRow_nil _ _ _ _,World.ownsRow_nil _ _ _ _,World.ownsRow_nil _ _ _ _,World.ownsRow_nil _ _ _ _,World.ownsRow_nil _ _ _ _,World.ownsRow_nil _ _ _ _,λk b=>(by rcases b with e|e|e|e|e|e<;>cases e),λk b=>(by cases b),λp a=>(by cases a),λp a=>(by cases a),λp a=>(by cases a),λp a=>(by cases a),List.Pairwise.nil⟩
theorem LA.Zb(r:j1 i){dV:Nat->Nat}(h:LA i w n f g k d c a b)(q:∀o,o<w.heap.size->dV o=f o):LA i w n dV g k d c a b:=by obtain⟨e,j,l,m⟩:=h.AK r (w':=w) (dV:=dV) ⟨Fr.refl _ _,λo p _=>q o p⟩;exact⟨h.blk,by rw[q n h.blk.lt];exact h.cg,⟨λo p=>by rw[q o (Nat.lt_trans p h.blk.lt)];exact h.c0.1 o p,h.c0.2⟩,h.ol,h.of,h.wY,h.ud,h.zW,h.wZ,λo p=>by rw[q o (h.rl o p).2];exact h.cr o p,h.NO,e,j,l,m,h.fd⟩
