import Derived.Test.YtcbadebjpogmlaaGreatDoorVvLawB
set_option maxHeartbeats 2000000
set_option maxRecDepth 100000
namespace Go.Proofs.YtcbadebjpogmlaaGreatDoor
open Go.RowKit Tr Go.Proofs.Tryz
theorem Eu(k:Nat)(l:List UInt8)(b:UInt8):fV k (l++[b])=if k=3/\9<=(fV k l).length then fV k l else fV k l++[b]:=by
 unfold fV;by_cases h:k=3
 .rw[ae h,ae h];by_cases a:9<=l.length;.grind
  have:¬9<=(l.take 9).length:=by simp;omega
  rw[aa λx=>this x.2,gv (by simp;omega),gv om]
 grind
theorem Rj(k:Nat)(l:List UInt8):(fV k l).length<=l.length:=by grind[fV]
theorem pH {S:World->(Nat->Prop)->List Tok->Prop} {V:List Tok->Tok->Prop} {tell:Value} (hS:gn tell S V) {w:World} {r s0:Nat} {z:Sn} {ts:List Tok} {E:Nat->Prop} (h:RM S tell r s0 z ts E w) (hk:z.tk.k=2\/z.tk.k=3) (hx:z.tx.length<=4000000) (b:Nat) (hb:b<256) :
 Calls prog 175 #[pT r,.int .u8 (b:Int)] w (RP S tell r s0 (il z b) ts E w):=by
 obtain ⟨ov,bp,bv,D,h1,h2,h3,h4⟩:=h.ex
 have c3:w.cell? (aD r 3)=some (.int .i64 (z.tk.k:Nat)):=h1.b.cell 3
 have hlx:=Rj z.tk.k z.tx
 -- the byte is written
 have WR:(Hid (¬(z.tk.k=3/\9<=(fV z.tk.k z.tx).length)))->Hid (Calls prog 221 #[.pointer (some (aD r 9)),.int .u8 (b:Int)] w λres w'=>res=.returned .nilIface/\∃E',RM S tell r s0 (il z b).z ts E' w'/\Ev E w E' w'):=λhn=>by
  refine (xZ (l:=fV z.tk.k z.tx) h1.b rfl rfl rfl h1.p h1.t om b hb).mono ?_
  rintro res w' ⟨rfl,v',g1,g2,g3,g4⟩
  have kb:∀k,k<w.heap.size->k≠r->bv.ownBlock≠some k->w'.heap[k]?=w.heap[k]?:=λk hk Ic hn2=>g3.block k hk (λx=>x.elim Ic hn2)
  have ovn:∀k,ov.ownBlock=some k->k≠r/\bv.ownBlock≠some k:=λk hk=>by
   refine ⟨λe=>by have:=(h1.o.lt k hk).1; omega,λe=>?_⟩
   rcases h1.o.2 with ⟨x,_⟩ | ⟨g5,cp5,cu5,x5,_,x6,_⟩
   ·rw [x] at hk; cases hk
   rcases h1.t.2 with ⟨y,_⟩ | ⟨g7,cp7,cu7,y7,_,y8,_⟩
   ·rw [y] at e; cases e
   rw [x5] at hk; rw [y7] at e
   have e1:g5=k:=cI hk
   have e2:g7=k:=cI e
   grind
  refine ⟨rfl,λk=>k=r\/ov.ownBlock=some k\/v'.ownBlock=some k\/D k,⟨ov,.pointer (some (aD r 9)),v',D,⟨g1,aQ h1.o (λk hk=>kb k (h1.o.lt k hk).2 (ovn k hk).1 (ovn k hk).2),?_,I rfl,?_⟩,hS.keep h2 (λk hk=>kb k (hS.lt h2 hk) (h3 k hk).1 (h3 k hk).2.2) g3.size,λk hk=>?_,λ_=>Iff.rfl⟩,⟨λk hk=>?_,g3.mono (λk _ x=>(h4 k).2 (x.elim Y (λy=>I (I (Y y)))))⟩⟩
  ·show World.ownsRow _ _ _ _ _ (fV z.tk.k (z.tx++[UInt8.ofNat b])).length (Lib.byteCells (fV z.tk.k (z.tx++[UInt8.ofNat b])))
   rw [Eu,aa hn.o]
   exact g2
  ·grind (splits:=30) [RP,il,fV]
  ·refine ⟨(h3 k hk).1,(h3 k hk).2.1,λe=>?_⟩
   rcases g4 with x | ⟨k2,x,y⟩
   ·rw [x] at e; exact (h3 k hk).2.2 e
   rw [x] at e
   have:k2=k:=cI e
   have:=hS.lt h2 hk
   omega
  rcases hk with x | x | x | x
  ·grind
  ·grind
  ·rcases g4 with y | ⟨k2,y,y2⟩
   ·rw [y] at x; exact Y ((h4 k).2 (I (I (Y x))))
   grind
  grind
 obtain ⟨ao,cp,N6⟩:=X h1.t
 have LN:=Z (YY (w:=w) h1.b (show (vk s0 z ov bp bv tell)[10]?=some (.slice ao (fV z.tk.k z.tx).length cp) from gV some N6))
 have fin:∀W:World,W=w->fV z.tk.k (z.tx++[UInt8.ofNat b])=fV z.tk.k z.tx->RP S tell r s0 (il z b) ts E w (.returned (.int .i64 6)) W:=λW hW e=>by
  subst hW
  refine ⟨rfl,E,?_,Ev.refl _ _⟩
  show RM _ _ _ _ _ (ts++[]) _ _
  rw [gz]
  exact ⟨ov,bp,bv,D,⟨h1.b,h1.o,by show World.ownsRow _ _ _ _ _ (fV z.tk.k (z.tx++[UInt8.ofNat b])).length (Lib.byteCells (fV z.tk.k (z.tx++[UInt8.ofNat b]))); rw [e]; exact h1.t,h1.p,by show fV z.tk.k (z.tx++[UInt8.ofNat b])=[]->_; rw [e]; exact h1.e⟩,h2,h3,h4⟩
 have Fk:=Z fin
 have HA:=Z (Eu z.tk.k z.tx (UInt8.ofNat b))
 clear h h1 h2 h3 h4 hS fin
 generalize hL:(fV z.tk.k z.tx).length=L at *
 rcases hk with hk | hk
 ·rw [hk] at c3
  have W1:=WR (λx=>by rw [hk] at x; exact absurd x.1 de)
  clear WR hL N6 HA hk Fk
  go_enter func175,ntmps175
  go_wp2_with fail
  refine (W1.o).mono ?_
  rintro res w1 ⟨rfl,E1,hM,hE⟩
  have M1:=Z hM
  have WH:=Z hE
  clear hM hE
  go_wp2
  go_ret
  exact ⟨rfl,E1,by show RM _ _ _ _ _ (ts++[]) _ _; rw [gz]; exact M1.o,WH.o⟩
 rw [hk] at c3
 by_cases h9:9<=L
 ·have e:=HA.o
  rw [ae ⟨hk,om⟩] at e
  have F1:=Z (Fk.o w rfl e)
  have l9:¬(L:Int)<9:=om
  clear WR hL N6 HA hk Fk e
  go_enter func175,ntmps175
  go_wp2_with fail
  refine (LN.o).mono ?_
  rintro res w1 ⟨rfl,rfl⟩
  go_wp2
  go_ret
  exact F1.o
 have W1:=WR (λx=>by have:=x.2; omega)
 have l9:(L:Int)<9:=om
 clear WR hL N6 HA hk Fk
 go_enter func175,ntmps175
 go_wp2_with fail
 refine (LN.o).mono ?_
 rintro res w1 ⟨rfl,rfl⟩
 go_wp2_with fail
 refine (W1.o).mono ?_
 rintro res w1 ⟨rfl,E1,hM,hE⟩
 have M1:=Z hM
 have WH:=Z hE
 clear hM hE
 go_wp2
 go_ret
 exact ⟨rfl,E1,by show RM _ _ _ _ _ (ts++[]) _ _; rw [gz]; exact M1.o,WH.o⟩
variable{g:World->(Nat->Prop)->List Tok->Prop}{d:List Tok->Tok->Prop}{a i j l m o:Value}{w v:World}{n k:Nat}{b:Sn}{c:List Tok}{f:Nat->Prop}
theorem zy(L:gn a g d)(h:RM g a n k b c f w)(l:b.tk.k=2\/b.tk.k=3)(q_:b.at'<=4000000)(hV:VL d c (gf b).ts):Calls prog 174 #[pT n] w (RP g a n k (gf b) c f w):=by
 obtain⟨B,bp,z,D,q,h2,h3,h4⟩:=h.ex;obtain⟨N,first,JH,H,hE,t⟩:=RM.tell L;have ST:=Z (JM q.b rfl q.t q.e);obtain⟨m,o⟩:∃m:Sn,m={b with st:=4,tk:={b.tk with t:=b.tx},tx:=[]}:=⟨_,rfl⟩;have J:∀i,B.ownBlock=some i->i≠n/\z.ownBlock≠some i:=λi l=>by
  refine⟨λe=>by have:=(q.o.lt i l).1;omega,λe=>?_⟩;rcases q.o.2 with⟨x,_⟩|⟨g5,cp5,cu5,x5,_,x6,_⟩;.rw[x]at l;cases l
  rcases q.t.2 with⟨y,_⟩|⟨g7,cp7,cu7,y7,_,y8,_⟩;.rw[y]at e;cases e
  rw[x5]at l;rw[y7]at e;have e1:g5=i:=cI l;have e2:g7=i:=cI e;grind
 have T:∀i,z.ownBlock=some i->i≠n:=λi l e=>by have:=(q.t.lt i l).1;omega
 have B1:Hid (∀u,Fr (λi=>z.ownBlock=some i) w u->V u n (vk k b B bp z a) 115):=λu f1=>q.b.fr f1 λe=>T n e rfl;have C:Hid (∀u,V u n ((vk k b B bp z a).setIfInBounds 8 (.string (bR (fV b.tk.k b.tx)))) 115->Calls prog 219 #[.pointer (some (aD n 9))] u λp M=>p=.returned (.tuple #[])/\V M n (vk k m B (.pointer none) (.slice none 0 0) a) 115/\Fr (λi=>i=n) u M):=λu K=>by refine(Pw K rfl rfl).mono ?_;rintro p M⟨rfl,U,g2⟩;exact⟨rfl,by rw[o];exact U,g2⟩
 have S:Hid (∀v,V v n (vk k m B (.pointer none) (.slice none 0 0) a) 115->Fr (λi=>i=n\/z.ownBlock=some i) w v->∃P,RM g a n k m c P v/\Ev f w P v):=λv b2 f2=>by
  have kb:∀i,i<w.heap.size->i≠n->z.ownBlock≠some i->v.heap[i]?=w.heap[i]?:=λi l Ic hn2=>f2.block i l λx=>x.elim Ic hn2;refine⟨λi=>i=n\/B.ownBlock=some i\/(.slice none 0 0:Value).ownBlock=some i\/D i,⟨B,.pointer none,.slice none 0 0,D,⟨b2,?_,?_,Y rfl,λ_=>rfl⟩,L.keep h2 (λi l=>kb i (L.lt h2 l) (h3 i l).1 (h3 i l).2.2) f2.size,λi l=>⟨(h3 i l).1,(h3 i l).2.1,λe=>by cases e⟩,λ_=>Iff.rfl⟩,⟨λi l=>Y ((h4 i).2 ?_),f2.mono λi _ x=>(h4 i).2 (x.elim Y λy=>I (I (Y y)))⟩⟩;.rw[o];exact aQ q.o λi l=>kb i (q.o.lt i l).2 (J i l).1 (J i l).2
  .rw[o];have e0:fV b.tk.k ([]:List UInt8)=[]:=by unfold fV;split<;>rfl
   show World.ownsRow _ _ _ _ _ (fV b.tk.k []).length (Lib.byteCells (fV b.tk.k []));rw[e0];exact World.ownsRow_nil _ _ _ _
  rcases l with x|x|x|x;.exact Y x
  .exact I (Y x)
  .cases x
  grind
 have hZ:=Z o;have fz:=q.b.fz;have c8:(vk k b B bp z a)[8]?=some (.string (bR (fV b.tk.k b.tk.t))):=rfl;have C8:=Z c8;have C3:Hid (∀W,V W n (vk k m B (.pointer none) (.slice none 0 0) a) 115->W.cell? (aD n 3)=some (.int .i64 (b.tk.k:Nat))):=λW A=>by have:=A.cell 3;rw[o]at this;exact this
 have CC:Hid (∀f W,RM g a n k m c f W->(W.cell? (aD n 14)=some a/\W.cell? (aD n 3)=some (.int .i64 (m.tk.k:Nat))/\W.cell? (aD n 4)=some (.int .i64 (m.tk.of:Nat))/\W.cell? (aD n 5)=some (.int .i64 (m.tk.af:Nat))/\W.cell? (aD n 6)=some (.int .i64 (m.tk.to:Nat))/\W.cell? (aD n 7)=some (.int .i64 m.tk.n)/\W.cell? (aD n 8)=some (.string (bR (fV m.tk.k m.tk.t))))):=λf W A=>by obtain⟨_,_,_,y⟩:=A.rs;exact⟨y.b.cell 14,y.b.cell 3,y.b.cell 4,y.b.cell 5,y.b.cell 6,y.b.cell 7,y.b.cell 8⟩
 have DR:Hid (∀f W j,RM g a n k m c f W->RM g a n k m c f (W.drewN j)):=λf W j A=>RM.drewN L A j;have NM:Hid (b.tk.k=2->d c m.tk/\gf b=⟨m,[m.tk]⟩):=λhk2=>by grind(splits:=30)[RP,VL,E,gO,gf,tk]
 have PL:Hid (b.tk.k=3->∀f W,RM g a n k m c f W->Calls prog 180 #[pT n] W (RP g a n k (gf b) c f W)):=λzU f W A=>by
  have e:gf b=gO {b with tk:={b.tk with t:=b.tx},tx:=[]}:=by unfold gf;rw[ae zU]
  rw[e]at hV⊢;rw[o]at A;exact rB L (A.st b.st) q_ hV
 have TE:Hid (d c m.tk->∀f W,RM g a n k m c f W->Calls prog N (first.push (bS m.tk)++JH) W λp M=>p=.returned (.tuple #[])/\∃P,RM g a n k m (c++[m.tk]) P M/\Ev f W P M):=λhv f W A=>t _ A hv;clear t h q h2 h3 h4 hV L J T o c8;subst H;go_enter func174,ntmps174;go_wp2_with fail;refine mo (ST.o) λu G=>?_;have K:=B1.o u G;have d8:u.cell? (aD n 8)=some (.string (bR (fV b.tk.k b.tk.t))):=(K.cell 8).trans C8.o;have UL:=K.fz;have BB:=Z K;have F1:=Z G;clear K G ST B1 fz;go_wp2_with fail;refine(C.o _ (BB.o.set 8 _)).mono ?_;rintro p v⟨rfl,U,g2⟩;have f2:Fr (λi=>i=n\/z.ownBlock=some i) w v:=((F1.o.mono (L:=λi=>i=n\/z.ownBlock=some i) λ_ _ x=>I x).setCell (aD n 8) (Y (Y rfl)) _).trans (g2.mono λ_ _ x=>Y x);obtain⟨E2,hM2,hE2⟩:=S.o v U f2;have M2:=Z hM2;have R:=Z hE2;have d3:=C3.o v U;clear U g2 f2 hM2 hE2 S C F1 BB d8 UL C3;rcases l with l|l;.rw[l]at d3;obtain⟨hv,he⟩:=NM.o l;have HE:=Z he;have HV:=Z hv;clear NM PL he hv;go_wp2_with fail;clear d3 l;obtain⟨e14,e3,e4,e5,e6,e7,e8⟩:=CC.o _ _ M2.o;clear CC;unfold bS at TE;go_region_with(refine(TE.o HV.o _ _ (DR.o _ _ 1 M2.o)).mono ?_;rintro p w3⟨rfl,E3,s,r⟩;have M3:=Z s;have F:=Z r;clear s r);all_goals go_wp2;go_ret;rw[HE.o];refine⟨by show _=Ending.returned (.int .i64 (m.st:Nat));rw[hZ.o];rfl,E3,M3.o,(R.o.drewN 1).trans F.o⟩
 rw[l]at d3;have P1:=Z (PL.o l E2 v M2.o);clear NM PL CC TE l;go_wp2_with fail;refine(P1.o).mono ?_;rintro p w3⟨rfl,E3,s,r⟩;have M3:=Z s;have F:=Z r;clear s r;go_wp2;go_ret;exact⟨rfl,E3,M3.o,R.o.trans F.o⟩
theorem vy(m:gn a g d)(h:RM g a n k b c f w)(t:b.tk.k=2\/b.tk.k=3)(A:b.tx.length<=4000000)(r:b.at'<=4000000)(i:Nat)(s:i<256)(q:VL d c (iQ b i).ts):Calls prog 134 #[pT n,.int .u8 (i:Int)] w (RP g a n k (iQ b i) c f w):=by
 have v:=Z λw=>lT (w:=w) i s;have H:=Z h;rcases j0 i with⟨j,l⟩|⟨j,x,l⟩|⟨j,l⟩|⟨j,l⟩|⟨j,x,l⟩|⟨j,l⟩|⟨j,l⟩|⟨j,x,c2,c3,c4,l⟩;iterate 2
  focus
   have e:iQ b i=b.to 12:=by unfold iQ;rw[ae om]
   rw[e]
  rotate_left
 iterate 3
  focus
   have e:iQ b i=il b i:=by unfold iQ;rw[aa om,aa om,aa om]
   rw[e];have o:=Z (pH m h t A i s)
  rotate_left
 focus
  have e:iQ b i=gf b:=by unfold iQ;rw[aa om,aa om,ae j]
  rw[e]at q⊢;have o:=Z (zy m h t r q)
 rotate_left;focus
  have e:iQ b i=b.to 7:=by unfold iQ;rw[aa om,ae j]
  rw[e]
 rotate_left;focus
  have e:iQ b i=il b i:=by unfold iQ;rw[aa om,aa om,aa om]
  rw[e];have o:=Z (pH m h t A i s)
 rotate_left;all_goals rw[l]at v;clear q e l h m j;go_enter func134,ntmps134;go_wp2_with fail;refine(v.o _).mono ?_;rintro u D⟨rfl,rfl⟩;go_wp2_with fail;first|(go_ret;exact H.o.to (Ev.refl _ _) _)|(refine(o.o).mono ?_;rintro u D⟨rfl,B,z,y⟩;have C:=Z z;have p:=Z y;clear z y;go_wp2;go_ret;exact⟨rfl,B,C.o,p.o⟩)
theorem tB(v:gn a g d)(h:RM g a n k b c f w)(D:b.tk.k=2\/b.tk.k=3)(F:b.tx.length<=4000000)(i:Nat)(B:i<256):Calls prog 135 #[pT n,.int .u8 (i:Int)] w (RP g a n k (kV b i) c f w):=by
 have r:=Z λw=>lT (w:=w) i B;have H:=Z h;have x:=Z (pH v h D F i B);by_cases o:i=34
 .have e:kV b i=il b i:=by unfold kV;rw[aa om]
  rw[e];have l:bY i=5:=by rw[o];rfl
  rw[l]at r;clear e l h v o;go_enter func135,ntmps135;go_wp2_with fail;refine(r.o _).mono ?_;rintro m s⟨rfl,rfl⟩;go_wp2_with fail;refine(x.o).mono ?_;rintro m s⟨rfl,y,u,t⟩;have z:=Z u;have q:=Z t;clear u t;go_wp2;go_ret;exact⟨rfl,y,z.o,q.o⟩
 by_cases p:i=92
 .have e:kV b i=il b i:=by unfold kV;rw[aa om]
  rw[e];have l:bY i=6:=by rw[p];rfl
  rw[l]at r;clear e l h v o p;go_enter func135,ntmps135;go_wp2_with fail;refine(r.o _).mono ?_;rintro m s⟨rfl,rfl⟩;go_wp2_with fail;refine(r.o _).mono ?_;rintro m s⟨rfl,rfl⟩;go_wp2_with fail;refine(x.o).mono ?_;rintro m s⟨rfl,y,u,t⟩;have z:=Z u;have q:=Z t;clear u t;go_wp2;go_ret;exact⟨rfl,y,z.o,q.o⟩
 have e:kV b i=b.to 12:=by unfold kV;rw[ae ⟨o,p⟩]
 rw[e];have G:bY i≠5/\bY i≠6:=by rcases j0 i with⟨j,l⟩|⟨j,A,l⟩|⟨j,l⟩|⟨j,l⟩|⟨j,A,l⟩|⟨j,l⟩|⟨j,l⟩|⟨j,A,c2,c3,c4,l⟩<;>rw[l]<;>first|exact⟨de,de⟩|omega
 generalize bY i=C at*;have J:((C:Int)!=5)=true:=by rw[bne_iff_ne];omega
 have K:((C:Int)!=6)=true:=by rw[bne_iff_ne];omega
 clear e h v o p x G;go_enter func135,ntmps135;go_wp2_with fail;refine(r.o _).mono ?_;rintro m s⟨rfl,rfl⟩;go_wp2_with fail;refine(r.o _).mono ?_;rintro m s⟨rfl,rfl⟩;go_wp2;go_ret;exact H.o.to (Ev.refl _ _) 12
theorem mV(x:gn a g d)(h:RM g a n k b c f w)(M:0<=b.tk.n/\b.tk.n<=1000000000)(N:b.sz<=9)(j:Nat)(z:O j=true):Calls prog 177 #[pT n,.int .u8 (j:Int)] w (RP g a n k (fe b j) c f w):=by
 obtain⟨S,H,J,D,p,s,t,u⟩:=h.ex;have K:w.cell? (aD n 7)=some (.int .i64 b.tk.n):=p.b.cell 7;have y:w.cell? (aD n 12)=some (.int .i64 (b.sz:Nat)):=p.b.cell 12;have L:=p.b.fz;have A:48<=j/\j<=57:=by simpa[O]using z
 obtain⟨v,r⟩:∃v:Int,v=b.tk.n*10+((j-48:Nat):Int):=⟨_,rfl⟩;have B:IntKind.i64.wrap (b.tk.n*10)=b.tk.n*10:=IntWalk.i64_in _ om;have C:IntKind.u8.wrap ((j:Int)-48)=((j-48:Nat):Int):=by rw[IntWalk.u8_in _ om];omega
 have F:IntKind.i64.wrap (b.tk.n*10+((j-48:Nat):Int))=v:=by rw[IntWalk.i64_in _ om,r]
 have G:IntKind.i64.wrap ((b.sz:Int)+1)=((b.sz+1:Nat):Int):=by rw[IntWalk.i64_in _ om];omega
 have f0:∀(i j l:Value),Fr (λm=>m=n) w (((w.setCell (aD n 7) i).setCell (aD n 12) j).setCell (aD n 12) l):=λi j l=>(((Fr.refl (λm=>m=n) w).setCell (aD n 7) (Y rfl) _).setCell (aD n 12) (Y rfl) _).setCell (aD n 12) (Y rfl) _;have f1:∀(i j:Value),Fr (λm=>m=n) w ((w.setCell (aD n 7) i).setCell (aD n 12) j):=λi j=>((Fr.refl (λm=>m=n) w).setCell (aD n 7) (Y rfl) _).setCell (aD n 12) (Y rfl) _;have o:c++(fe b j).ts=c:=by show c++[]=c;simp
 by_cases q:v=0
 .have R:=RM.set (z':=(fe b j).z) (s1:=k) x p s t u (w':=((w.setCell (aD n 7) (.int .i64 v)).setCell (aD n 12) (.int .i64 ((b.sz+1:Nat):Int))).setCell (aD n 12) (.int .i64 9)) (by
   have:=((p.b.set 7 (.int .i64 v)).set 12 (.int .i64 ((b.sz+1:Nat):Int))).set 12 (.int .i64 9);have e:(fe b j).z={b with st:=9,tk:={b.tk with n:=v},sz:=9}:=by unfold fe;simp only;rw[<-r,ae q]
   rw[e];exact this) (f0 _ _ _) rfl rfl;have RR:Hid (RP g a n k (fe b j) c f w (.returned (.int .i64 9)) (((w.setCell (aD n 7) (.int .i64 v)).setCell (aD n 12) (.int .i64 ((b.sz+1:Nat):Int))).setCell (aD n 12) (.int .i64 9))):=⟨rfl,f,by rw[o];exact R.1,R.2⟩;clear h p s t u x R f0 f1 o r;subst q;go_enter func177,ntmps177;go_wp2;go_ret;exact RR.o
 have R:=RM.set (z':=(fe b j).z) (s1:=k) x p s t u (w':=(w.setCell (aD n 7) (.int .i64 v)).setCell (aD n 12) (.int .i64 ((b.sz+1:Nat):Int))) (by
  have:=(p.b.set 7 (.int .i64 v)).set 12 (.int .i64 ((b.sz+1:Nat):Int));have e:(fe b j).z={b with st:=9,tk:={b.tk with n:=v},sz:=b.sz+1}:=by unfold fe;simp only;rw[<-r,aa q]
  rw[e];exact this) (f1 _ _) rfl rfl;have RR:Hid (RP g a n k (fe b j) c f w (.returned (.int .i64 9)) ((w.setCell (aD n 7) (.int .i64 v)).setCell (aD n 12) (.int .i64 ((b.sz+1:Nat):Int)))):=⟨rfl,f,by rw[o];exact R.1,R.2⟩;have P:(v==0)=false:=by rw[iw];exact q
 clear h p s t u x R f0 f1 o r q;go_enter func177,ntmps177;go_wp2;go_ret;exact RR.o
theorem WI{R:Ending->World->Prop}{b:Act}(r:b.defers=[])(q:b.tmps[2]?.getD undef=pT n)(c:V w n #[a,i,j,l,m,o] 108)(p:R (.returned (.agg #[a,i,j,l,m,o])) w):bodyPost prog f74 R .ret b w:=by have d:=c.cell 0;have e:=c.cell 1;have f:=c.cell 2;have g:=c.cell 3;have h:=c.cell 4;have k:=c.cell 5;simp at d e f g h k;refine bodyPost_ret (v:=.agg #[a,i,j,l,m,o]) ?_ r p;simp[results,results74,go_sem,q,d,e,f,g,h,k]
theorem zz(h:RS w n k b a i j l)(m:0<=b.tk.n/\b.tk.n<=1000000000)(f:b.sg=1\/b.sg=-1):Calls prog 74 #[pT n] w λc r=>c=.returned (bS (cw b))/\Q w r:=by
 have o:n<w.heap.size:=h.b.lt;have c1:w.cell? (aD n 1)=some (.int .i64 (b.at':Nat)):=h.b.cell 1;have c3:w.cell? (aD n 3)=some (.int .i64 (b.tk.k:Nat)):=h.b.cell 3;have c4:w.cell? (aD n 4)=some (.int .i64 (b.tk.of:Nat)):=h.b.cell 4;have c5:w.cell? (aD n 5)=some (.int .i64 (b.tk.af:Nat)):=h.b.cell 5;have A:w.cell? (aD n 6)=some (.int .i64 (b.tk.to:Nat)):=h.b.cell 6;have B:w.cell? (aD n 7)=some (.int .i64 b.tk.n):=h.b.cell 7;have C:w.cell? (aD n 8)=some (.string (bR (fV b.tk.k b.tk.t))):=h.b.cell 8;have g:w.cell? (aD n 13)=some (.int .i64 b.sg):=h.b.cell 13;have p:IntKind.i64.wrap (b.tk.n*b.sg)=b.tk.n*b.sg:=IntWalk.i64_in _ (by rcases f with e|e<;>rw[e]<;>omega);have q:wrap64 (b.tk.n*b.sg)=b.tk.n*b.sg:=by rw[<-IntWalk.i64_left];exact p
 have d:bS (cw b)=.agg #[.int .i64 (b.tk.k:Nat),.int .i64 (b.tk.of:Nat),.int .i64 (b.tk.af:Nat),.int .i64 (b.at':Nat),.int .i64 (b.tk.n*b.sg),.string (bR (fV b.tk.k b.tk.t))]:=rfl;rw[d];clear h m f d;generalize bR (fV b.tk.k b.tk.t)=D at*;generalize b.tk.k=s at*;generalize b.tk.of=t at*;generalize b.tk.af=u at*;generalize b.tk.to=v at*;generalize b.at'=x at*;generalize b.tk.n=y at*;generalize b.sg=z at*;go_enter func74,ntmps74;go_wp2;go_region;all_goals go_wp2;refine WI rfl rfl ((V.new w _ 108).alloc _) ?_;exact⟨rfl,(((Fr.refl _ w).alloc _).alloc _).drew⟩
theorem RM.keeps(m:gn a g d)(h:RM g i n k b c f w)(e:Q w v):RM g i n k b c f v/\Ev f w f v:=by obtain⟨t,o,p,D,j,l,r⟩:=h.ex;exact⟨⟨t,o,p,D,⟨j.b.fr e id,aS j.o e λ_ _ x=>x,aS j.t e λ_ _ x=>x,j.p,j.e⟩,m.keep l (λq s=>e.block q (m.lt l s) id) e.size,r⟩,⟨λ_=>Y,e.mono λ_ _ x=>x.elim⟩⟩
theorem nM {S:World->(Nat->Prop)->List Tok->Prop} {V:List Tok->Tok->Prop} {tell:Value} (hS:gn tell S V) {w:World} {r s0:Nat} {z:Sn} {ts:List Tok} {E:Nat->Prop} (h:RM S tell r s0 z ts E w) (hs0:s0=z.st) (hst:z.st=8\/z.st=9) (hok:jm z) (q_:z.at'<=4000000) (b:Nat) (hb:b<256) (hV:VL V ts (gG z b).ts) :
 Calls prog 136 #[pT r,.int .u8 (b:Int)] w (RP S tell r s0 (gG z b) ts E w):=by
 obtain ⟨hsz,hn0,Ic,Az,zU⟩:=hok.n hst
 have h10:(10:Nat) ^ z.sz<=1000000000:=Nat.pow_le_pow_right (n:=10) de hsz
 have hnn:0<=z.tk.n/\z.tk.n<=1000000000:=⟨hn0,om⟩
 obtain ⟨ov,bp,bv,h1⟩:=h.rs
 have c0:w.cell? (aD r 0)=some (.int .i64 (s0:Nat)):=h1.b.cell 0
 have c12:w.cell? (aD r 12)=some (.int .i64 (z.sz:Nat)):=h1.b.cell 12
 have H:=Z h
 have KO:=Z (λw=>lT (w:=w) b hb)
 have DG:=Z (λw=>t_ (w:=w) b hb)
 have MF:=Z (pQ h1 hok.op.1 hok.op.2 b hb)
 have DR:Hid (∀n,RM S tell r s0 z ts E (w.drewN n)):=λn=>RM.drewN hS h n
 by_cases c1:z.st=8/\¬(49<=b/\b<=57)
 ·have e:gG z b=z.to 12:=by unfold gG; rw [ae c1]
  rw [e]
  have k4:bY b≠4:=by
   rcases j0 b with ⟨c,k⟩ | ⟨c,c',k⟩ | ⟨c,k⟩ | ⟨c,k⟩ | ⟨c,c',k⟩ | ⟨c,k⟩ | ⟨c,k⟩ | ⟨c,c',c2,c3,c4,k⟩<;>rw [k]<;>first | decide | omega
  rw [hs0,c1.1] at c0
  generalize bY b=kk at *
  have n4:((kk:Int) != 4)=true:=by rw [bne_iff_ne]; omega
  clear e hV h h1 hS hok c1 k4 MF DG DR hnn hn0 Ic h10 Az zU hsz hst c12
  go_enter func136,ntmps136
  go_wp2_with fail
  refine (KO.o _).mono ?_
  rintro res w1 ⟨rfl,rfl⟩
  go_wp2
  go_ret
  exact H.o.to (Ev.refl _ _) 12
 rcases hst with h8 | h9
 · -- behind the sign
  obtain ⟨m1,m2⟩:=hok.m h8
  have Tz:49<=b/\b<=57:=om
  have hd:O b=true:=by simp [O]; omega
  have e:gG z b=fe z b:=by unfold gG; rw [aa c1,ae ⟨hd,om⟩]
  rw [e]
  have AD:=Z (mV hS h hnn om b hd)
  have k4:bY b=4:=by
   rcases j0 b with ⟨c,k⟩ | ⟨c,c',k⟩ | ⟨c,k⟩ | ⟨c,k⟩ | ⟨c,c',k⟩ | ⟨c,k⟩ | ⟨c,k⟩ | ⟨c,c',c2,c3,c4,k⟩<;>first | exact k | omega
  rw [hs0,h8] at c0
  rw [m1] at c12
  rw [k4] at KO
  rw [hd] at DG
  clear e hV h h1 hS hok c1 hnn hn0 Ic h10 Az zU h8 m1 m2 hd k4 MF DR hsz
  go_enter func136,ntmps136
  go_wp2_with fail
  refine (KO.o _).mono ?_
  rintro res w1 ⟨rfl,rfl⟩
  go_wp2_with fail
  refine (DG.o _).mono ?_
  rintro res w1 ⟨rfl,rfl⟩
  go_wp2_with fail
  refine (AD.o).mono ?_
  rintro res w1 ⟨rfl,E1,hM,hE⟩
  have M1:=Z hM
  have WH:=Z hE
  clear hM hE
  go_wp2
  go_ret
  exact ⟨rfl,E1,M1.o,WH.o⟩
 rw [hs0,h9] at c0
 by_cases hd:O b=true/\z.sz<9
 ·have e:gG z b=fe z b:=by unfold gG; rw [aa c1,ae hd]
  rw [e]
  have AD:=Z (mV hS h hnn hsz b hd.1)
  have l9:(z.sz:Int)<9:=om
  have DG2:=DG
  rw [hd.1] at DG2
  clear e hV h h1 hS hok c1 hnn hn0 Ic h10 Az zU h9 hd MF DR hsz KO DG
  go_enter func136,ntmps136
  go_wp2_with fail
  refine (DG2.o _).mono ?_
  rintro res w1 ⟨rfl,rfl⟩
  go_wp2_with fail
  refine (AD.o).mono ?_
  rintro res w1 ⟨rfl,E1,hM,hE⟩
  have M1:=Z hM
  have WH:=Z hE
  clear hM hE
  go_wp2
  go_ret
  exact ⟨rfl,E1,M1.o,WH.o⟩
 by_cases hm:gu z.op b=false
 ·have e:gG z b=z.to 12:=by unfold gG; rw [aa c1,aa hd,ae hm]
  rw [e]
  rw [hm] at MF
  have T12:Hid (∀n,RP S tell r s0 (z.to 12) ts E w (.returned (.int .i64 12)) (w.drewN n)):=λn=>(DR.o n).to ((Ev.refl E w).drewN n) 12
  clear e hV h h1 hS hok c1 hnn hn0 Ic h10 Az zU h9 DR hsz KO hm H
  by_cases hg:O b=true
  focus
   rw [hg] at DG
   have l9:¬(z.sz:Int)<9:=by have:¬z.sz<9:=λx=>hd ⟨hg,x⟩; omega
  rotate_left
  focus
   have hg:O b=false:=by simpa using hg
   rw [hg] at DG
  all_goals
   clear hd hg
   go_enter func136,ntmps136
   go_wp2_with fail
   refine (DG.o _).mono ?_
   rintro res w1 ⟨rfl,rfl⟩
   go_wp2_with fail
   refine (MF.o).mono ?_
   rintro res w1 ⟨rfl,n,rfl⟩
   go_wp2
   go_ret
   exact T12.o n
 have hm:gu z.op b=true:=by simpa using hm
 have e:gG z b=⟨(aC z b).z,cw z::(aC z b).ts⟩:=by unfold gG; rw [aa c1,aa hd,aa (by rw [hm]; decide)]
 rw [e] at hV ⊢
 rw [hm] at MF
 obtain ⟨hv1,Fi⟩:=hV
 obtain ⟨N,first,JH,aax,hE,pN⟩:=RM.tell hS
 have NU:Hid (∀W,RM S tell r s0 z ts E W->Calls prog 74 #[pT r] W λres w'=>res=.returned (bS (cw z))/\Q W w'):=λW hW=>by
  obtain ⟨_,_,_,y⟩:=hW.rs
  exact zz y hnn Az
 have KP:Hid (∀W W',RM S tell r s0 z ts E W->Q W W'->RM S tell r s0 z ts E W'/\Ev E W E W'):=λW W' hW k=>RM.keeps hS hW k
 have TE:Hid (∀W,RM S tell r s0 z ts E W->Calls prog N (first.push (bS (cw z))++JH) W λres w'=>res=.returned (.tuple #[])/\∃E',RM S tell r s0 z (ts++[cw z]) E' w'/\Ev E W E' w'):=λW hW=>pN _ hW hv1
 have BH:Hid (∀E W,RM S tell r s0 z (ts++[cw z]) E W->Calls prog 179 #[pT r,.int .u8 (b:Int)] W (RP S tell r s0 (aC z b) (ts++[cw z]) E W)):=λE W hW=>xT hS hW hok.op.1 hok.op.2 q_ b hb Fi
 have C14:Hid (∀W,RM S tell r s0 z ts E W->W.cell? (aD r 14)=some tell):=λW hW=>by
  obtain ⟨_,_,_,y⟩:=hW.rs
  exact y.b.cell 14
 have aeo:Hid (∀E2 w2 (res:Ending) w3,Ev E w E2 w2->RP S tell r s0 (aC z b) (ts++[cw z]) E2 w2 res w3->RP S tell r s0 ⟨(aC z b).z,cw z::(aC z b).ts⟩ ts E w res w3):=λE2 w2 res w3 hev hr=>by
  obtain ⟨q1,E3,q2,q3⟩:=hr
  exact ⟨q1,E3,by simpa using q2,hev.trans q3⟩
 generalize bS (cw z)=tg at *
 clear e h h1 hok c1 hnn hn0 Ic h10 Az zU h9 hsz KO hm H pN hv1 Fi hS
 subst aax
 by_cases hg:O b=true
 focus
  rw [hg] at DG
  have l9:¬(z.sz:Int)<9:=by have:¬z.sz<9:=λx=>hd ⟨hg,x⟩; omega
 rotate_left
 focus
  have hg:O b=false:=by simpa using hg
  rw [hg] at DG
 all_goals
  clear hd hg
  go_enter func136,ntmps136
  go_wp2_with fail
  refine (DG.o _).mono ?_
  rintro res w1 ⟨rfl,rfl⟩
  go_wp2_with fail
  refine (MF.o).mono ?_
  rintro res w1 ⟨rfl,n,rfl⟩
  go_wp2_with fail
  have d14:=C14.o _ (DR.o (n+1))
  go_region_with (first
   | (go_at_call 74; refine (NU.o _ (DR.o (n+1))).mono ?_; rintro res w2 ⟨rfl,hk⟩; have M2:=Z (KP.o _ _ (DR.o (n+1)) hk).1; have EV2:=Z (KP.o _ _ (DR.o (n+1)) hk).2; have alh:=C14.o _ M2.o; clear hk)
   | (refine (TE.o _ M2.o).mono ?_; rintro res w3 ⟨rfl,E3,hM3,hE3⟩; have M3:=Z hM3; have EV3:=Z hE3; clear hM3 hE3))
  all_goals
   go_wp2_with fail
   refine (BH.o E3 _ M3.o).mono ?_
   intro res w4 hr
   have q:=Z (aeo.o E3 _ res w4 ((((Ev.refl E _).drewN (n+1)).trans EV2.o).trans EV3.o) hr)
   obtain ⟨rfl,_⟩:=hr
   go_wp2
   go_ret
   exact q.o
