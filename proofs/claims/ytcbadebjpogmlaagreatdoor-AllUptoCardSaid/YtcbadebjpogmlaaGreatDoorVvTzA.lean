import Derived.Test.YtcbadebjpogmlaaGreatDoorVvTyM
set_option maxHeartbeats 16000000
set_option maxRecDepth 100000
namespace Go.Proofs.YtcbadebjpogmlaaGreatDoor
open Go.RowKit Tr Go.Proofs.Tryz
variable{d:List Sg}{n k i j m:Nat}
theorem Nc(c:n<d.length)(a:∀m(e:m<d.length),m<n->(d[m]).late=false)(b:(d[n]).late=true):jV d=(n:Nat):=by grind[ay,jV]
theorem Nd(a:∀m(b:m<d.length),(d[m]).late=false):jV d=-1:=by grind[Sg.late,ay,jV]
theorem Nf(x:dz):x.late=(((x.sort:Nat):Int)==5||(((x.sort:Nat):Int)==3&&decide (x.n<0))):=by grind[dz.late]
variable{w v:World}{c:Value}
theorem Xh(hq:V w n #[c] 148)(C:iX w c d)(nP:d.length<=1000)(N:∀g∈d,g.l.length<=1000):Calls prog 131 #[pT n] w λr w'=>r=.returned (.int .i64 (jV d))/\Q w w':=by
 obtain⟨sa,P,rfl⟩:=C.form;have HG:=Z C;have HQ:=Z hq;have HSL:=Z N;clear hq C N;go_enter func131,ntmps131;go_wp2;go_loopw[3,4,5]λi _ _ wr=>∃j:Nat,j<=d.length/\i=.int .i64 j/\Q w wr/\∀m(G:m<d.length),m<j->(d[m]).late=falseλi _ _ _=>d.length-(intOf i).toNat;case atStart=>exact⟨0,aT _,rfl,Fr.refl _ _,λm _ h=>by omega⟩
 case round=>
  obtain⟨j,hj,rfl,q,J⟩:=hrel;have H:=Z q;have U:=Z J;have q0:wr.cell? (aD n 0)=some (.slice sa d.length P):=(HQ.o.fr q id).cell 0;clear q J;by_cases A:j<d.length
  .have hji:(j:Int)<(d.length:Int):=om;obtain⟨ga,cpa,sv,M,_,v,l⟩:=(HG.o.keep H.o).at_ A;simp only[Value.slice.injEq,true_and]at M;obtain⟨rfl,rfl⟩:=M;have p:(d[j]).l.length<=1000:=HSL.o _ (bP A);obtain⟨f,z⟩:∃f,f=d[j]:=⟨_,rfl⟩;have LT:Hid (f.late=true->jV d=(j:Nat)):=λh=>Nc A U.o (by rw[<-z];exact h);have LF:Hid (f.late=false->∀m(G:m<d.length),m<j+1->(d[m]).late=false):=λh m G hm2=>by
    by_cases e:m=j;.grind
    exact U.o m G om
   rw[<-z]at l p;clear z;obtain⟨b0,bcp,rfl⟩:=l.form;obtain⟨t,D⟩:∃t,t=f.l.length:=⟨_,rfl⟩;rw[<-D]at v p l;have u:=Z D;have P8:=Z l;have C1:=Z v;clear l v D;go_wp2;generalize wr=w0 at*;go_loopw[4,5]λk _ wr=>∃m:Nat,m<=t/\k=.int .i64 m/\Q w0 wr/\∀i(K:i<f.l.length),i<m->(f.l[i]).late=falseλk _ _=>t-(intOf k).toNat;case atStart=>exact⟨0,aT _,rfl,Fr.refl _ _,λm _ h=>by omega⟩
   case round=>
    obtain⟨m,G,rfl,q,J⟩:=hrel;have q1:wr.cell? (aD n 0)=some (.slice (sA ga) d.length P):=((HQ.o.fr H.o id).fr q id).cell 0;have q2:wr.cell? (aD ga (j*3+1))=some (.slice b0 t bcp):=(q.cell (p:=(aD ga (j*3+1))) (gF C1.o) id).trans C1.o;have R:=Z q;have H2:=Z J;clear q J;by_cases hml:m<t
    .have Hw:(m:Int)<(t:Int):=om;have s:m<f.l.length:=by rw[<-u.o];exact hml
     obtain⟨F,cpb,bv,B,b,o⟩:=sJ.at_ (P8.o.keep R.o) s;rw[<-u.o]at B;simp only[Value.slice.injEq,true_and]at B;obtain⟨rfl,rfl⟩:=B;obtain⟨x,hx⟩:∃x,x=f.l[m]:=⟨_,rfl⟩;have XT:Hid (x.late=true->f.late=true):=λh=>by show f.l.any dz.late=true;exact List.any_eq_true.2 ⟨x,by rw[hx];exact bP s,h⟩
     have XF:Hid (x.late=false->∀i(K:i<f.l.length),i<m+1->(f.l[i]).late=false):=λh i K hi2=>by
      by_cases e:i=m;.simp_all
      exact H2.o i K om
     rw[<-hx]at b o;have W:=Z (Nf x);obtain⟨pa,rfl⟩:=o.p;have k0:wr.cell? (aD F (m*6))=some (.int .i64 (x.sort:Nat)):=b 0 om;have k1:wr.cell? (aD F (m*6+1))=some (.string (sb x.name)):=b 1 om;have k2:wr.cell? (aD F (m*6+2))=some (.int .i64 x.n):=b 2 om;have k3:wr.cell? (aD F (m*6+3))=some (.int .i64 x.af):=b 3 om;have k4:wr.cell? (aD F (m*6+4))=some (.int .i64 x.5):=b 4 om;have k5:wr.cell? (aD F (m*6+5))=some (.pointer pa):=b 5 om;have hso:x.sort<=5:=o.so.2;have T:=Z (V.new wr (pF x (.pointer pa)) 189);clear b o hx;have e0:((x.sort:Nat):Int)=(x.sort:Int):=rfl;have z0:=T.o.cell 0;have z2:=T.o.cell 2;unfold pF at z0 z2 T;simp at z0 z2;go_upto_region 8 with fail;go_cut[51]from 39 to 52λy w9=>y=.bool x.late/\Q wr w9;case first=>cases h5:(((x.sort:Nat):Int)==5)<;>cases h3:(((x.sort:Nat):Int)==3)<;>by_cases hn:x.n<0;all_goals go_wp2;go_meet;exact⟨by rw[W.o,h5,h3];simp[hn],(Fr.refl _ wr).alloc _⟩
     case rest=>
      obtain⟨rfl,L⟩:=hcut;have K9:=Z L;clear L k0 k1 k2 k3 k4 k5 z0 z2;cases S:x.late
      .have XX:=Z (XF.o S);clear S;go_wp2;go_roundw;case rel=>exact⟨m+1,om,by go_num,R.o.trans K9.o,XX.o⟩
       case measure=>simp[intOf];omega
      have a:=Z (LT.o (XT.o S));clear S;go_wp2;go_ret;exact⟨by rw[a.o];rfl,(H.o.trans R.o).trans K9.o⟩
    have Hw:¬(m:Int)<(t:Int):=om;have NL:Hid (f.late=false):=by show f.l.any dz.late=false;rw[List.any_eq_false];intro y hy;obtain⟨i,K,rfl⟩:=gR.1 hy;rw[H2.o i K (by have:=u.o;omega)];simp
    go_wp2;go_roundw;case rel=>exact⟨j+1,om,by go_num,H.o.trans R.o,LF.o NL.o⟩
    case measure=>simp[intOf];omega
  have hji:¬(j:Int)<(d.length:Int):=om;have a:=Z (Nd λm G=>U.o m G om);go_wp2;go_ret;exact⟨by rw[a.o];rfl,H.o⟩
theorem Xi:(prog.info? 195).map (·.size)=some 9:=by kernel_rfl
variable{f z:TypeId}
theorem qU(w:World){c g:Array Value}(i:V w n c f)(l:V w k g z):(binOp .eql 159 (pT n) (pT k)).run prog w=.ok (.bool (n==k)) w:=by
 obtain⟨j,b,m⟩:=Option.map_eq_some_iff.1 Xi;by_cases e:n=k
 .subst e;have h:∀d:Nat,(Op.equalIn (d+1) 159 (pT n) (pT n)).run prog w=.ok true w:=λd=>by simp[Op.equalIn,run_underlying underlying159,sizeOf,typeInfo,b,run_sameAddr_same]
  simp only[binOp];simp[Op.equal,Op.maxDepth,h 9999]
 have a:j.size≠0:=by rw[m];decide
 have h:∀d:Nat,(Op.equalIn (d+1) 159 (pT n) (pT k)).run prog w=.ok false w:=λd=>by simp[Op.equalIn,run_underlying underlying159,sizeOf,typeInfo,b,a,run_sameAddr_other w (a:=aD n 0) (b:=aD k 0) (λx=>e (by injection x)) i l]
 simp only[binOp];simp[Op.equal,Op.maxDepth,h 9999,e]
variable{b:Nat->Nat}{g:List Tv}
theorem Xj(hl:w.ownsRow 0 159 1 c g.length (g.map (cj b)))(hb:∀u∈g,∃cs T,V w (b u.d.af) cs T)(M:g.length<=1048576000000):Calls prog 132 #[c] w λr w'=>∃sv,r=.returned sv/\lI w b (cP b g) sv w':=by
 obtain⟨i0,L,S,U,W⟩:=info_parts pJ;have HI:=Z L;have iK:=Z S;have iz:=Z U;have ja:=Z W;clear L S U W;obtain⟨la,lc,rfl⟩:=X hl;obtain⟨B,G⟩:∃B,B=g.length:=⟨_,rfl⟩;rw[<-G]at hl M⊢;have z:=Z G;have HL:=Z hl;have HB:=Z hb;have J:Hid (lI w b (cP b (g.take 0)) (.slice none 0 0) w):=⟨Fr.refl _ _,⟨rfl,Y ⟨rfl,rfl⟩⟩⟩;clear hl hb G;go_enter func132,ntmps132;go_wp2;go_loopw[3,4,5,6]λo i _ _ wr=>∃j:Nat,j<=B/\i=.int .i64 j/\lI w b (cP b (g.take j)) o wrλ_ i _ _ _=>B-(intOf i).toNat;case atStart=>exact⟨0,aT _,rfl,J.o⟩
 case round=>
  clear J;obtain⟨j,F,rfl,C⟩:=hrel;have OL:=Z (oK b g j (by rw[<-z.o];exact F));have OM:=Z (kE b g j (by rw[<-z.o];exact F));by_cases hjl:j<B
  .have hji:(j:Int)<(B:Int):=om;have t:j<g.length:=by rw[<-z.o];exact hjl
   have ST:=Z (kZ b t);generalize cP b (g.take j)=P at*;obtain⟨o0,oc,R⟩:=X C.o;obtain⟨l,A⟩:∃l,l=P.length:=⟨_,rfl⟩;rw[<-A]at R;subst R;have Xk:l<=j:=by rw[A];exact OL.o
   have h:=Z A;have p:=Z C;obtain⟨u,H⟩:∃u,u=g[j]:=⟨_,rfl⟩;have HBU:Hid (∃cs T,V w (b u.d.af) cs T):=HB.o u (by rw[H];exact bP t);have LR:wr.ownsRow 0 159 1 (.slice la B lc) B (g.map (cj b)):=aS HL.o C.f λ_ _ x=>x;obtain⟨g0,gcp,K,_,_⟩:=LR.form om;simp only[Value.slice.injEq,true_and]at K;obtain⟨rfl,rfl⟩:=K;have CU:Hid (wr.cell? (aD g0 j)=some (pT (b u.d.af))):=by rw[LR.cellAt j om,H];simp[cj,t,Z]
   rw[<-H]at ST;clear C LR H A;go_wp2;generalize wr=y at*;go_loopw[5,6]λd k wx=>∃m:Nat,m<=l/\k=.int .i64 m/\d=.bool ((P.take m).any (c_ b u))/\∃q,wx=y.drewN qλ_ k _=>l-(intOf k).toNat;case atStart=>exact⟨0,aT _,rfl,rfl,0,rfl⟩
   case round=>
    obtain⟨m,hm,rfl,rfl,q,rfl⟩:=hrel;by_cases hml:m<l
    .have Hw:(m:Int)<(l:Int):=om;have v:m<P.length:=by rw[<-h.o];exact hml
     have TK:Hid ((P.take (m+1)).any (c_ b u)=((P.take m).any (c_ b u)||c_ b u P[m])):=by rw[eC v,List.any_append];simp[Z]
     generalize(P.take m).any (c_ b u)=bb at*;have OP:=p.o.o;obtain⟨gp,pcp,D,_,_⟩:=OP.form om;rw[<-h.o]at D;simp only[Value.slice.injEq,true_and]at D;obtain⟨rfl,rfl⟩:=D;have c1:y.cell? (aD gp m)=some (.pointer (some ⟨b (P[m]).d.af,0,none⟩)):=by rw[h.o]at OP;rw[OP.cellAt m om];simp[cj,v]
     have c2:=CU.o;obtain⟨cs1,T1,b1⟩:=HB.o _ (OM.o _ (bP v));obtain⟨cs2,T2,b2⟩:=HBU.o;have hcmp:∀n,(binOp .eql 159 (.pointer (some ⟨b (P[m]).d.af,0,none⟩)) (pT (b u.d.af))).run prog ((y.drewN q).drewN n)=.ok (.bool (b (P[m]).d.af==b u.d.af)) ((y.drewN q).drewN n):=λn=>qU _ ((b1.fr (p.o.f.drewN q) id).fr ((Fr.refl (λ_=>False) _).drewN n) id) ((b2.fr (p.o.f.drewN q) id).fr ((Fr.refl (λ_=>False) _).drewN n) id);have aii:∀n,(binOp .eql 159 (.pointer (some ⟨b (P[m]).d.af,0,none⟩)) (pT (b u.d.af))).run prog (y.drewN n)=.ok (.bool (b (P[m]).d.af==b u.d.af)) (y.drewN n):=λn=>qU _ (b1.fr (p.o.f.drewN n) id) (b2.fr (p.o.f.drewN n) id);have SA:Hid (c_ b u P[m]=(b (P[m]).d.af==b u.d.af)):=Z rfl;generalize b (P[m]).d.af=p1 at*;generalize c_ b u P[m]=sb at*;clear OP b1 b2;have GO:Hid ((P.take (m+1)).any (c_ b u)=(bb||(p1==b u.d.af))):=by rw[TK.o,SA.o];exact Z rfl
     cases bb;rotate_left;all_goals
      go_wp2;go_quiet(fail);go_wp2;go_roundw;case rel=>exact⟨m+1,om,by go_num,by rw[GO.o];rfl,_,rfl⟩
      case measure=>simp[intOf];omega
    have Hw:¬(m:Int)<(l:Int):=om;have N:m=l:=om;have ET:P.take m=P:=by rw[N,h.o];exact bX
    rw[ET];generalize P.any (c_ b u)=bb at*;clear N ET;cases bb
    .have e:(y.drewN q).ownsRow w.heap.size 159 1 (.slice o0 l oc) l (P.map (cj b)):=by have:=p.o.o;rw[<-h.o]at this;exact aV this λ_ _=>rfl
     have c2:(y.drewN q).cell? (aD g0 j)=some (pT (b u.d.af)):=CU.o;have F4:=Z (p.o.drewN q).f;clear p CU;generalize y.drewN q=w4 at*;have hsz:w.heap.size<=w4.heap.size:=F4.o.size;go_wp2_with(at_builtin;refine wpList_append_own _ rfl _ _ 191 rfl w.heap.size 159 i0 _ 1 8 underlying191 HI.o iK.o iz.o ja.o rfl de _ _ _ rfl (e.alloc _) (aD w4.heap.size 0) 1 1 [(pT (b u.d.af))] rfl rfl λj u F=>by match j,F with|0,F=>(simp at F;subst F;simp[Addr.add]) λu H=>by simp at H;subst H;rfl (by unfold maxLen;omega) om (by simp;omega) ?_);intro v' w5 f s _;have S5:Hid (lI w b (cP b (g.take (j+1))) v' w5):=by rw[ST.o,aa si];refine⟨(F4.o.alloc _).grown s λq hq=>Y (e.lt q hq).1,?_⟩;rw[fC,cG,<-h.o];exact f
     obtain⟨b5,k5,rfl⟩:=X f;clear f s e;go_wp2;go_roundw;case rel=>exact⟨j+1,om,by go_num,S5.o⟩
     case measure=>simp[intOf];omega
    have a:Hid (lI w b (cP b (g.take (j+1))) (.slice o0 l oc) (y.drewN q)):=by rw[ST.o,ae rfl];exact p.o.drewN q
    go_wp2;go_roundw;case rel=>exact⟨j+1,om,by go_num,a.o⟩
    case measure=>simp[intOf];omega
  have hji:¬(j:Int)<(B:Int):=om;have a:Hid (cP b (g.take j)=cP b g):=by rw[show j=g.length by have:=z.o;omega,bX];exact Z rfl
  rw[a.o]at C;have p:=Z C;obtain⟨o0,oc,rfl⟩:=X C.o;clear C;go_wp2;go_ret;exact⟨_,rfl,p.o⟩
variable{o:Nat->Prop}{t:Tv->Prop}{r:Tv}
theorem Ng(ht:RX w b o n t)(hD:∀k,o k->k<w.heap.size)(hl:w.ownsRow 0 159 1 c g.length (g.map (cj b)))(hs:∀u∈g,t u)(hv:t r)(hlim:g.length<=1048576000000)(hfr:∀u,t u->u.d.af<=4000000):Calls prog 133 #[c,(pT (b r.d.af))] w λh w'=>h=.returned (js b (kg b r g))/\Q w w':=by
 obtain⟨la,lc,rfl⟩:=X hl;obtain⟨F,R⟩:∃F,F=g.length:=⟨_,rfl⟩;rw[<-R]at hl hlim⊢;have T:=Z R;have HL:=Z hl;have U:=Z ht;have HD:=Z hD;have HS:=Z hs;have HV:=Z hv;have HF:=Z hfr;clear hl hs hv ht hD R hfr;go_enter func133,ntmps133;go_wp2;go_loopw[5,6,7,8]λe i _ _ wr=>∃j:Nat,j<=F/\i=.int .i64 j/\e=js b (kg b r (g.take j))/\Q w wrλ_ i _ _ _=>F-(intOf i).toNat;case atStart=>exact⟨0,aT _,rfl,rfl,Fr.refl _ _⟩
 case round=>
  obtain⟨j,hj,rfl,rfl,N⟩:=hrel;by_cases hjl:j<F
  .have hji:(j:Int)<(F:Int):=om;have s:j<g.length:=by rw[<-T.o];exact hjl
   have ST:=Z (oL b r s);have OM:=Z (nG b r g j om);generalize kg b r (g.take j)=A at*;obtain⟨u,hu⟩:∃u,u=g[j]:=⟨_,rfl⟩;have K:Hid (t u):=HS.o u (by rw[hu];exact bP s);have LR:wr.ownsRow 0 159 1 (.slice la F lc) F (g.map (cj b)):=aS HL.o N λ_ _ x=>x;obtain⟨g0,gcp,R',_,_⟩:=LR.form om;simp only[Value.slice.injEq,true_and]at R';obtain⟨rfl,rfl⟩:=R';have c0:wr.cell? (aD g0 j)=some (pT (b u.d.af)):=by rw[LR.cellAt j om,hu];simp[cj,s]
   rw[<-hu]at ST;have CU:=Z c0;have W:=Z N;clear LR hu N;go_wp2_with fail;refine(Uh lr 10 u wr ((U.o.keep HD.o W.o).rt u K.o) (λk N=>aI (HD.o k N) W.o.size) (U.o.len u K.o)).mono ?_;rintro h z⟨sv,rfl,hV⟩;have SA:=Z λx hx=>sX U.o.Bt 10 u x K.o hx;have LN:=Z (U.o.len u K.o);generalize ai 10 u=P at*;obtain⟨o0,oc,M9⟩:=X hV.o;obtain⟨J,D⟩:∃J,J=P.length:=⟨_,rfl⟩;rw[<-D]at M9;subst M9;have Xk:J<=4000000:=by rw[D];exact LN.o
   have B:=Z D;have VV:=Z hV;have K0:=Z (W.o.trans hV.f);have T0:=Z (U.o.keep HD.o K0.o);clear hV D c0;go_wp2;go_loopw[5,8]λe k wx=>∃m:Nat,m<=J/\k=.int .i64 m/\e=js b (jn u A ((P.take m).any (c_ b r)))/\∃q,wx=z.drewN qλ_ k _=>J-(intOf k).toNat;case atStart=>exact⟨0,aT _,rfl,by unfold jn;simp,0,rfl⟩
   case round=>
    obtain⟨m,hm,rfl,rfl,q,rfl⟩:=hrel;by_cases hml:m<J
    .have Hw:(m:Int)<(J:Int):=om;have v:m<P.length:=by rw[<-B.o];exact hml
     have l:Hid (jn u A ((P.take (m+1)).any (c_ b r))=jn u (jn u A ((P.take m).any (c_ b r))) (b (P[m]).d.af==b r.d.af)):=by rw[Aj,eC v,List.any_append];simp[c_,Z]
     have CM:Hid (∀x,jn u A ((P.take m).any (c_ b r))=some x->x∈g\/x=u):=λx hx=>by
      unfold jn at hx;split at hx;.simp_all
      exact Y (OM.o x hx)
     have OP:=VV.o.o;obtain⟨gp,pcp,M,_,_⟩:=OP.form om;rw[<-B.o]at M;simp only[Value.slice.injEq,true_and]at M;obtain⟨rfl,rfl⟩:=M;have c1:z.cell? (aD gp m)=some (.pointer (some ⟨b (P[m]).d.af,0,none⟩)):=by rw[B.o]at OP;rw[OP.cellAt m om];simp[cj,v]
     have c0:z.cell? (aD g0 j)=some (pT (b u.d.af)):=(VV.o.f.cell (p:=aD g0 j) (gF CU.o) id).trans CU.o;obtain⟨_,b1⟩:=(T0.o.rt _ (SA.o _ (bP v))).vc;obtain⟨_,b2⟩:=(T0.o.rt _ HV.o).vc;obtain⟨_,b3⟩:=(T0.o.rt _ K.o).vc;have u5:z.cell? (aD (b u.d.af) 5)=some (.int .i64 (u.d.af:Nat)):=b3.b.cell 5;have hcmp:∀f,(binOp .eql 159 (.pointer (some ⟨b (P[m]).d.af,0,none⟩)) (pT (b r.d.af))).run prog (z.drewN f)=.ok (.bool (b (P[m]).d.af==b r.d.af)) (z.drewN f):=λf=>qU _ (b1.b.fr ((Fr.refl (λ_=>False) z).drewN f) id) (b2.b.fr ((Fr.refl (λ_=>False) z).drewN f) id);have fu:=HF.o u K.o;generalize jn u A ((P.take m).any (c_ b r))=C at*;generalize b (P[m]).d.af=p1 at*;obtain⟨d1,L⟩:∃d,(p1==b r.d.af)=d:=⟨_,rfl⟩;simp only[L]at hcmp;rw[L]at l;clear L OP b1 b2 b3;have G:Hid (∀f,∃q',z.drewN f=z.drewN q'):=λf=>⟨f,rfl⟩;cases d1
     .have a:Hid (jn u A ((P.take (m+1)).any (c_ b r))=C):=by rw[l.o,IM];exact Z rfl
      clear l CM;obtain⟨p,S⟩:∃p,.pointer p=js b C:=by cases C<;>exact⟨_,rfl⟩
      rw[<-S];have H:Hid (.pointer p=js b (jn u A ((P.take (m+1)).any (c_ b r)))):=by rw[a.o];exact S
      clear S a;go_wp2;go_quiet(fail);go_wp2;go_roundw;case rel=>exact⟨m+1,om,by go_num,H.o,_,rfl⟩
      case measure=>simp[intOf];omega
     cases C with|none=>
      have H:Hid ((pT (b u.d.af))=js b (jn u A ((P.take (m+1)).any (c_ b r)))):=by rw[l.o,IN];exact Z rfl
      clear l CM;unfold js;go_wp2;go_quiet(fail);go_wp2;go_roundw;case rel=>exact⟨m+1,om,by go_num,H.o,_,rfl⟩
      case measure=>simp[intOf];omega|some x=>
      have SX:t x:=by
       rcases CM.o x rfl with y|y;.exact HS.o x y
       rw[y];exact K.o
      obtain⟨_,b4⟩:=(T0.o.rt _ SX).vc;have x5:z.cell? (aD (b x.d.af) 5)=some (.int .i64 (x.d.af:Nat)):=b4.b.cell 5;have fx:=HF.o x SX;clear b4 CM;by_cases hux:u.d.af<x.d.af;focus
       have H:Hid ((pT (b u.d.af))=js b (jn u A ((P.take (m+1)).any (c_ b r)))):=by rw[l.o,CQ hux];exact Z rfl
       have hui:((u.d.af:Nat):Int)<(x.d.af:Nat):=om
      rotate_left;focus
       have H:Hid ((pT (b x.d.af))=js b (jn u A ((P.take (m+1)).any (c_ b r)))):=by rw[l.o,CT hux];exact Z rfl
       have hui:decide (((u.d.af:Nat):Int)<(x.d.af:Nat))=false:=by simp;omega
      all_goals
       clear l;unfold js cj;go_wp2;go_quiet(fail);go_wp2;go_roundw;case rel=>exact⟨m+1,om,by go_num,H.o,_,rfl⟩
       case measure=>simp[intOf];omega
    have Hw:¬(m:Int)<(J:Int):=om;have ET:P.take m=P:=by rw[show m=P.length by have:=B.o;omega];exact bX
    rw[ET,<-ST.o];clear ET;obtain⟨p,S⟩:∃p,.pointer p=js b (kg b r (g.take (j+1))):=by cases kg b r (g.take (j+1))<;>exact⟨_,rfl⟩
    rw[<-S];have H:=Z S;clear S;go_wp2;go_roundw;case rel=>exact⟨j+1,om,by go_num,H.o,K0.o.drewN q⟩
    case measure=>simp[intOf];omega
  have hji:¬(j:Int)<(F:Int):=om;have a:Hid (kg b r (g.take j)=kg b r g):=by rw[show j=g.length by have:=T.o;omega,bX];exact Z rfl
  rw[a.o];have W:=Z N;clear N;go_wp2;go_ret;exact⟨rfl,W.o⟩
def Ym(A:Nat->Nat)(x:Td):List Value:=[cj A x.v,.int .i64 (x.n:Nat),.int .i64 x.ab]
variable{l:List Value}
theorem Sj{o:Nat}(h:w.ownsRow n f m (.slice (sA k) i j) i l)(v:Value):(w.setCell (aD k o) v).ownsRow n f m (.slice (sA k) i j) i (l.set o v):=by
 have e:=h.1;rcases h.2 with⟨x,_⟩|⟨u,b,a,c,g,p,q,r,s,t⟩;.cases x
 simp only[Value.slice.injEq,Option.some.injEq,Addr.mk.injEq,and_true,true_and]at c;obtain⟨rfl,rfl⟩:=c;have d:V w k a f:=p;exact⟨by rw[List.length_set];exact e,I ⟨k,j,_,rfl,g,d.set o v,q,r,by simp[s],by simp only[Array.toList_setIfInBounds,List.take_set,t]⟩⟩
theorem uY{e:Type}(f:e->List Value)(c:Nat)(d:∀a,(f a).length=c):∀(l:List e)(k i:Nat)(b:k<l.length)(a:e)(v:Value),i<c->f a=(f l[k]).set i v->(l.flatMap f).set (k*c+i) v=(l.set k a).flatMap f|[],k,_,b,_,_,_,_=>by cases b|x::r,0,i,_,a,v,h,g=>by grind|x::r,k+1,i,b,a,v,h,g=>by simp only[List.flatMap_cons,List.set_cons_succ];rw[List.set_append_right _ _ (by rw[d,Nat.succ_mul];omega),d,show(k+1)*c+i-c=k*c+i by rw[Nat.succ_mul];omega];rw[uY f c d r k i (by simpa using b) a v h g]
structure mJ(W:World)(A:Nat->Nat)(l:List Td)(sv:Value)(w':World):Prop where
 f:Q W w'
 o:w'.ownsRow W.heap.size 225 3 sv l.length (l.flatMap (Ym A))
variable{a:List Td}
theorem mJ.drewN(h:mJ w b a c v)(k:Nat):mJ w b a c (v.drewN k):=⟨h.f.drewN k,aV h.o λ_ _=>rfl⟩
theorem mJ.keep{w':World}(h:mJ w b a c w')(k:Q w' v):mJ w b a c v:=⟨h.f.trans k,aS h.o k λ_ _ x=>x⟩
theorem mJ.put{f:World}{c d k:Nat}(h:mJ w b a (.slice (sA n) c d) f)(o:c=a.length)(m:k<a.length){i:Nat}(l:i<3){y:Td}{v:Value}(hy:Ym b y=(Ym b a[k]).set i v):mJ w b (a.set k y) (.slice (sA n) c d) (f.setCell (aD n (k*3+i)) v):=by have j:w.heap.size<=n:=(h.o.lt n rfl).1;refine⟨h.f.setCell (aD n (k*3+i)) (I j) v,?_⟩;have e:=h.o;rw[<-o]at e;have g:=Sj (o:=k*3+i) e v;rw[uY (Ym b) 3 (λ_=>rfl) a k i m y v l hy]at g;grind
theorem mJ.abf{c k:Nat}(h:mJ w b a (.slice (sA n) c i) v)(e:c=a.length)(d:k<a.length)(y:Td):mJ w b (a.set k y) (.slice (sA n) c i) (((v.setCell (aD n (k*3)) (pT (b y.v.d.af))).setCell (aD n (k*3+1)) (.int .i64 (y.n:Nat))).setCell (aD n (k*3+2)) (.int .i64 y.ab)):=by have g:=h.put e d (i:=0) om (y:=⟨y.v,a[k].n,a[k].ab⟩) (v:=(pT (b y.v.d.af))) rfl;have j:=g.put (k:=k) (i:=1) (y:=⟨y.v,y.n,a[k].ab⟩) (v:=.int .i64 (y.n:Nat)) (by rw[List.length_set];exact e) (by rw[List.length_set];exact d) om (by rw[List.getElem_set_self];rfl);have f:=j.put (k:=k) (i:=2) (y:=y) (v:=.int .i64 y.ab) (by rw[List.length_set,List.length_set];exact e) (by rw[List.length_set,List.length_set];exact d) om (by rw[List.getElem_set_self];rfl);rw[List.set_set,List.set_set]at f;exact f
theorem mJ.cell{c:Nat}(h:mJ w b a (.slice (sA n) k c) v)(g:k=a.length)(f:j<a.length){i:Nat}(e:i<3):v.cell? (aD n (j*3+i))=(Ym b a[j])[i]?:=by have d:=h.o;rw[<-g]at d;rw[d.cellAt (j*3+i) om];exact jw (Ym b) 3 (λ_=>rfl) a j i f e
theorem mJ.fz(h:mJ w b a (.slice (sA n) k i) v)(o:Nat):v.frozen? (aD n o)=false:=by
 rcases h.o.2 with⟨x,_⟩|⟨j,d,c,e,_,g,_⟩;.cases x
 simp only[Value.slice.injEq,Option.some.injEq,Addr.mk.injEq,and_true]at e;obtain⟨rfl,_,_⟩:=e;have f:V v n c _:=g;exact f.fz o
theorem mJ.form(h:mJ w b a c v)(i:0<a.length):∃g d,c=.slice (sA g) a.length d/\w.heap.size<=g:=by obtain⟨g,d,e,f,_⟩:=h.o.form i;exact⟨g,d,e,f⟩
def inc(A:Nat->Nat)(v:Tv)(P:List Td)(m:Nat):List Td:=(P.take m).map (vt A v)++P.drop m
theorem qV(A:Nat->Nat)(v:Tv)(P:List Td)(m:Nat):(inc A v P m).length=P.length:=by grind[inc]
theorem wT(A:Nat->Nat)(v:Tv)(b:n<a.length)(h:n<(inc A v a n).length):(inc A v a n)[n]=a[n]:=by grind[inc,vt]
theorem zR(A:Nat->Nat)(v:Tv)(b:n<a.length):inc A v a (n+1)=(inc A v a n).set n (vt A v a[n]):=by unfold inc;rw[List.set_append_right _ _ (by simp;omega),eC b,fC,gh];congr 1;rw[show n-((a.take n).map (vt A v)).length=0 by simp;omega,List.drop_eq_getElem_cons b];rfl
theorem Nh(A:Nat->Nat)(v:Tv)(b:n<a.length)(h:vs A v a[n]=false):inc A v a (n+1)=inc A v a n:=by
 rw[zR A v b,show vt A v a[n]=a[n]by unfold vt;rw[aa (by simp[h])]];have c:n<(inc A v a n).length:=by rw[qV];exact b
 exact(gV ((inc A v a n).set n) (wT A v b c).symm).trans (List.set_getElem_self c)
theorem Sl(A:Nat->Nat)(v:Tv)(P:List Td):inc A v P P.length=P.map (vt A v):=by grind[inc]
theorem Ni(A:Nat->Nat)(v:Tv)(h:a.any (vs A v)=false):a.map (vt A v)=a:=by
 rw[List.any_eq_false]at h;have:∀x∈a,vt A v x=id x:=λx b=>by unfold vt;rw[aa (h x b)];rfl
 rw[List.map_congr_left this,List.map_id]
variable{p:Option Addr}
theorem Nj(h:w.ownsRow n f m (.slice p k j) k l)(e:i<=k)(u:0<k):w.ownsRow n f m (.slice p i j) i (l.take (i*m)):=by
 have t:=h.1;have g:i*m<=k*m:=Nat.mul_le_mul_right _ e;rcases h.2 with⟨_,x⟩|⟨d,b,a,c,o,q,v,r,s,y⟩;.omega
 simp only[Value.slice.injEq,true_and]at c;obtain⟨rfl,rfl⟩:=c;refine⟨by rw[List.length_take];omega,I ⟨d,j,a,rfl,o,q,om,r,s,?_⟩⟩;grind
theorem iX.pre(h:iX w (.slice p d.length n) d)(c:k<d.length):iX w (.slice p k n) (d.take k):=by
 obtain⟨f,g,i,j⟩:=h;have o:f.length=d.length:=by rw[<-g,eY]
 refine⟨f.take k,by rw[List.map_take,g],?_,λb m=>j b (List.mem_of_mem_take m)⟩;have e:(f.take k).flatMap tH=(f.flatMap tH).take (k*3):=by
  have a:∀(l:List (Sg×Value×ByteArray))(k:Nat),k<=l.length->(l.take k).flatMap tH=(l.flatMap tH).take (k*3):=by
   intro l
   induction l with|nil=>
    intro k c;have:k=0:=by simpa using c
    subst this; rfl|cons x r q=>intro k c;cases k with|zero=>rfl|succ k=>grind[tH]
  exact a f k om
 rw[e,List.length_take,Nat.min_eq_left (mR c)];exact Nj i (mR c) om
theorem Tryz.Nk:(prog.info? 225).map (λi=>(i.zero,i.size,i.bytes))=some (some (.agg #[.pointer none,.int .i64 0,.int .i64 0]),3,24):=by kernel_rfl
def H6(x:Td):List Value:=j9 x.v.d.path x.v.d.af x.v.d.to x.n
theorem So(h:n<a.length):(a.take (n+1)).flatMap H6=(a.take n).flatMap H6++H6 a[n]:=by rw[eC h,iy,kD,List.flatMap_nil,gz]
structure MtR(w0:World)(l:List Td)(k:Nat)(o:Value)(w':World):Prop where
 f:Q w0 w'
 o:w'.ownsRow w0.heap.size 44 4 o k ((l.take k).flatMap H6)
structure TlE(w:World)(A:Nat->Nat)(D:Nat->Prop)(hi:Nat)(S:Tv->Prop)(gq:Nat)(sl:Value)(xs:List Sg)(t:Tv):Prop where
 q:V w gq #[sl] 148
 e:NE w A D hi S sl xs
 ts:S t
 gl:xs.length<=1000
 sl:∀g∈xs,g.l.length<=1000
 lim:∀i,i<=xs.length->(aq (xs.take i) [t]).length<=1048576000000
 fr:∀u,S u->u.d.af<=4000000/\u.d.cl<=4000000
 ins:0<=jV xs->∀v∈aq xs [t],(kg A v (cP A (aq (xs.take (ay xs)) [t]))).isSome=true
def TlP(w:World)(A:Nat->Nat)(b:List Sg)(t:Tv)(r:Ending)(a:World):Prop:=∃sv l,r=.returned sv/\Q w a/\a.ownsRow w.heap.size 44 4 sv l.length (l.flatMap H6)/\l.Perm (tf A (j7 A b t) (aq b [t]))/\Ord l l.length
theorem EP(h:TlE w b o n t k c d r):Calls prog 101 #[pT k,(pT (b r.d.af))] w (TlP w b d r):=by
 obtain⟨i0,hi',hz0,hz1,eE⟩:=info_parts Tryz.Nk;have HI:=Z hi';have iK:=Z hz0;have iz:=Z hz1;have ja:=Z eE;clear hi' hz0 hz1 eE;obtain⟨sa,scp,rfl⟩:=h.e.sg.form;have K:=Z h;clear h;go_enter func101,ntmps101;go_wp2_with fail;refine mh (Xh K.o.q K.o.e.sg K.o.gl K.o.sl) λw1 K1=>?_;obtain⟨lt,hlt⟩:∃lt,lt=jV d:=⟨_,rfl⟩;rw[<-hlt];have Rp:=Z hlt;clear hlt;have q0:w1.cell? (aD k 0)=some (.slice sa d.length scp):=(K.o.q.fr K1.o id).cell 0;go_upto_if 24 with fail;obtain⟨lb,hlb⟩:∃lb,decide (0<=lt)=lb:=⟨_,rfl⟩;rw[hlb];have TA:=Z hlb;clear hlb;go_cut[7]from 25λs7 wc=>Q w wc/\∃a C z,s7=.slice a C z/\(0<=lt->∃L,L=cP b (aq (d.take (ay d)) [r])/\C=L.length/\wc.ownsRow 0 159 1 s7 L.length (L.map (cj b))/\(∀u∈L,t u));case first=>
  cases lb;.go_wp2;go_meet;exact⟨K1.o,none,0,0,rfl,λh=>by have:=TA.o;simp at this;omega⟩
  have h0:0<=lt:=by have:=TA.o;simpa using this
  obtain⟨hlx,hle⟩:=oz (by rw[<-Rp.o];exact h0);rw[<-Rp.o]at hle;obtain⟨hn,hhn⟩:∃hn,hn=ay d:=⟨_,rfl⟩;rw[<-hhn]at hle hlx;have nP:=K.o.gl;have hli:(hn:Int)<=(scp:Int):=by
   have:=K.o.e.sg;obtain⟨ps,_,ho,_⟩:=this;obtain⟨g,cap,e1,_,_⟩:=ho.form om;rcases ho.2 with⟨x,_⟩|⟨g',cap',cur,y1,_,_,y4,_⟩;.simp only[Value.slice.injEq]at x;omega
   simp only[Value.slice.injEq,true_and]at y1;obtain⟨_,rfl⟩:=y1;omega
  have hl0:(0:Int)<=(hn:Int):=om;have NE1:=Z (K.o.e.keep K1.o);have NEP:Hid (NE w1 b o n t (.slice sa hn scp) (d.take hn)):=⟨NE1.o.tr,NE1.o.sg.pre hlx,NE1.o.dl⟩;have LP:Hid (∀i,i<=(d.take hn).length->(aq ((d.take hn).take i) [r]).length<=1048576000000):=λi n=>by rw[List.length_take]at n;rw[List.take_take];exact K.o.lim _ om
  have GP:Hid ((d.take hn).length<=1000):=by show _<=_;rw[List.length_take];omega
  have SP:Hid (∀g∈d.take hn,g.l.length<=1000):=λg hg=>K.o.sl g (List.mem_of_mem_take hg);subst hle;have HHN:=Z hhn;clear h0 hhn;go_wp2_with fail;refine(wR NEP.o K.o.ts GP.o SP.o LP.o).mono ?_;rintro F w2⟨sv,rfl,hV⟩;have VV:=Z hV;have R_:Hid (∀v∈aq (d.take hn) [r],t v):=mb K.o.e.tr.Bt _ _ (λu hu=>by rw[dy.1 hu];exact K.o.ts);have K2:=Z (K1.o.trans hV.f);obtain⟨n0,nc,rfl⟩:=X hV.o;clear hV;have T2:=Z (K.o.e.tr.keep K.o.e.dl K2.o);have LIM:=Z (K.o.lim hn om);clear q0 hli hl0 nP;go_wp2_with fail;refine(Xj (fR VV.o.o) (λu hu=>by obtain⟨_,p⟩:=(T2.o.rt u (R_.o u hu)).vc;exact⟨_,_,p.b⟩) LIM.o).mono ?_;rintro F w3⟨sv,rfl,hV⟩;have tu:Hid (Q w w3/\∃L,L=cP b (aq (d.take (ay d)) [r])/\lI w2 b L sv w3/\∀u∈L,t u):=⟨K2.o.trans hV.f,_,by rw[HHN.o],hV,λu hu=>R_.o u (by have:=kE b (aq (d.take hn) [r]) _ lr u (by rw[bX];exact hu);exact this)⟩;obtain⟨o0,oc,rfl⟩:=X hV.o;obtain⟨ol,hol⟩:∃ol,ol=(cP b (aq (d.take hn) [r])).length:=⟨_,rfl⟩;rw[<-hol];rw[<-hol]at tu;have Il:=Z hol;clear hV hol;go_wp2;go_meet;obtain⟨r1,L,r2,r3,r4⟩:=tu.o;exact⟨r1,_,_,_,rfl,λ_=>⟨L,r2,by rw[Il.o,r2,HHN.o],fR r3.o,r4⟩⟩
 case rest=>
 obtain⟨kc,ha,hn,hc,rfl,wX⟩:=hcut;have KC:=Z kc;have HHD:=Z wX;have NEC:=Z (K.o.e.keep kc);have q1:wc.cell? (aD k 0)=some (.slice sa d.length scp):=(K.o.q.fr kc id).cell 0;have LP:Hid (∀i,i<=d.length->(aq (d.take i) [r]).length<=1048576000000):=K.o.lim;clear kc wX K1 q0;go_wp2_with fail;refine(wR NEC.o K.o.ts K.o.gl K.o.sl LP.o).mono ?_;rintro F w3⟨sv,rfl,hV⟩;have LL:Hid ((aq d [r]).length<=1048576000000):=by have:=K.o.lim d.length lr;rw[bX]at this;exact this
 have R_:Hid (∀v∈aq d [r],t v):=mb K.o.e.tr.Bt _ _ (λu hu=>by rw[dy.1 hu];exact K.o.ts);have K3:=Z (KC.o.trans hV.f);obtain⟨N,hN⟩:∃N,N=aq d [r]:=⟨_,rfl⟩;rw[<-hN]at LL R_ hV;have Ui:=Z hN;obtain⟨n0,nc,K'⟩:=X hV.o;obtain⟨nl,hnl⟩:∃nl,nl=N.length:=⟨_,rfl⟩;rw[<-hnl]at K';subst K';have NR:Hid (w3.ownsRow 0 159 1 (.slice n0 nl nc) N.length (N.map (cj b))):=fR hV.o;have Xl:=Z hnl;have HDR:Hid (0<=lt->∃L,L=cP b (aq (d.take (ay d)) [r])/\hn=L.length/\w3.ownsRow 0 159 1 (.slice ha hn hc) L.length (L.map (cj b))/\(∀u∈L,t u)):=λh=>by obtain⟨L,h1,h2,h3,h4⟩:=HHD.o h;exact⟨L,h1,h2,aS h3 hV.f λ_ _ x=>x,h4⟩
 have T3:=Z (K.o.e.tr.keep K.o.e.dl K3.o);clear hV hN hnl HHD NEC LP q1;have T0:Hid (mJ w3 b (tf b (j7 b d r) (N.take 0)) (.slice none 0 0) w3):=⟨Fr.refl _ _,⟨rfl,Y ⟨rfl,rfl⟩⟩⟩;obtain⟨hf,hhf⟩:∃hf,hf=j7 b d r:=⟨_,rfl⟩;rw[<-hhf]at T0;have HHF:=Z hhf;clear hhf;go_wp2;go_loopw[5,9,10,11,12,13]λl i _ _ _ _ wr=>∃j:Nat,j<=nl/\i=.int .i64 j/\mJ w3 b (tf b hf (N.take j)) l wrλ_ i _ _ _ _ _=>nl-(intOf i).toNat;case atStart=>exact⟨0,aT _,rfl,T0.o⟩
 case round=>
  clear T0;obtain⟨j,hj,rfl,T⟩:=hrel;have TL:=Z (CV b hf N j (by rw[<-Xl.o];exact hj));have FRH:Hid (∀v∈N,t (hf v)/\(0<=lt->kg b v (cP b (aq (d.take (ay d)) [r]))=some (hf v))/\(¬0<=lt->hf v=v)):=λv hv=>by
   rw[HHF.o];unfold j7;rw[<-Rp.o];by_cases h0:0<=lt;.rw[ae h0];have hs:=K.o.ins (by rw[<-Rp.o];exact h0) v (by rw[<-Ui.o];exact hv);obtain⟨u,hu⟩:=Option.isSome_iff_exists.1 hs;rw[hu];obtain⟨L,h1,_,_,h4⟩:=HDR.o h0;have hm:=nG b v L _ lr u (by rw[bX,h1];exact hu);grind
   rw[aa h0];exact⟨R_.o v hv,λh=>absurd h h0,λ_=>rfl⟩
  have Xm:=Z (IQ (A:=b) (h:=hf) (S:=t) (B:=4000000) R_.o (λv hv=>(K.o.fr _ (FRH.o v hv).1).2) j (by rw[<-Xl.o];exact hj));by_cases hjl:j<nl
  .have hji:(j:Int)<(nl:Int):=om;have H:j<N.length:=by rw[<-Xl.o];exact hjl
   have ST:=Z (nH b hf H);generalize tf b hf (N.take j)=P at*;obtain⟨o0,oc,M9⟩:=X T.o;obtain⟨J,hpl⟩:∃J,J=P.length:=⟨_,rfl⟩;rw[<-hpl]at M9;subst M9;have Xk:J<=j:=by rw[hpl];exact TL.o
   have Ob:=Z hpl;have HT:=Z T;obtain⟨v,hv⟩:∃v,v=N[j]:=⟨_,rfl⟩;have hvm:v∈N:=by rw[hv];exact bP H
   have SV:=Z (R_.o v hvm);have HV:=Z (FRH.o v hvm);have LR:wr.ownsRow 0 159 1 (.slice n0 nl nc) N.length (N.map (cj b)):=aS NR.o T.f λ_ _ x=>x;rw[<-Xl.o]at LR;obtain⟨g0,gcp,R',_,_⟩:=LR.form om;simp only[Value.slice.injEq,true_and]at R';obtain⟨rfl,rfl⟩:=R';have c0:wr.cell? (aD g0 j)=some (pT (b v.d.af)):=by rw[LR.cellAt j om,hv];simp[cj,H]
   rw[<-hv]at ST;clear LR hv hvm hpl T TL FRH;go_upto_if 52 with fail;rw[TA.o];go_cut[11]from 53 to 94λs11 wd=>s11=(pT (b (hf v).d.af))/\Q wr wd;case first=>
    cases lb;.have f:Hid (hf v=v):=HV.o.2.2 (by have:=TA.o;simpa using this);go_wp2;go_meet;exact⟨by rw[f.o],Fr.refl _ _⟩
    have h0:0<=lt:=by have:=TA.o;simpa using this
    obtain⟨L,h1,h2,h3,h4⟩:=HDR.o h0;have f:Hid (kg b v L=some (hf v)):=by rw[h1];exact Z (HV.o.2.1 h0)
    have Vn:Hid (L.length<=1048576000000):=by have hx:=(oz (by rw[<-Rp.o];exact h0)).1;have k1:=oK b (aq (d.take (ay d)) [r]) _ lr;rw[bX]at k1;have k2:=K.o.lim (ay d) (mR hx);show _<=_;rw[h1];omega
    have TW:=Z (T3.o.keep (λB hk=>aI (K.o.e.dl B hk) K3.o.size) HT.o.f);have R3:=Z (aS h3 HT.o.f λ_ _ x=>x);have S4:=Z h4;clear h1 h2 h3 h4 h0;go_wp2_with fail;refine mh (Ng TW.o (λB hk=>aI (aI (K.o.e.dl B hk) K3.o.size) HT.o.f.size) R3.o S4.o SV.o Vn.o λu hu=>(K.o.fr u hu).1) λw4 K4=>?_;rw[f.o];unfold js cj;go_wp2;go_meet;exact⟨rfl,K4.o⟩
   case rest=>
   obtain⟨rfl,kd⟩:=hcut;have TD:=Z (HT.o.keep kd);have K4:=Z (HT.o.f.trans kd);have TR4:=Z (T3.o.keep (λB hk=>aI (K.o.e.dl B hk) K3.o.size) K4.o);obtain⟨_,bh⟩:=(TR4.o.rt _ HV.o.1).vc;have HCL:=Z bh;have I0:=Z (show mJ w3 b (inc b v P 0) (.slice o0 J oc) _ from TD.o);clear kd bh c0;go_wp2;go_loopw[12,13]λp B wx=>∃m:Nat,m<=J/\B=.int .i64 m/\p=.bool ((P.take m).any (vs b v))/\mJ w3 b (inc b v P m) (.slice o0 J oc) wxλ_ B _=>J-(intOf B).toNat;case atStart=>exact⟨0,aT _,rfl,rfl,I0.o⟩
   case round=>
    clear I0;obtain⟨m,hm,rfl,rfl,hI⟩:=hrel;have afm:nl<=1048576000000:=by rw[Xl.o];exact LL.o
    by_cases hml:m<J
    .have Hw:(m:Int)<(J:Int):=om;have G:m<P.length:=by rw[<-Ob.o];exact hml
     have TK:Hid ((P.take (m+1)).any (vs b v)=((P.take m).any (vs b v)||(b (P[m]).v.d.af==b v.d.af))):=by rw[eC G,List.any_append];simp[vs,Z]
     have Yn:m<(inc b v P m).length:=by rw[qV];exact G
     obtain⟨g,cap,U,hgW⟩:=hI.form om;rw[qV,<-Ob.o]at U;simp only[Value.slice.injEq,true_and]at U;obtain⟨rfl,rfl⟩:=U;have hpn:J=(inc b v P m).length:=by rw[qV];exact Ob.o
     have e0:=hI.cell hpn Yn (i:=0) om;have e1:=hI.cell hpn Yn (i:=1) om;rw[wT b v G Yn]at e0 e1;obtain⟨sx,nx,_,_⟩:=Xm.o _ (bP G);have PUT:Hid (∀nv:Value,nv=.int .i64 (((P[m]).n+1:Nat):Int)->vs b v P[m]=true->mJ w3 b (inc b v P (m+1)) (.slice (sA g) J oc) (wr.setCell (aD g (m*3+1)) nv)):=λnv e hs=>by rw[zR b v G];refine hI.put hpn Yn (i:=1) om ?_;rw[wT b v G Yn,e];unfold vt;rw[ae hs];rfl
     have afn:Hid (vs b v P[m]=false->mJ w3 b (inc b v P (m+1)) (.slice (sA g) J oc) wr):=λhs=>by rw[Nh b v G hs];exact hI
     have TSM:Hid (vs b v P[m]=(b (P[m]).v.d.af==b v.d.af)):=Z rfl;have Xn:=T3.o.keep (λB hk=>aI (K.o.e.dl B hk) K3.o.size) hI.f;obtain⟨_,b1⟩:=(Xn.rt _ sx).vc;obtain⟨_,b2⟩:=(Xn.rt _ SV.o).vc;have hcmp:=qU wr b1.b b2.b;have f1:=hI.fz;have z0:wr.cell? (aD g (m*3))=some (.pointer (some ⟨b (P[m]).v.d.af,0,none⟩)):=e0;have z1:wr.cell? (aD g (m*3+1))=some (.int .i64 ((P[m]).n:Nat)):=e1;generalize(P.take m).any (vs b v)=bb at*;generalize b (P[m]).v.d.af=p1 at*;obtain⟨d1,F'⟩:∃A,(p1==b v.d.af)=A:=⟨_,rfl⟩;rw[F']at hcmp TK TSM;generalize(P[m]).n=pn at*;clear F' e0 e1 Xn b1 b2 sx hI Yn hpn;cases d1
     .go_wp2;go_roundw;case rel=>exact⟨m+1,om,by go_num,by rw[TK.o,Bool.or_false],afn.o TSM.o⟩
      case measure=>simp[intOf];omega
     go_wp2;go_roundw;case rel=>exact⟨m+1,om,by go_num,by rw[TK.o,Bool.or_true],PUT.o _ (by go_num) TSM.o⟩
     case measure=>simp[intOf];omega
    have Hw:¬(m:Int)<(J:Int):=om;have hme:m=P.length:=by have:=Ob.o;omega
    have IA:Hid (mJ w3 b (P.map (vt b v)) (.slice o0 J oc) wr):=by have:=hI;rw[hme,Sl]at this;exact this
    have EA:P.take m=P:=by rw[hme];exact bX
    rw[EA];have K5:=Z hI.f;have c7:=Z (((K.o.e.tr.keep K.o.e.dl (K3.o.trans hI.f)).rt _ HV.o.1).vc);have amV:=(K.o.fr _ HV.o.1).2;clear hI hme EA HCL;obtain⟨_,bh⟩:=c7.o;have c7:=bh.b.cell 7;simp[qR]at c7;have ANY:Hid (∀p,p=P.any (vs b v)->p=false->mJ w3 b P (.slice o0 J oc) wr):=λp e1 e2=>by have:=IA.o;rw[Ni b v (e1.symm.trans e2)]at this;exact this
    have EX:Hid (∀p,p=P.any (vs b v)->tf b hf (N.take (j+1))=if p=true then P.map (vt b v)else if 0<=(hf v).d.cl then P++[⟨v,1,(hf v).d.cl⟩]else P):=λp e=>by rw[ST.o,e];rfl
    obtain⟨bb,hbb⟩:∃bb,bb=P.any (vs b v):=⟨_,rfl⟩;rw[<-hbb];have WK:=Z hbb;generalize amW:(hf v).d.cl=cl at*;clear hbb bh;cases bb
    .by_cases h0:0<=cl
     .have hT5:=ANY.o false WK.o rfl;have pV:=hT5.o;rw[<-Ob.o]at pV;have F5:=Z hT5.f;have hsz:w3.heap.size<=wr.heap.size:=hT5.f.size;have E5:=Z (EX.o false WK.o);clear hT5;go_wp2_with(at_builtin;refine wpList_append_own _ rfl _ _ 220 rfl w3.heap.size 225 i0 _ 3 24 underlying220 HI.o iK.o iz.o ja.o rfl de _ _ _ rfl (pV.alloc _) (aD wr.heap.size 0) 1 1 [(pT (b v.d.af)),.int .i64 1,.int .i64 cl] rfl rfl al3 (by intro u hu;simp at hu;rcases hu with rfl|rfl|rfl<;>rfl) (by unfold maxLen;omega) om (by simp;omega) ?_);intro v' w5 Nl hgrow _;have S5:Hid (mJ w3 b (tf b hf (N.take (j+1))) v' w5):=by rw[E5.o,aa si,ae h0];refine⟨(F5.o.alloc _).grown hgrow λq hq=>Y (pV.lt q hq).1,?_⟩;rw[iy,cG,<-Ob.o];exact Nl
      obtain⟨b5,k5,rfl⟩:=X Nl;clear Nl hgrow pV;go_wp2;go_roundw;case rel=>exact⟨j+1,om,by go_num,S5.o⟩
      case measure=>simp[intOf];omega
     have hd:decide (0<=cl)=false:=by simpa using h0
     have S5:Hid (mJ w3 b (tf b hf (N.take (j+1))) (.slice o0 J oc) wr):=by rw[EX.o false WK.o,aa si,aa h0];exact ANY.o false WK.o rfl
     go_wp2;go_roundw;case rel=>exact⟨j+1,om,by go_num,S5.o⟩
     case measure=>simp[intOf];omega
    have S5:Hid (mJ w3 b (tf b hf (N.take (j+1))) (.slice o0 J oc) wr):=by rw[EX.o true WK.o,ae rfl];exact IA.o
    go_wp2;go_roundw;case rel=>exact⟨j+1,om,by go_num,S5.o⟩
    case measure=>simp[intOf];omega
  have hji:¬(j:Int)<(nl:Int):=om;have Ie:N.take j=N:=by rw[show j=N.length by have:=Xl.o;omega];exact bX
  rw[Ie]at T Xm TL;clear Ie FRH;obtain⟨P,hP⟩:∃P,P=tf b hf N:=⟨_,rfl⟩;rw[<-hP]at T Xm TL;have HP:=Z hP;have afm:nl<=1048576000000:=by rw[Xl.o];exact LL.o
  obtain⟨o0,oc,M9⟩:=X T.o;obtain⟨J,hpl⟩:∃J,J=P.length:=⟨_,rfl⟩;rw[<-hpl]at M9;subst M9;have Xk:J<=nl:=by have:=TL.o;omega
  have Ob:=Z hpl;have O0:Hid (Ord P 0):=λa p _ _ h=>by omega
  have HT:=Z T;clear T hP hpl TL;go_wp2;go_loopw[14,15,16]λi _ _ wx=>∃(j:Nat)(l:List Td),j<=J/\i=.int .i64 j/\l.Perm P/\Ord l j/\mJ w3 b l (.slice o0 J oc) wxλi _ _ _=>J-(intOf i).toNat;case atStart=>exact⟨0,P,aT _,rfl,List.Perm.refl _,O0.o,HT.o⟩
  case round=>
   clear HT O0;obtain⟨j,l,hj2,rfl,S,R,T⟩:=hrel;by_cases hjl:j<J
   .have afq:(j:Int)<(J:Int):=om;have I0:Hid (qj l j (j+1)):=λp _ _ h1 h2=>by omega
    have Ul:=Z S;have HOR:=Z R;have HT:=Z T;clear S R T;go_wp2;go_loopw[15,16]λB _ wx=>∃(m:Nat)(l:List Td),j<m/\m<=J/\B=.int .i64 m/\l.Perm P/\Ord l j/\qj l j m/\mJ w3 b l (.slice o0 J oc) wxλB _ _=>J-(intOf B).toNat;case atStart=>exact⟨j+1,l,om,om,by go_num,Ul.o,HOR.o,I0.o,HT.o⟩
    case round=>
     clear Ul HOR HT I0;obtain⟨m,l,hjm,hm,rfl,S,R,hoi,T⟩:=hrel;have M:l.length=J:=by rw[S.length_eq,Ob.o]
     by_cases hml:m<J
     .have Hw:(m:Int)<(J:Int):=om;have G:m<l.length:=om;have H:j<l.length:=om;obtain⟨g,cap,U,hgW⟩:=T.form om;rw[M]at U;simp only[Value.slice.injEq,true_and]at U;obtain⟨rfl,rfl⟩:=U;have e0:=T.cell M.symm G (i:=0) om;have e1:=T.cell M.symm G (i:=1) om;have e2:=T.cell M.symm G (i:=2) om;have f0:=T.cell M.symm H (i:=0) om;have f1:=T.cell M.symm H (i:=1) om;have f2:=T.cell M.symm H (i:=2) om;obtain⟨sx,_,_,_⟩:=Xm.o _ (S.subset (bP G));obtain⟨sy,_,_,_⟩:=Xm.o _ (S.subset (bP H));have Xn:=T3.o.keep (λB hk=>aI (K.o.e.dl B hk) K3.o.size) T.f;obtain⟨_,b1⟩:=(Xn.rt _ sx).vc;obtain⟨_,b2⟩:=(Xn.rt _ sy).vc;obtain⟨x,hx⟩:∃x,x=l[m]:=⟨_,rfl⟩;obtain⟨y,hy⟩:∃y,y=l[j]:=⟨_,rfl⟩;rw[<-hx]at e0 e1 e2 sx b1;rw[<-hy]at f0 f1 f2 sy b2;have z0:wr.cell? (aD g (m*3))=some (pT (b x.v.d.af)):=e0;have z1:wr.cell? (aD g (m*3+1))=some (.int .i64 (x.n:Nat)):=e1;have z2:wr.cell? (aD g (m*3+2))=some (.int .i64 x.ab):=e2;have y0:wr.cell? (aD g (j*3))=some (pT (b y.v.d.af)):=f0;have y1:wr.cell? (aD g (j*3+1))=some (.int .i64 (y.n:Nat)):=f1;have y2:wr.cell? (aD g (j*3+2))=some (.int .i64 y.ab):=f2;have x6:wr.cell? (aD (b x.v.d.af) 6)=some (.int .i64 (x.v.d.to:Nat)):=b1.b.cell 6;have y6:wr.cell? (aD (b y.v.d.af) 6)=some (.int .i64 (y.v.d.to:Nat)):=b2.b.cell 6;have afr:Hid (¬mI x y->qj l j (m+1)):=λh=>IT H G hoi (by rw[<-hx,<-hy];exact h);have Ul:=Z S;have HOR:=Z R;have HT:=Z T;have SWO:Hid (mI x y->(swp l j m H G).Perm P/\Ord (swp l j m H G) j/\qj (swp l j m H G) j (m+1)):=λh=>⟨(IW H G).trans S,OI H G hjm R,IU H G hjm hoi (by rw[<-hx,<-hy];exact h)⟩;have HX:=Z hx;have HY:=Z hy;clear e0 e1 e2 f0 f1 f2 sx sy Xn b1 b2 S R hoi T hx hy;go_upto_region 31 with fail;go_cut[151]from 109 to 166λs wc=>∃p q,s=.bool p/\wc=wr.drewN q/\(p=true↔mI x y);case first=>
       by_cases h1:x.ab<y.ab;.go_wp2;go_quiet(fail);go_wp2;go_meet;exact⟨true,_,rfl,rfl,by unfold mI;simp;omega⟩
       have h1':decide (x.ab<y.ab)=false:=by simpa using h1
       cases h2:(x.ab==y.ab)
       .have h2':x.ab≠y.ab:=by simpa using h2
        go_wp2;go_quiet(fail);go_wp2;go_meet;exact⟨false,_,rfl,rfl,by unfold mI;simp;omega⟩
       have h2':x.ab=y.ab:=by simpa using h2
       by_cases h3:x.v.d.to<y.v.d.to;.have h4:((x.v.d.to:Nat):Int)<(y.v.d.to:Nat):=om;go_wp2;go_quiet(fail);go_wp2;go_meet;exact⟨true,_,rfl,rfl,by unfold mI;simp;omega⟩
       have h4:¬((x.v.d.to:Nat):Int)<(y.v.d.to:Nat):=om;have h6:y.v.d.to<=x.v.d.to:=om;go_wp2;go_quiet(fail);go_wp2;go_meet;exact⟨false,_,rfl,rfl,by unfold mI;simp;omega⟩
      case rest=>
      obtain⟨p,q,rfl,hwc,hb⟩:=hcut;have TC:Hid (mJ w3 b l (.slice (sA g) J oc) wc):=by rw[hwc];exact HT.o.drewN _
      have HB:=Z hb;clear hwc hb z0 z1 z2 y0 y1 y2 x6 y6 HT;cases p
      .have ST2:=Z (afr.o λh=>by have:=HB.o.2 h;cases this);go_wp2;go_roundw;case rel=>exact⟨m+1,l,om,om,by go_num,Ul.o,HOR.o,ST2.o,TC.o⟩
       case measure=>simp[intOf];omega
      have SW2:=Z (SWO.o (HB.o.1 rfl));have nP:g<wc.heap.size:=(TC.o.o.lt g rfl).2;have z0:wc.cell? (aD g (m*3))=some (pT (b x.v.d.af)):=by rw[HX.o];exact TC.o.cell M.symm G (i:=0) om
      have z1:wc.cell? (aD g (m*3+1))=some (.int .i64 (x.n:Nat)):=by rw[HX.o];exact TC.o.cell M.symm G (i:=1) om
      have z2:wc.cell? (aD g (m*3+2))=some (.int .i64 x.ab):=by rw[HX.o];exact TC.o.cell M.symm G (i:=2) om
      have y0:wc.cell? (aD g (j*3))=some (pT (b y.v.d.af)):=by rw[HY.o];exact TC.o.cell M.symm H (i:=0) om
      have y1:wc.cell? (aD g (j*3+1))=some (.int .i64 (y.n:Nat)):=by rw[HY.o];exact TC.o.cell M.symm H (i:=1) om
      have y2:wc.cell? (aD g (j*3+2))=some (.int .i64 y.ab):=by rw[HY.o];exact TC.o.cell M.symm H (i:=2) om
      have fz:=TC.o.fz;have tu:Hid (mJ w3 b (swp l j m H G) (.slice (sA g) J oc) (((((((wc.setCell (aD g (j*3)) (pT (b x.v.d.af))).setCell (aD g (j*3+1)) (.int .i64 (x.n:Nat))).setCell (aD g (j*3+2)) (.int .i64 x.ab)).setCell (aD g (m*3)) (pT (b y.v.d.af))).setCell (aD g (m*3+1)) (.int .i64 (y.n:Nat))).setCell (aD g (m*3+2)) (.int .i64 y.ab)).alloc (.cells #[(pT (b y.v.d.af)),.int .i64 (y.n:Nat),.int .i64 y.ab] 225))):=by have h1:=(TC.o.abf M.symm H x).abf (k:=m) (by rw[List.length_set];exact M.symm) (by rw[List.length_set];exact G) y;rw[HX.o,HY.o]at h1⊢;exact h1.keep ((Fr.refl _ _).alloc _)
      clear TC;go_wp2;go_roundw;case rel=>exact⟨m+1,_,om,om,by go_num,SW2.o.1,SW2.o.2.1,SW2.o.2.2,tu.o⟩
      case measure=>simp[intOf];omega
     have Hw:¬(m:Int)<(J:Int):=om;have Ul:=Z S;have HT:=Z T;have ON:=Z (IS R (by rw[M,show J=m by omega];exact hoi));clear S R hoi T;go_wp2;go_roundw;case rel=>exact⟨j+1,l,om,by go_num,Ul.o,ON.o,HT.o⟩
     case measure=>simp[intOf];omega
   have afq:¬(j:Int)<(J:Int):=om;have VJ:l.length=J:=by rw[S.length_eq,Ob.o]
   have ORD:Hid (Ord l l.length):=by rw[VJ,show J=j by omega];exact R
   have Ul:Hid (l.Perm (tf b (j7 b d r) (aq d [r]))):=by rw[<-Ui.o,<-HHF.o,<-HP.o];exact S
   have afu:=Z λx(hx:x∈l)=>Xm.o x (S.subset hx);have HT:=Z T;have KW:=Z (K3.o.trans T.f);have tq:=Z VJ;clear S R T VJ Xm;obtain⟨i1,hj',hy0,hy1,Th⟩:=info_parts oY;have JI:=Z hj';have Y6:=Z hy0;have Y7:=Z hy1;have Y8:=Z Th;clear hj' hy0 hy1 Th;have M0:Hid (MtR wr l 0 (.slice none 0 0) wr):=⟨Fr.refl _ _,⟨rfl,Y ⟨rfl,rfl⟩⟩⟩;generalize hw0:wr=w0 at*;clear hw0;go_wp2;go_loopw[17,18]λD i wx=>∃B:Nat,B<=J/\i=.int .i64 B/\MtR w0 l B D wxλ_ i _=>J-(intOf i).toNat;case atStart=>exact⟨0,aT _,rfl,M0.o⟩
   case round=>
    clear M0;obtain⟨B,hk,rfl,hM⟩:=hrel;obtain⟨a5,c5,rfl⟩:=X hM.o;have KR:=Z hM.f;have OR:=Z hM.o;clear hM;by_cases hkl:B<J
    .have hki:(B:Int)<(J:Int):=om;have wS:B<l.length:=by rw[tq.o];exact hkl
     obtain⟨g,cap,U,hgW⟩:=HT.o.form om;rw[tq.o]at U;simp only[Value.slice.injEq,true_and]at U;obtain⟨rfl,rfl⟩:=U;have NT:Hid ((l.take (B+1)).flatMap H6=(l.take B).flatMap H6++H6 l[B]):=Z (So wS);have e0:=HT.o.cell tq.o.symm wS (i:=0) om;have e1:=HT.o.cell tq.o.symm wS (i:=1) om;obtain⟨sx,_,_,_⟩:=afu.o _ (bP wS);have ND:Hid (∀W,Q w0 W->Calls prog 96 #[.pointer (some ⟨b (l[B]).v.d.af,0,none⟩)] W λF w'=>F=.returned (.agg #[.string (bR (l[B]).v.d.path),.int .i64 ((l[B]).v.d.af:Nat),.int .i64 ((l[B]).v.d.to:Nat)])/\Q W w'):=λW hW=>by obtain⟨_,bv⟩:=((K.o.e.tr.keep K.o.e.dl (KW.o.trans hW)).rt _ sx).vc;exact MZ bv
     have z0:w0.cell? (aD g (B*3))=some (.pointer (some ⟨b (l[B]).v.d.af,0,none⟩)):=e0;have z1:w0.cell? (aD g (B*3+1))=some (.int .i64 ((l[B]).n:Nat)):=e1;have hmt:H6 l[B]=[.string (bR (l[B]).v.d.path),.int .i64 ((l[B]).v.d.af:Nat),.int .i64 ((l[B]).v.d.to:Nat),.int .i64 ((l[B]).n:Nat)]:=rfl;rw[hmt]at NT;clear e0 e1 hmt sx;generalize b (l[B]).v.d.af=vb at*;generalize bR (l[B]).v.d.path=PB at*;generalize(l[B]).v.d.af=xf at*;generalize(l[B]).v.d.to=xt at*;generalize(l[B]).n=xn at*;have KS:Hid (∀W,Q w0 W->W.cell? (aD g (B*3))=some (pT vb)/\W.cell? (aD g (B*3+1))=some (.int .i64 (xn:Nat))/\Q w0 W):=λW kk=>⟨(kk.cell (p:=(aD g (B*3))) (gF z0) id).trans z0,(kk.cell (p:=(aD g (B*3+1))) (gF z1) id).trans z1,kk⟩;have AG:Hid (∀u∈[Value.string PB,.int .i64 (xf:Nat),.int .i64 (xt:Nat),.int .i64 (xn:Nat)],u.oneCell'=true):=by intro u hu;simp at hu;rcases hu with rfl|rfl|rfl|rfl<;>rfl
     have LI:Hid (∀(w2:World)(j:Nat)(u:Value),[Value.string PB,.int .i64 (xf:Nat),.int .i64 (xt:Nat),.int .i64 (xn:Nat)][j]?=some u->(w2.alloc (.cells #[.string PB,.int .i64 (xf:Nat),.int .i64 (xt:Nat),.int .i64 (xn:Nat)] 44)).cell? (((aD w2.heap.size 0):Addr).add j)=some u):=by intro w2 j u hj;match j,hj with|0,hj=>simp at hj;subst hj;simp[Addr.add]|1,hj=>simp at hj;subst hj;simp[Addr.add]|2,hj=>simp at hj;subst hj;simp[Addr.add]|3,hj=>simp at hj;subst hj;simp[Addr.add]
     have OW:Hid (∀w2,Q wr w2->w2.ownsRow w0.heap.size 44 4 (.slice a5 B c5) B ((l.take B).flatMap H6)):=λw2 kk=>aS OR.o kk λ_ _ x=>x;have Zu:Hid (∀w2,Q wr w2->∀g5 AA w5,w5.ownsRow w0.heap.size 44 4 (.slice (sA g5) (B+1) AA) (B+1) ((l.take B).flatMap H6++[.string PB,.int .i64 (xf:Nat),.int .i64 (xt:Nat),.int .i64 (xn:Nat)])->(w2.alloc (.cells #[.string PB,.int .i64 (xf:Nat),.int .i64 (xt:Nat),.int .i64 (xn:Nat)] 44)).grownBy w5 (Value.slice a5 B c5).ownBlock->MtR w0 l (B+1) (.slice (sA g5) (B+1) AA) w5):=λw2 kk g5 AA w5 ho hg=>by refine⟨((KR.o.trans kk).alloc _).grown hg λq hq=>Y (OR.o.lt q hq).1,?_⟩;rw[NT.o];exact ho
     have hsz:w0.heap.size<=wr.heap.size:=KR.o.size;clear NT OR;go_upto_region 39 with fail;go_region_held_lawλW=>W.cell? (aD g (B*3))=some (pT vb)/\W.cell? (aD g (B*3+1))=some (.int .i64 (xn:Nat))/\Q w0 W(first|exact KS.o _ (KR.o.drewN 1)|exact KS.o _ (by assumption)|exact KS.o _ (Fr.alloc (by assumption) _))(first|(refine step_append_lies _ rfl _ _ 33 rfl w0.heap.size 44 i1 _ 4 40 underlying33 JI.o Y6.o Y7.o Y8.o rfl de (.slice a5 B c5) B _ rfl ((OW.o _ hk2).alloc _) (aD w2.heap.size 0) 1 1 [.string PB,.int .i64 (xf:Nat),.int .i64 (xt:Nat),.int .i64 (xn:Nat)] rfl rfl (LI.o _) AG.o om (by unfold maxLen;omega) om (by simp;have:=hk2.size;omega) _ rfl ?_;intro g5 AA w5 ho hg ha hlt;have hx5:=Zu.o _ hk2 g5 AA w5 ho hg;have HX5:=Z hx5;have hk5:=hx5.f;clear ho hg ha hlt hx5)|(go_at_call 96;refine(ND.o _ (KR.o.drewN 1)).mono ?_;rintro F w2⟨rfl,oH⟩;have hk2:Q wr w2:=((Fr.refl _ _).drewN 1).trans oH;have zU:=KR.o.trans hk2;clear oH));go_wp2;go_roundw;case rel=>exact⟨B+1,om,by go_num,HX5.o⟩
     case measure=>simp[intOf];omega
    have hki:¬(B:Int)<(J:Int):=om;have Pk:B=l.length:=by rw[tq.o];omega
    have tu:Hid (Q w wr/\wr.ownsRow w.heap.size 44 4 (.slice a5 B c5) l.length (l.flatMap H6)):=by refine⟨KW.o.trans KR.o,?_⟩;have:=OR.o;rw[Pk,bX]at this;rw[Pk];exact oD this KW.o.size
    clear OR KR Pk;go_wp2;go_ret;exact⟨_,l,rfl,tu.o.1,tu.o.2,Ul.o,ORD.o⟩
