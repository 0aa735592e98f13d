import Derived.Test.YtcbadebjpogmlaaGreatDoorVvTyH
import Derived.Test.YtcbadebjpogmlaaGreatDoorVvPx
import Derived.Test.YtcbadebjpogmlaaGreatDoorVvGh
set_option maxHeartbeats 4000000
set_option maxRecDepth 100000
namespace Go.Proofs.YtcbadebjpogmlaaGreatDoor
open Go.RowKit Tr Go.Proofs.Tryz
variable{w:World}{a:Nat->Nat}{b:Nat->Prop}{n:Nat}
theorem RT.deep:∀{c:Nat}{t:Tv},RT w a b n c t->Deep c t|0,_,h=>absurd h id|_+1,_,h=>λ_ d=>RT.deep (h.kids d)
def Yl(w:World)(A:Nat->Nat)(D:Nat->Prop)(a:Nat)(v:Tv):Prop:=∃m,m<=9/\RT w A D a m v/\(ai 10 v).length<=4000000
theorem uX:RX w a b n (Yl w a b n):=by
 refine⟨λu d c j=>?_,λu d=>?_,λu d=>?_⟩
 .obtain⟨m,l,f,p⟩:=d;obtain⟨m,rfl⟩:∃k,m=k+1:=by cases m with|zero=>exact absurd f id|succ k=>exact⟨k,rfl⟩
  have g:=f.kids j;refine⟨m,om,g,?_⟩;have e:ai 10 c=ai 9 c:=by rw[du g.deep om,<-du (m:=9) g.deep om]
  have o:ai 10 u=u::u.ws.flatMap (ai 9):=rfl;obtain⟨i,h,rfl⟩:=gR.1 j;have q:=mH (ai 9) u.ws h;grind
 .obtain⟨m,l,f,_⟩:=d;exact f.ups om
 exact d.choose_spec.2.2
variable{c d:Tv}
theorem Na(a:List Sg)(h:∀g∈a,lx g)(e:er c=er d):(aq a [c]).length=(aq a [d]).length:=by
 have k:∀w:Tv,(aq a [w]).length=(aq a [er w]).length:=λw=>by have:=sG a h [w];grind
 rw[k c,k d,e]
theorem Xg(e:er c=er d):(ai 10 c).length=(ai 10 d).length:=by
 have k:∀w:Tv,(ai 10 w).length=(ai 10 (er w)).length:=λw=>by rw[By,eY]
 rw[k c,k d,e]
theorem EO(a:Bool)(b e:Nat)(t:Tv):er (shut a b e t)=er t:=by grind[ow,shut]
theorem Nb{a:List Sg}(h:∀g∈a,lx g)(i:Nat):∀g∈a.take i,lx g:=λg b=>h g (List.mem_of_mem_take b)
theorem s_:∀(b:List Sg)(g:Sg),g∈b->g.l.length<=cD b
 |[],_,h=>by cases h|a::r,g,h=>by
  have e:cD (a::r)=a.l.length+cD r:=by simp[cD]
  rcases fU.1 h with y|y;.rw[y,e];omega
  have:=s_ r g y;omega
theorem Uk(l:List Tv):l.flatMap cR=(l.map LC).flatMap λp=>[.string (bR p.1),.int .i64 (p.2.1:Nat),.int .i64 (p.2.2:Nat)]:=by rw[List.flatMap_map];rfl
theorem J7{v:Value}{q:List UInt8}(hq:V w n #[v] 148)(Az:iX w v (cK q))(B:cD (cK q)<=10)(s:ByteArray)(hs:s.size<=1100000):Calls prog 66 #[pT n,.string s] w (Aq s (cK q) w):=by
 obtain⟨i0,H,hz0,hz1,eE⟩:=info_parts rz;have HI:=Z H;have iK:=Z hz0;have iz:=Z hz1;have ja:=Z eE;have HQ:=Z hq;have F:=Z Az;have XZ:(E s).length<=4000000:=by rw[ak];omega
 have RW:=Z (kP (E s) XZ);obtain⟨d,K⟩:∃d,d=cK q:=⟨_,rfl⟩;have S:Hid (∀g∈d,lx g):=by rw[K];exact uM q
 have L:Hid (∀g∈d,0<g.l.length):=by rw[K];exact eh q
 rw[<-K]at B F⊢;have hxl:d.length<=10:=az (lh d L.o) B;have HXL:Hid (∀g∈d,g.l.length<=1000):=λg hg=>by have:=s_ d g hg;omega
 clear H hz0 hz1 eE hq Az K;go_enter func66,ntmps66;go_wp2_with fail;refine mo (Cf (w:=w) (s:=s) om true) λl hR=>?_;have K1:=Z hR.f;obtain⟨rt,hb,XW,hr1⟩:=hR.r;by_cases he:(aw (E s)).e=0
 .obtain⟨t1,_,vv,u,hw,J,hal⟩:=RW.o.ok he;obtain⟨A,Yz,G⟩:=hr1 vv hw;have eu:er vv=er u:=by
   rcases hal with y|⟨f,b,y1,y2⟩;.exact zc y
   rw[y2,ow,ow u,y1];rfl
  obtain⟨t,ht⟩:∃t,t=shut true s.size (aw (E s)).e vv:=⟨_,rfl⟩;have et:er t=er u:=by rw[ht,EO,eu]
  have efr:t.d.af=vv.d.af:=by grind[wo,EO,er]
  rw[<-ht]at G;obtain⟨hT,_⟩:=vf XZ t1 J;obtain⟨hfr,_⟩:=qX XZ t1 J;have hN:∀k,k<=d.length->(aq (d.take k) [t]).length<=900000000000:=λk hk=>by rw[Na _ (Nb S.o k) et];have a:=mr hT hfr d L.o B hk;grind[ak,E]
  have M:(ai 10 t).length<=4000000:=by rw[Xg et];have:=qT ((ai 10 u).map fr) 0 (E s).length (List.pairwise_map.2 hT.a) (λx hx=>by grind);grind
  obtain⟨D,hD⟩:∃D:Nat->Prop,D=λk=>w.heap.size<=k/\k<l.heap.size:=⟨_,rfl⟩;rw[<-hD]at G;have DL:∀k,D k->k<l.heap.size:=λk hk=>by rw[hD]at hk;exact hk.2
  have st:Yl l A D (s.size+1) t:=⟨9,aP _,G,M⟩;have ne:NE l A D (s.size+1) (Yl l A D (s.size+1)) v d:=⟨uX,F.o.keep K1.o,DL⟩;have hNl:(aq d [t]).length<=900000000000:=by have:=hN d.length lr;rwa[bX]at this
  have CN:Hid (∀W,Q l W->Calls prog 95 #[v,(pT (A t.d.af))] W λr w'=>∃sv,r=.returned sv/\lI l A (aq d [t]) sv w'):=λW hW=>by refine(wR (ne.keep hW) st om HXL.o λi H=>by have:=hN i H;omega).mono ?_;rintro r w'⟨sv,rfl,h⟩;exact⟨sv,rfl,h.low hW⟩
  have aff:Hid (∀x∈aq d [t],Yl l A D (s.size+1) x):=mb uX.Bt d [t] (λy hy=>by rw[dy.1 hy];exact st);have afg:Hid (∀x,Yl l A D (s.size+1) x->∀W,Q l W->Calls prog 96 #[(pT (A x.d.af))] W λr w'=>r=.returned (.agg #[.string (bR x.d.path),.int .i64 (x.d.af:Nat),.int .i64 (x.d.to:Nat)])/\Q W w'):=λx hx W hW=>by obtain⟨sv,hv⟩:=RT.vc (n:=9) ((uX.keep DL hW).rt x hx);exact MZ hv
  have EQ:Hid ((aq d [t]).flatMap cR=(aq d [u]).flatMap cR/\(aq d [t]).length=(aq d [u]).length):=⟨by rw[Uk,Uk,LG S.o et],Na d S.o et⟩;have q0:l.cell? (aD n 0)=some v:=(HQ.o.fr K1.o id).cell 0;have P:rt=(pT (A t.d.af)):=by rw[Yz,efr];rfl
  have rb2:l.cell? (aD w.heap.size 2)=some (.int .i64 0):=by rw[hb.cell 2,he];rfl
  have rb3:l.cell? (aD w.heap.size 3)=some (pT (A t.d.af)):=by rw[hb.cell 3,P];rfl
  have H0:=Z t1;have HTX:=Z J;obtain⟨va,MW,rfl⟩:=F.o.form;clear hR hb XW hr1 he hw hal Yz G eu ht et efr hT hfr hN M hD DL st ne P J t1 HQ F RW;generalize U0:aq d [t]=N at*;have Ui:=Z U0;clear U0;have T:Hid (∀W,Q l W->W.cell? (aD n 0)=some (.slice va d.length MW)/\W.cell? (aD w.heap.size 3)=some (pT (A t.d.af))/\Q l W):=λW k=>⟨(k.cell (p:=aD n 0) (gF q0) id).trans q0,(k.cell (p:=aD w.heap.size 3) (gF rb3) id).trans rb3,k⟩;go_wp2;go_region_heldλW=>W.cell? (aD n 0)=some (.slice va d.length MW)/\W.cell? (aD w.heap.size 3)=some (pT (A t.d.af))/\Q l W(first|exact T.o _ ((Fr.refl _ _).drewN 1)|exact T.o _ (by assumption))(first|(go_at_call 95;refine(CN.o _ ((Fr.refl _ _).drewN 1)).mono ?_;rintro r R⟨sv2,rfl,z⟩;have V2:=Z z;have hk2:=z.f;clear z));have K2:=Z V2.o.f;obtain⟨a2,c2,U1⟩:=X V2.o.o;have O2:=Z V2.o.o;subst U1;clear V2 hk2 q0 rb2 rb3 T CN;try clear J3
  go_wp2;go_loopw[8,10]λo i wr=>∃k:Nat,k<=N.length/\i=.int .i64 k/\Q R wr/\wr.ownsRow R.heap.size 42 3 o k ((N.take k).flatMap cR)λ_ i _=>N.length-(intOf i).toNat;case atStart=>exact⟨0,aT _,rfl,Fr.refl _ _,⟨rfl,Y ⟨rfl,rfl⟩⟩⟩
  case round=>
   obtain⟨k,hk,rfl,hK,hO⟩:=hrel;obtain⟨a5,c5,hs5⟩:=X hO;subst hs5;have KK:=Z hK;have OO:=Z hO;clear hK hO;by_cases hlt:k<N.length
   .obtain⟨g2,cap2,z,_,NI⟩:=O2.o.form om;simp only[Value.slice.injEq,true_and]at z;obtain⟨rfl,rfl⟩:=z;have ce:wr.cell? (aD g2 k)=some (.pointer (some ⟨A (N[k]).d.af,0,none⟩)):=by rw[KK.o.cell (p:=aD g2 k) NI id,O2.o.cellAt k om];simp[hlt,cj]
    have ND:=Z (afg.o N[k] (aff.o _ (bP hlt)) wr (K2.o.trans KK.o));have hnd:cR N[k]=[.string (bR (N[k]).d.path),.int .i64 ((N[k]).d.af:Nat),.int .i64 ((N[k]).d.to:Nat)]:=rfl;have HND:=Z hnd;have NT:=Z (Dc hlt);clear hnd;generalize N[k]=v at*;go_wp2_with fail;refine mo ND.o λw3 zU=>?_;have K3:=Z (KK.o.trans zU);have m:w3.ownsRow R.heap.size 42 3 (.slice a5 k c5) k ((N.take k).flatMap cR):=aV OO.o λi H=>zU.block i (OO.o.lt i H).2 id;have hs3:R.heap.size<=w3.heap.size:=K3.o.size;clear zU KK ND;generalize bR v.d.path=PB at*;go_wp2_with(at_builtin;refine wpList_append_own_at _ rfl _ _ 29 rfl R.heap.size 42 i0 _ 3 32 underlying29 HI.o iK.o iz.o ja.o rfl de _ _ _ rfl (m.alloc _) (aD w3.heap.size 0) 1 1 [.string PB,.int .i64 (v.d.af:Nat),.int .i64 (v.d.to:Nat)] rfl rfl ?c1 ?c2 ?c3 ?c4 ?c5 ?_);case c1=>intro j u C;match j,C with|0,C=>simp at C;subst C;simp[Addr.add]|1,C=>simp at C;subst C;simp[Addr.add]|2,C=>simp at C;subst C;simp[Addr.add]
    case c2=>intro u hu;simp at hu;rcases hu with rfl|rfl|rfl<;>rfl
    case c3=>unfold maxLen;omega
    case c4=>omega
    case c5=>simp;omega
    intro v' w5 p c _ qm;obtain⟨a6,c6,hv6⟩:=X p;subst hv6;have NJ:Hid (Q R w5/\w5.ownsRow R.heap.size 42 3 (.slice a6 (k+1) c6) (k+1) ((N.take (k+1)).flatMap cR)):=by refine⟨?_,by rw[NT.o,HND.o];exact p⟩;have k4:Q R (w3.alloc (.cells #[.string PB,.int .i64 (v.d.af:Nat),.int .i64 (v.d.to:Nat)] 42)):=K3.o.alloc _;exact⟨c.os.trans k4.os,c.tape.trans k4.tape,c.output.trans k4.output,az k4.size c.size,λi H _=>by rw[c.block i (aI H k4.size) λe=>by have:=(m.lt i e.symm).1;omega];exact k4.block i H id⟩
    clear p c qm m;go_wp2;go_roundw;case rel=>exact⟨k+1,om,by go_num,NJ.o.1,NJ.o.2⟩
    case measure=>simp[intOf];omega
   have Pk:k=N.length:=om;subst Pk;have U:Hid (Aq s d w (.returned (.tuple #[.slice a5 N.length c5,.int .i64 0,.int .i64 0])) wr):=by refine⟨(K1.o.trans K2.o).trans KK.o,I ⟨H0.o,u,_,HTX.o,rfl,?_⟩⟩;have:=OO.o;rw[bX]at this;rw[<-EQ.o.1,<-EQ.o.2];exact oD this (az K1.o.size K2.o.size)
   go_wp2;go_ret3;exact U.o
 obtain⟨e1,e2,_⟩:=RW.o.no he;have c2:l.cell? (aD w.heap.size 2)=some (.int .i64 (bD (E s):Nat)):=by rw[hb.cell 2,e1];rfl
 have c1:l.cell? (aD w.heap.size 1)=some (.int .i64 (jB (E s):Nat)):=by rw[hb.cell 1,e2];rfl
 have hne:bD (E s)≠0:=by rw[e1];exact he
 have hd:((bD (E s):Int)!=0)=true:=by rw[bne_iff_ne];omega
 have U:Hid (∀q,Aq s d w (.returned (.tuple #[.slice none 0 0,.int .i64 (bD (E s):Nat),.int .i64 (jB (E s):Nat)])) (l.drewN q)):=λq=>⟨K1.o.drewN q,Y ⟨hne,rfl⟩⟩;clear hne he e1 e2 hb XW hr1 hR RW;generalize bD (E s)=te at*;go_wp2;go_quiet(fail);go_wp2;go_ret3;exact U.o _
