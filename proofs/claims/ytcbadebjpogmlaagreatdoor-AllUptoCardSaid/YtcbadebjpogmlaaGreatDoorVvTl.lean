import Derived.Test.YtcbadebjpogmlaaGreatDoorVvMkV
import Derived.Test.YtcbadebjpogmlaaGreatDoorVvTxI
import Derived.Great.Ranges
set_option maxHeartbeats 4000000
set_option maxRecDepth 100000
namespace Go.Proofs.YtcbadebjpogmlaaGreatDoor
open Go.RowKit Tr Go.Proofs.Tryz
def dx(a:List Ct):List Value:=(List.range 11).flatMap λi=>[.int .i64 ((aG a i).eB:Nat),.int .i64 ((aG a i).al:Nat)]
theorem mD(a:List Ct):dx a=[.int .i64 ((aG a 0).eB:Nat),.int .i64 ((aG a 0).al:Nat),.int .i64 ((aG a 1).eB:Nat),.int .i64 ((aG a 1).al:Nat),.int .i64 ((aG a 2).eB:Nat),.int .i64 ((aG a 2).al:Nat),.int .i64 ((aG a 3).eB:Nat),.int .i64 ((aG a 3).al:Nat),.int .i64 ((aG a 4).eB:Nat),.int .i64 ((aG a 4).al:Nat),.int .i64 ((aG a 5).eB:Nat),.int .i64 ((aG a 5).al:Nat),.int .i64 ((aG a 6).eB:Nat),.int .i64 ((aG a 6).al:Nat),.int .i64 ((aG a 7).eB:Nat),.int .i64 ((aG a 7).al:Nat),.int .i64 ((aG a 8).eB:Nat),.int .i64 ((aG a 8).al:Nat),.int .i64 ((aG a 9).eB:Nat),.int .i64 ((aG a 9).al:Nat),.int .i64 ((aG a 10).eB:Nat),.int .i64 ((aG a 10).al:Nat)]:=rfl
theorem cH(a:List Ct):(dx a).length=22:=by rw[mD];rfl
theorem sM(a:List Ct):∀k,k<11->(dx a)[k*2]?=some (.int .i64 ((aG a k).eB:Nat))/\(dx a)[k*2+1]?=some (.int .i64 ((aG a k).al:Nat)):=by intro k b;rw[mD];have:k=0\/k=1\/k=2\/k=3\/k=4\/k=5\/k=6\/k=7\/k=8\/k=9\/k=10:=om;rcases this with rfl|rfl|rfl|rfl|rfl|rfl|rfl|rfl|rfl|rfl|rfl<;>exact⟨rfl,rfl⟩
theorem oE(b:List Ct):∀v∈dx b,v.oneCell'=true:=λv a=>by unfold dx at a;obtain⟨i,_,h⟩:=fE.1 a;simp only[List.mem_cons,List.not_mem_nil,or_false]at h;rcases h with rfl|rfl<;>rfl
theorem dJ:(prog.info? 202).map (λi=>i.size)=some 22:=by kernel_rfl
theorem Ro{tl tl':List Ct}{k:Nat}(a:k<11)(h:∀j,j≠k->aG tl' j=aG tl j):((dx tl).toArray.setIfInBounds (k*2) (.int .i64 ((aG tl' k).eB:Nat))).setIfInBounds (k*2+1) (.int .i64 ((aG tl' k).al:Nat))=(dx tl').toArray:=by
 have:k=0\/k=1\/k=2\/k=3\/k=4\/k=5\/k=6\/k=7\/k=8\/k=9\/k=10:=om;rw[mD,mD];rcases this with rfl|rfl|rfl|rfl|rfl|rfl|rfl|rfl|rfl|rfl|rfl;all_goals
  simp only[List.setIfInBounds_toArray,List.set_cons_zero,List.set_cons_succ,Nat.reduceMul,Nat.reduceAdd];try rw[h 0 de]
  try rw[h 1 de]
  try rw[h 2 de]
  try rw[h 3 de]
  try rw[h 4 de]
  try rw[h 5 de]
  try rw[h 6 de]
  try rw[h 7 de]
  try rw[h 8 de]
  try rw[h 9 de]
  try rw[h 10 de]
variable{d:List Ct}{n k i j m g:Nat}
theorem wI:aG (d.take n) k=if k<n then aG d k else⟨0,0⟩:=by grind[aG]
variable{w:World}
theorem jx{a:Array Value}{T:TypeId}(h:V w n a T)(c:a.size=k):w.there n 0 k:=λj b=>by rw[Nat.zero_add];refine⟨?_,h.fz j⟩;rw[h.cell j];simp;omega
theorem eM:∀(c:List Value)(a:List Value)(rest:List Value){w:World}{b:Nat}{T:TypeId},V w b (a++rest).toArray T->rest.length=c.length->V (w.setCells b a.length c) b (a++c).toArray T
 |[],a,rest,w,b,T,h,d=>by have:rest=[]:=CG (by simpa using d);subst this;exact h|v::c,a,[],w,b,T,h,d=>by simp at d|v::c,a,r::rest,w,b,T,h,d=>by
  have f:=h.set a.length v;have e:(a++r::rest).toArray.setIfInBounds a.length v=((a++[v])++rest).toArray:=by grind
  rw[e]at f;have:=eM c (a++[v]) rest f (by simpa using d);simp only[List.length_append,List.length_cons,List.length_nil,List.append_assoc]at this;exact this
theorem dO{K:Nat->Prop}:∀(a:List Value)(o:Nat){c w:World}{b:Nat},Fr K c w->(K b\/c.heap.size<=b)->Fr K c (w.setCells b o a)|[],_,_,_,_,h,_=>h|v::a,o,_,_,b,h,d=>dO a (o+1) (h.setCell (aD b o) d v) d
def ba:Array Value:=#[.int .i64 0,.int .i64 0,.int .i64 0,.int .i64 0,.int .i64 0,.int .i64 0,.int .i64 0,.int .i64 0,.int .i64 0,.int .i64 0,.int .i64 0,.int .i64 0,.int .i64 0,.int .i64 0,.int .i64 0,.int .i64 0,.int .i64 0,.int .i64 0,.int .i64 0,.int .i64 0,.int .i64 0,.int .i64 0]
def gN(a:Nat):Array Value:=#[.int .i64 0,.int .i64 (a:Nat),.int .i64 0,.int .i64 0,.int .i64 0,.int .i64 0,.int .i64 0,.int .i64 0,.int .i64 0,.int .i64 0,.int .i64 0,.int .i64 0,.int .i64 0,.int .i64 0,.int .i64 0,.int .i64 0,.int .i64 0,.int .i64 0,.int .i64 0,.int .i64 0,.int .i64 0,.int .i64 0]
theorem firstT(b:List Ct)(a:Nat)(h:(aG b 0).al=a)(c:(aG b 0).eB=0):gN a=(dx (b.take 1)).toArray:=by grind[wI,mD,gN]
theorem BW(a:Nat):(gN a).all (·.oneCell')=true:=all_oneCell_toArray (cs:=(gN a).toList) (by intro v b;simp only[gN,List.mem_cons,List.not_mem_nil,or_false]at b;rcases b with rfl|rfl|rfl|rfl|rfl|rfl|rfl|rfl|rfl|rfl|rfl|rfl|rfl|rfl|rfl|rfl|rfl|rfl|rfl|rfl|rfl|rfl<;>rfl)
variable{a:Act}
theorem ey{P:Program}{g:Array Oper}{d:List Oper}{o:Oper}{b:Exit->Act->World->Prop}(q:o.guard=none)(t:TypeId)(r:o.op=.alloc t)(e:Option Tmp)(f:o.dst=e)(N:Nat)(n:w.heap.size=N)(z:Value)(l:(P.info? t).bind (·.zero)=some z)(c:Array Value)(p:z.cells=c)(h:wpList P g b d (a.put e (pT N)) (w.alloc (.cells c t))):wpList P g b (o::d) a w:=by
 subst f n p;refine wpList_plain q λK m=>?_;cases j:P.info? t with|none=>simp[j]at l|some i=>
  have k:i.zero=some z:=by simpa[j]using l
  have s:(typeInfo t).run P w=.ok i w:=by simp[typeInfo,j]
  unfold Oper.wp execOp;simp only[r,Sem.run_bind,Instr.alloc,zeroValue,s,k,newVar,newRow,run_newObj_alloc,Sem.run_pure,Result.andThen_ok];exact m _ _ h
theorem jz:(prog.info? 202).bind (·.zero)=some (.agg ba):=by kernel_rfl
theorem sO(x y:Value):prog.built 202 [(0,.agg #[x,y])]=some #[x,y,.int .i64 0,.int .i64 0,.int .i64 0,.int .i64 0,.int .i64 0,.int .i64 0,.int .i64 0,.int .i64 0,.int .i64 0,.int .i64 0,.int .i64 0,.int .i64 0,.int .i64 0,.int .i64 0,.int .i64 0,.int .i64 0,.int .i64 0,.int .i64 0,.int .i64 0,.int .i64 0]:=by kernel_rfl
theorem BX(a:Nat):prog.built 202 [(0,.agg #[.int .i64 0,.int .i64 (a:Nat)])]=some (gN a):=sO _ _
theorem qf(a:Nat):(gN a).size=22:=rfl
theorem eK:ba.size=22:=rfl
variable{c:Ending->World->Prop}{f:List Value}
theorem WS(g:a.defers=[])(e:a.tmps[6]?.getD undef=pT n)(b:V w n f.toArray 202)(i:f.length=22)(d:c (.returned (.agg f.toArray)) w):bodyPost prog f143 c .ret a w:=by refine bodyPost_ret (v:=.agg f.toArray) ?_ g d;have h:=run_loadVar_mid (P:=prog) w n 0 202 f (.array 11 200) (λj v k=>by rw[Nat.zero_add,b.cell j,kL];exact k) (by kernel_rfl) rfl (by rw[i];exact dJ);simp[results,results143,e,asAddr,h]
def Yc(w:World)(a:Array Value):World:=((w.alloc (.cells a 202)).alloc (.cells ba 202)).alloc (.cells ba 202)
def Yd(w:World)(b:Array Value)(a:Nat):World:=(Yc w b).setCells (w.heap.size+1+1) 0 (gN a).toList
theorem Mz(w:World)(a:Array Value):Q w (Yc w a)/\V (Yc w a) w.heap.size a 202/\V (Yc w a) (w.heap.size+1) ba 202/\V (Yc w a) (w.heap.size+1+1) ba 202:=by
 refine⟨(((Fr.refl _ w).alloc _).alloc _).alloc _,((V.new w a _).alloc _).alloc _,?_,?_⟩;.have:=(V.new (w.alloc (.cells a 202)) ba 202).alloc (.cells ba 202);rw[World.size_alloc]at this;exact this
 have:=V.new ((w.alloc (.cells a 202)).alloc (.cells ba 202)) ba 202;rw[World.size_alloc,World.size_alloc]at this;exact this
theorem WT(w:World)(b:Array Value)(a:Nat):Q w (Yd w b a)/\V (Yd w b a) w.heap.size b 202/\V (Yd w b a) (w.heap.size+1) ba 202/\V (Yd w b a) (w.heap.size+1+1) (gN a) 202:=by obtain⟨c,d,e,g⟩:=Mz w b;have f:Fr (λk=>k=w.heap.size+1+1) (Yc w b) (Yd w b a):=dO _ _ (Fr.refl _ _) (Y rfl);refine⟨dO _ _ c (I om),d.fr f om,e.fr f om,?_⟩;exact eM (gN a).toList [] ba.toList g (by unfold ba gN;rfl)
variable{q:ByteArray}{b:List Sg}
theorem uS(hp:gW w n q b)(hx:b.length<=10)(U:cD b<=10)(hb:xp b k d)(hd:k<=8){pb:Nat}{c:Tv}{Mu:Value}(hv:Rm w i pb c j m Mu)(R:∀p(h:p<b.length),0<(if b[p].deep=true then(aG d p).al else(aG d p).eB)->nj w b[p].l i c g Mu):Calls prog 143 #[pT n,pT i,.agg (dx d).toArray] w λr w'=>r=.returned (.agg (dx (cZ b j g m c d)).toArray)/\Q w w':=by
 obtain⟨sv,l,Dp,hbk,T,hxl,hx1⟩:=hp;obtain⟨ao,cp,rfl⟩:=X T.o;have tD:l.length=b.length:=hxl.symm;rw[tD]at hbk;have Tb:=hbk.lt;have c1:w.cell? (aD n 1)=some (.slice ao b.length cp):=hbk.cell 1;have hB':=qy hb j g m c;obtain⟨u,z⟩:∃u,u=cZ b j g m c d:=⟨_,rfl⟩;rw[<-z]at hB'⊢;have hf0:(aG u 0).eB=0/\(aG u 0).al=(aG d 0).al:=by rw[z];refine⟨rfl,?_⟩;show(d.headD ⟨0,0⟩).al=_;cases d<;>rfl
 have hfk:∀p(h:p<b.length),aG u (p+1)=⟨(if b[p].deep=true then(aG d p).al else(aG d p).eB)*dX b[p].l j g m c,(aG d (p+1)).al+(if b[p].deep=true then(aG d p).al else(aG d p).eB)*dX b[p].l j g m c⟩:=λp h=>by rw[z];exact kX _ _ _ _ _ _ hb.len p h
 have S:u.length=b.length+1:=hB'.len;obtain⟨F,hcs⟩:∃F,F=(dx d).toArray:=⟨_,rfl⟩;have hcz:F.size=22:=by rw[hcs,List.size_toArray,cH]
 have x:∀p,p<11->F[p*2]?=some (.int .i64 ((aG d p).eB:Nat))/\F[p*2+1]?=some (.int .i64 ((aG d p).al:Nat)):=λp hk=>by rw[hcs,kL,kL];exact sM d p hk
 obtain⟨W3,T_⟩:∃W3,W3=Yd w F (aG d 0).al:=⟨_,rfl⟩;have ST:=WT w F (aG d 0).al;rw[firstT u _ hf0.2 hf0.1,<-T_]at ST;obtain⟨W1,L⟩:∃W1,W1=(w.alloc (.cells F 202)).alloc (.cells ba 202):=⟨_,rfl⟩;have wa1:W1.cell? (aD w.heap.size 1)=some (.int .i64 ((aG d 0).al:Nat)):=by rw[L];exact(((V.new w F 202).alloc _).cell 1).trans (x 0 de).2
 have hs1:W1.heap.size=w.heap.size+1+1:=by rw[L,World.size_alloc,World.size_alloc]
 have c13:W3.cell? (aD n 1)=some (.slice ao b.length cp):=(ST.1.cell (p:=aD n 1) Tb id).trans c1;have ST:=Z ST;have HO1:=Z (BW (aG d 0).al);have HTH:Hid ((W1.alloc (.cells ba 202)).there (w.heap.size+1+1) 0 22):=by rw[L];exact jx (Mz w F).2.2.2 (by unfold ba;rfl)
 have Ot:Hid (W3=(W1.alloc (.cells ba 202)).setCells (w.heap.size+1+1) 0 (gN (aG d 0).al).toList):=by rw[L];exact T_
 have HR:=Z T;have HV:=Z hv;have Rp:=Z R;have HFK:=Z hfk;have HB:=Z hb;have tq:=Z tD;have HCE:=Z x;have HLF:=Z S;have HB2:=Z hB';have me:=Z L;have HS1:=Z hs1;rw[<-hcs];clear T_ L hs1 T hv R hfk hb tD x hcs z hf0 hbk S hB' c1;go_enter func143,ntmps143;apply wp_seq_k;intro K0 M;apply wp_region_lit;refine Great.wpList_boxTo rfl 202 _ rfl (some 5) rfl w.heap.size rfl F rfl ?_;refine ey rfl 202 rfl (some 6) rfl (w.heap.size+1) (World.size_alloc _ _) (.agg ba) jz ba rfl ?_;apply wpList_nil;refine M _ _ ?_;clear K0 M;rw[<-me.o];simp only[Act.put,List.setIfInBounds_toArray,List.set_cons_zero,List.set_cons_succ];apply wp_seq_k;intro K0 M;apply wp_region_lit;iterate 12 go_step
 refine wpList_buildTo rfl 202 #[(0,Operand.tmp 14)] rfl (some 15) rfl (gN (aG d 0).al) (by simp only[List.map_toArray,List.map_cons,List.map_nil];exact BX (aG d 0).al) ?_;refine ey rfl 202 rfl (some 7) rfl (w.heap.size+1+1) HS1.o (.agg ba) jz ba rfl ?_;refine wpList_store_mid rfl 202 (.tmp 7) (.tmp 15) rfl (w.heap.size+1+1) 0 (gN (aG d 0).al) rfl rfl (by rw[qf];exact HTH.o) (by rw[qf];exact dJ) HO1.o ?_;apply wpList_nil;refine M _ _ ?_;clear K0 M;rw[<-Ot.o];simp only[Act.put,List.setIfInBounds_toArray,List.set_cons_zero,List.set_cons_succ];go_wp2;go_loopw[21]λii wr=>∃p:Nat,p<=b.length/\ii=.int .i64 p/\Q w wr/\V wr w.heap.size F 202/\V wr (w.heap.size+1) ba 202/\V wr (w.heap.size+1+1) (dx (u.take (p+1))).toArray 202λii _=>b.length-(intOf ii).toNat;case atStart=>exact⟨0,aT _,rfl,ST.o.1,ST.o.2.1,ST.o.2.2.1,ST.o.2.2.2⟩
 case round=>
  obtain⟨p,hk,rfl,hK,Tz,zY,Aw⟩:=hrel;have KK:=Z hK;have B1:=Z Tz;have B2:=Z zY;have B3:=Z Aw;clear hK Tz zY Aw ST Ot HTH HO1 c13 wa1;by_cases hlt:p<b.length
  .obtain⟨a,cap,hv,NK,nP⟩:=HR.o.o.form (by have:=tq.o;omega);rw[tq.o]at hv;simp only[Value.slice.injEq,true_and]at hv;obtain⟨rfl,rfl⟩:=hv;have nV:∀c:Nat,wr.cell? (aD a c)=w.cell? (aD a c):=λc=>KK.o.cell (p:=aD a c) nP id;have hkl:p<l.length:=by have:=tq.o;omega
   have x:∀c:Nat,c<3->wr.cell? (aD a (p*3+c))=(l[p]).cells[c]?:=λc hc=>((nV _).trans (HR.o.o.cellAt (p*3+c) (by rw[tq.o];omega))).trans (lS l p c hc hkl);have Vc:=x 0 de;have Vd:=x 1 de;have XH:=x 2 de;clear x nV;have Az:∀W,Q w W->Fp W l[p] b[p]:=λW K=>HR.o.ok p hkl W (Sm.fr HR.o.ft K λ_ _ y=>y) _ (fB hlt);generalize hs:l[p]=s at*;simp only[GV.cells,List.getElem?_cons_zero,List.getElem?_cons_succ,Nat.add_zero]at Vc Vd XH;obtain⟨A,B⟩:∃A,A=wr.alloc (.cells #[.func s.f s.x s.y,.func s.f' s.x' s.y',.bool s.b] 128):=⟨_,rfl⟩;have J:Q w A:=by rw[B];exact KK.o.alloc _
   have BS:V A wr.heap.size #[.func s.f s.x s.y,.func s.f' s.x' s.y',.bool s.b] 128:=by rw[B];exact V.new wr _ _
   have b1:V A w.heap.size F 202:=by rw[B];exact B1.o.alloc _
   have b2:V A (w.heap.size+1) ba 202:=by rw[B];exact B2.o.alloc _
   have b3:V A (w.heap.size+1+1) (dx (u.take (p+1))).toArray 202:=by rw[B];exact B3.o.alloc _
   obtain⟨N,JH,hfn,hE,P⟩:=(Az A.drew (J.drewN 1)).2.c;simp only[Value.func.injEq]at hfn;obtain⟨e1,e2,e3⟩:=hfn;rw[e1,e2,e3]at Vd B BS;have n0:=(HB.o.lt om U p);have n1:=(HB.o.lt om U (p+1));have n2:=(HB2.o.lt om U (p+1));have fk:=HFK.o p hlt;have lt5:=Rp.o p hlt;obtain⟨C,H⟩:∃C,C=(aG d p).eB:=⟨_,rfl⟩;obtain⟨al,hal⟩:∃al,al=(aG d p).al:=⟨_,rfl⟩;obtain⟨D,G⟩:∃D,D=(aG d (p+1)).al:=⟨_,rfl⟩;obtain⟨t,hm⟩:∃t,t=(if b[p].deep=true then al else C)*dX b[p].l j g m c:=⟨_,rfl⟩;rw[<-H,<-hal]at lt5 n0;rw[<-H,<-hal,<-G,<-hm]at fk;rw[<-G]at n1;rw[fk]at n2;have S0:A.cell? (aD wr.heap.size 1)=some (.func (.func N) #[] JH):=BS.cell 1;have S1:A.cell? (aD w.heap.size (p*2))=some (.int .i64 (C:Nat)):=by rw[H];exact(b1.cell (p*2)).trans (HCE.o p om).1
   have S2:A.cell? (aD w.heap.size (p*2+1))=some (.int .i64 (al:Nat)):=by rw[hal];exact(b1.cell (p*2+1)).trans (HCE.o p om).2
   have KS:Hid (∀W,Q A W->W.cell? (aD wr.heap.size 1)=some (.func (.func N) #[] JH)/\W.cell? (aD w.heap.size (p*2))=some (.int .i64 (C:Nat))/\W.cell? (aD w.heap.size (p*2+1))=some (.int .i64 (al:Nat))):=λW K=>⟨(K.cell (p:=aD wr.heap.size 1) BS.lt id).trans S0,(K.cell (p:=(aD w.heap.size (p*2))) b1.lt id).trans S1,(K.cell (p:=(aD w.heap.size (p*2+1))) b1.lt id).trans S2⟩;have Pr:Hid (Calls prog N (#[.agg #[.int .i64 (C:Nat),.int .i64 (al:Nat)],pT i]++JH) A.drew λr w'=>r=.returned (.int .i64 (t:Nat))/\Q A w'):=by have:=P C al om om i pb c j m g Mu (HV.o.keep (J.drewN 1)) λh=>(lt5 h).keep (J.drewN 1);rw[<-hm]at this;exact this.mono λr w'⟨q1,q2⟩=>⟨q1,((Fr.refl _ A).drewN 1).trans q2⟩
   have U9:Hid (∀W,Q A W->W.cell? (aD w.heap.size ((p+1)*2+1))=some (.int .i64 (D:Nat))/\(∃v,W.cell? (aD (w.heap.size+1+1) ((p+1)*2))=some v)/\(∃v,W.cell? (aD (w.heap.size+1+1) ((p+1)*2+1))=some v)/\(∀m,W.frozen? (aD (w.heap.size+1+1) m)=false)):=λW K=>by
    have x1:=b1.fr K id;have x3:=b3.fr K id;refine⟨by rw[G];exact(x1.cell _).trans (HCE.o (p+1) om).2,?_,?_,x3.fz⟩;.exact⟨_,(x3.cell _).trans (by rw[kL];exact(sM _ (p+1) om).1)⟩
    exact⟨_,(x3.cell _).trans (by rw[kL];exact(sM _ (p+1) om).2)⟩
   have xr:Hid (∀W,Q A W->∀W',W'=(W.setCell (aD (w.heap.size+1+1) ((p+1)*2)) (.int .i64 (t:Nat))).setCell (aD (w.heap.size+1+1) ((p+1)*2+1)) (.int .i64 ((D+t:Nat):Int))->Q w W'/\V W' w.heap.size F 202/\V W' (w.heap.size+1) ba 202/\V W' (w.heap.size+1+1) (dx (u.take (p+1+1))).toArray 202):=λW K W' hW'=>by
    have x1:=b1.fr K id;have x2:=b2.fr K id;have x3:=b3.fr K id;subst hW';have f:Fr (λp=>p=w.heap.size+1+1) W ((W.setCell (aD (w.heap.size+1+1) ((p+1)*2)) (.int .i64 (t:Nat))).setCell (aD (w.heap.size+1+1) ((p+1)*2+1)) (.int .i64 ((D+t:Nat):Int))):=((Fr.refl (λp=>p=w.heap.size+1+1) W).setCell (aD (w.heap.size+1+1) ((p+1)*2)) (Y rfl) _).setCell (aD (w.heap.size+1+1) ((p+1)*2+1)) (Y rfl) _;refine⟨((J.trans K).setCell ⟨_,_,none⟩ (I (by show w.heap.size<=w.heap.size+1+1;omega)) _).setCell ⟨_,_,none⟩ (I (by show w.heap.size<=w.heap.size+1+1;omega)) _,x1.fr f om,x2.fr f om,?_⟩;have:=(x3.set ((p+1)*2) (.int .i64 (t:Nat))).set ((p+1)*2+1) (.int .i64 ((D+t:Nat):Int));have e:=Ro (tl:=u.take (p+1)) (tl':=u.take (p+1+1)) (k:=p+1) om (λo hj=>by grind[wI]);have e1:aG (u.take (p+1+1)) (p+1)=⟨t,D+t⟩:=by rw[wI,ae om];exact fk
    grind
   have HWk:=Z B;have K00:=Z J;have HEN:=Z hE;clear P Az BS b1 b2 b3 S0 S1 S2 fk lt5 H hal G hm J B;go_wp2;rw[<-HWk.o];go_region_heldλw'=>w'.cell? (aD wr.heap.size 1)=some (.func (.func N) #[] JH)/\w'.cell? (aD w.heap.size (p*2))=some (.int .i64 (C:Nat))/\w'.cell? (aD w.heap.size (p*2+1))=some (.int .i64 (al:Nat))(first|exact KS.o _ ((Fr.refl _ _).drewN 1)|exact KS.o _ (by assumption))(first|(refine Pr.o.mono ?_;rintro r w1⟨rfl,oH⟩;have KK1:=Z oH));all_goals
    obtain⟨a1,⟨v1,a2⟩,⟨v2,a3⟩,a4⟩:=U9.o _ KK1.o;have KNX:=Z (xr.o _ KK1.o);clear U9 xr KS Pr oH;go_wp2;go_roundw;case rel=>exact⟨p+1,om,by go_num,KNX.o _ (by rw[Int.natCast_add])⟩
    case measure=>simp[intOf];omega
  have hks:p=b.length:=om;subst hks;have aaN:(dx (u.take (b.length+1))).toArray=(dx u).toArray:=by rw[gv (by rw[HLF.o];omega)]
  have b3:=B3.o;rw[aaN]at b3;have RA:Hid (wr.rangeAt (w.heap.size+1+1) 0 (dx u)):=λo v hv=>by rw[Nat.zero_add,b3.cell o,kL];exact hv
  have TH:Hid (wr.there (w.heap.size+1) 0 (dx u).toArray.size):=jx B2.o (eK.trans (cH u).symm);have IA:Hid ((prog.info? 202).map (·.size)=some (dx u).length):=by rw[cH];exact dJ
  have IB:Hid ((prog.info? 202).map (·.size)=some (dx u).toArray.size):=by rw[List.size_toArray];exact IA.o
  have ON:Hid ((dx u).toArray.all (·.oneCell')=true):=all_oneCell_toArray (oE u);have Fk:Hid (V (wr.setCells (w.heap.size+1) 0 (dx u).toArray.toList) (w.heap.size+1) (dx u).toArray 202/\Q w (wr.setCells (w.heap.size+1) 0 (dx u).toArray.toList)):=by refine⟨?_,dO _ _ KK.o (I om)⟩;exact eM (dx u) [] ba.toList B2.o ((show _=(dx u).length from by rw[cH];unfold ba;rfl))
  clear aaN b3 B1 B2 B3 KK;go_wp2_with(first|refine wpList_load_mid rfl 202 (.tmp 7) rfl (w.heap.size+1+1) 0 rfl (dx u) (.array 11 200) RA.o (by kernel_rfl) rfl IA.o ?_|refine wpList_store_mid rfl 202 (.tmp 6) (.tmp 46) rfl (w.heap.size+1) 0 (dx u).toArray rfl rfl TH.o IB.o ON.o ?_);exact WS rfl rfl Fk.o.1 (cH u) ⟨rfl,Fk.o.2⟩
def sP:Array Value:=#[.int .i64 1,.int .i64 1,.int .i64 0,.int .i64 0,.int .i64 0,.int .i64 0,.int .i64 0,.int .i64 0,.int .i64 0,.int .i64 0,.int .i64 0,.int .i64 0,.int .i64 0,.int .i64 0,.int .i64 0,.int .i64 0,.int .i64 0,.int .i64 0,.int .i64 0,.int .i64 0,.int .i64 0,.int .i64 0]
theorem kq(n k:Nat)(h:0<k):aG (b8 n) k=⟨0,0⟩:=by grind[aG,b8]
theorem Ez(n:Nat):(dx (b8 n)).toArray=sP:=by rw[mD];simp only[kq n _ (by decide:0<1),kq n _ (by decide:0<2),kq n _ (by decide:0<3),kq n _ (by decide:0<4),kq n _ (by decide:0<5),kq n _ (by decide:0<6),kq n _ (by decide:0<7),kq n _ (by decide:0<8),kq n _ (by decide:0<9),kq n _ (by decide:0<10)];rfl
theorem MA:prog.built 202 [(0,.agg #[.int .i64 1,.int .i64 1])]=some sP:=sO _ _
theorem pI:sP.size=22:=rfl
theorem MB:sP.all (·.oneCell')=true:=by rw[<-Ez 0];exact all_oneCell_toArray (oE _)
theorem Rq(g:a.defers=[])(e:a.tmps[0]?.getD undef=pT n)(b:V w n f.toArray 202)(i:f.length=22)(d:c (.returned (.agg f.toArray)) w):bodyPost prog f142 c .ret a w:=by refine bodyPost_ret (v:=.agg f.toArray) ?_ g d;have h:=run_loadVar_mid (P:=prog) w n 0 202 f (.array 11 200) (λj v k=>by rw[Nat.zero_add,b.cell j,kL];exact k) (by kernel_rfl) rfl (by rw[i];exact dJ);simp[results,results142,e,asAddr,h]
theorem Rl(n:Nat):Calls prog 142 #[] w λr e=>r=.returned (.agg (dx (b8 n)).toArray)/\Q w e:=by
 have d:Hid ((w.alloc (.cells ba 202)).there w.heap.size 0 sP.size):=by rw[pI];exact jx (V.new w ba 202) eK
 have a:Hid (V ((w.alloc (.cells ba 202)).setCells w.heap.size 0 sP.toList) w.heap.size (dx (b8 n)).toArray 202/\Q w ((w.alloc (.cells ba 202)).setCells w.heap.size 0 sP.toList)):=by refine⟨?_,dO _ _ ((Fr.refl _ w).alloc _) (I lr)⟩;rw[Ez];exact eM sP.toList [] ba.toList (V.new w ba 202) (eK.trans pI.symm)
 go_enter func142,ntmps142;apply wp_seq_k;intro c b;apply wp_region_lit;refine ey rfl 202 rfl (some 0) rfl w.heap.size rfl (.agg ba) jz ba rfl ?_;apply wpList_nil;refine b _ _ ?_;clear c b;simp only[Act.put,List.setIfInBounds_toArray,List.set_cons_zero];go_wp2_with(first|refine wpList_buildTo rfl 202 #[(0,Operand.tmp 1)] rfl (some 2) rfl sP (by simp only[List.map_toArray,List.map_cons,List.map_nil];exact MA) ?_|refine wpList_store_mid rfl 202 (.tmp 0) (.tmp 2) rfl w.heap.size 0 sP rfl rfl d.o (by rw[pI];exact dJ) MB ?_);exact Rq rfl rfl a.o.1 (cH _) ⟨rfl,a.o.2⟩
theorem EB(a:List Sg):ay a<=a.length:=List.findIdx_le_length
theorem WL(h:gW w n q b):Calls prog 106 #[pT n] w λr j=>r=.returned (.bool (decide (ay b<b.length)))/\Q w j:=by obtain⟨sv,l,k,a,c,e,i⟩:=h;obtain⟨f,g,rfl⟩:=X c.o;have d:l.length=b.length:=e.symm;rw[d]at a;have c1:w.cell? (aD n 1)=some (.slice f b.length g):=a.cell 1;have c2:w.cell? (aD n 2)=some (.int .i64 (ay b:Nat)):=a.cell 2;have m:=EB b;generalize ay b=o at*;clear a c e d;go_enter func106,ntmps106;go_wp2;go_quiet(fail);go_wp2;go_ret;exact⟨si,(Fr.refl _ _).drewN _⟩
theorem Mv(s:gW w n q b)(C:b.length<=10)(d:List Ct):Calls prog 107 #[pT n,.agg (dx d).toArray] w λr v=>r=.returned (.bool (decide (0<(aG d (ay b)).eB)))/\Q w v:=by
 obtain⟨sv,l,x,e,h,u,t⟩:=s;have m:=e.lt;have c2:w.cell? (aD n 2)=some (.int .i64 (ay b:Nat)):=e.cell 2;have A:=EB b;obtain⟨f,c⟩:∃f,f=w.alloc (.cells (dx d).toArray 202):=⟨_,rfl⟩;have j:Q w f:=by rw[c];exact(Fr.refl _ w).alloc _
 have c3:f.cell? (aD n 2)=some (.int .i64 (ay b:Nat)):=(j.cell (p:=aD n 2) m id).trans c2;have z:f.cell? (aD w.heap.size (ay b*2))=some (.int .i64 ((aG d (ay b)).eB:Nat)):=by rw[c,(V.new w (dx d).toArray 202).cell,kL];exact(sM d _ om).1
 generalize(aG d (ay b)).eB=a at*;generalize ay b=B at*;obtain⟨k,g⟩:∃k,k=(dx d).toArray:=⟨_,rfl⟩;rw[<-g]at c⊢;have i:=Z c;have o:=Z j;clear e h c2 j c g;go_enter func107,ntmps107;apply wp_seq_k;intro y p;apply wp_region_lit;refine Great.wpList_boxTo rfl 202 _ rfl (some 3) rfl w.heap.size rfl k rfl ?_;rw[<-i.o];simp only[Act.put,List.setIfInBounds_toArray,List.set_cons_zero,List.set_cons_succ];go_wp2;go_ret;exact⟨si,o.o⟩
theorem zD(b:List Sg):∀(n:Nat)(t:Tv)(c:List Ct),(b7 b n t c).length<=(ai n t).length
 |0,_,_=>aP _|n+1,t,c=>by
  show((t.ws.zipIdx.flatMap λp=>b7 b n p.1 (cZ b t.d.kind t.ws.length p.2 p.1 c))++(if 0<(aG c b.length).eB then[(t,(aG c b.length).eB)]else[])).length<=(t::t.ws.flatMap (ai n)).length;have d:∀(l:List Tv)(i m:Nat),((l.zipIdx i).flatMap λp=>b7 b n p.1 (cZ b t.d.kind m p.2 p.1 c)).length<=(l.flatMap (ai n)).length:=by intro l;induction l with|nil=>intro _ _;simp|cons a l f=>intro i m;have e:=f (i+1) m;have g:=zD b n a (cZ b t.d.kind m i a c);simp only[List.zipIdx_cons,List.flatMap_cons,List.length_append];omega
  have e:=d t.ws 0 t.ws.length;grind
theorem wJ(n:Nat)(a:List Tv)(j:Nat):((a.take j).flatMap (ai n)).length<=(a.flatMap (ai n)).length:=by
 have e:a.flatMap (ai n)=(a.take j).flatMap (ai n)++(a.drop j).flatMap (ai n):=by rw[<-iy,iU]
 rw[e,cG];omega
structure Ud(fv:Value)(PW:World->Prop)(R:World->(Nat->Prop)->List (Tv×Nat)->Prop)(A:Nat->Nat)(ok:Tv->Prop):Prop where
 lt:∀{W D ts k},R W D ts->D k->k<W.heap.size
 w0:∀{W D ts},R W D ts->PW W
 keep:∀{W W' D ts},R W D ts->Q W W'->R W' D ts
 call:∃N first cap,fv=.func (.func N) first cap/\(∀args w,(callFunc N args).run prog w=.ok (.enter N args) w)/\∀{W:World}{D:Nat->Prop}{ts:List (Tv×Nat)}{v:Tv}{k:Nat},R W D ts->ok v->k<=524288->ts.length<5000000->Calls prog N (first++(#[lF (A v.d.af),.int .i64 (k:Nat)]++cap)) W λr W'=>r=.returned (.tuple #[])/\∃D',R W' D' (ts++[(v,k)])/\(∀k,D' k->D k\/W.heap.size<=k)/\Fr D W W'
def l7(a:List Sg)(n:Nat)(t:Tv)(b:List Ct)(j:Nat):List (Tv×Nat):=(t.ws.zipIdx.take j).flatMap λp=>b7 a n p.1 (cZ a t.d.kind t.ws.length p.2 p.1 b)
theorem uT(b:List Sg)(a:Nat)(t:Tv)(c:List Ct)(h:n<t.ws.length):l7 b a t c (n+1)=l7 b a t c n++b7 b a t.ws[n] (cZ b t.d.kind t.ws.length n t.ws[n] c):=by
 unfold l7;have d:n<t.ws.zipIdx.length:=by simpa using h
 rw[eC d,iy];simp
theorem sQ(b:List Sg)(n:Nat)(t:Tv)(a:List Ct):∀j,j<=t.ws.length->(l7 b n t a j).length<=((t.ws.take j).flatMap (ai n)).length|0,_=>by simp[l7]|j+1,h=>by rw[uT b n t a om,eC om,iy,cG,cG];have c:=sQ b n t a j om;grind[zD,cZ]
theorem Ey {PW:World->Prop} {b:Nat} {tt:ByteArray} {xs:List Sg} (hp:∀W,PW W->gW W b tt xs) (hx:xs.length<=10) (hsel:cD xs<=10) {fv:Value} {R:World->(Nat->Prop)->List (Tv×Nat)->Prop} {A:Nat->Nat} {ok:Tv->Prop} (hV:Ud fv PW R A ok) {C:Nat->Prop} :
 ∀(n:Nat) {par:Value} {ix:Nat} {t:Tv} {d:Nat} {tl:List Ct} {w:World} {D:Nat->Prop} {ts:List (Tv×Nat)},n+d<=10->xp xs d tl->R w D ts->PT w A C n par ix t->(∀k,C k->k<w.heap.size/\¬D k)->(∀v ∈ ai n t,ok v)->ts.length+(ai n t).length<=5000000 ->
 Calls prog 108 #[pT b,lF (A t.d.af),.agg (dx tl).toArray,fv] w (λr w'=>r=.returned (.tuple #[])/\∃D',R w' D' (ts++b7 xs n t tl)/\(∀k,D' k->D k\/w.heap.size<=k)/\Fr D w w')
 | 0,_,_,_,_,_,_,_,_,_,_,_,h,_,_,_=>h.elim
 | n+1,par,ix,t,d,tl,w,D,ts,hnd,hb,hR,hT,hC,hok,hlen=>by
  obtain ⟨N,first,cap,hfv,hE,pN⟩:=hV.call
  have hT0:=hT
  obtain ⟨hCA,hDO,hwl,⟨sv,Ye,aaP,hown⟩,aaQ⟩:=hT
  obtain ⟨ao,cp,rfl⟩:=X hown
  obtain ⟨W1,mQ⟩:∃W1,W1=w.alloc (.cells (dx tl).toArray 202):=⟨_,rfl⟩
  have K1:Q w W1:=by rw [mQ]; exact (Fr.refl _ w).alloc _
  have hs1:W1.heap.size=w.heap.size+1:=by rw [mQ,World.size_alloc]
  have tb1:V W1 w.heap.size (dx tl).toArray 202:=by rw [mQ]; exact V.new w _ _
  have c8:W1.cell? (aD (A t.d.af) 8)=some (.slice ao t.ws.length cp):=(Ye.fr K1 id).cell 8
  have R1:=hV.keep hR K1
  have hDl:∀k,D k->k<w.heap.size:=λk hk=>hV.lt hR hk
  have l0:(t::t.ws.flatMap (ai n)).length=(ai (n+1) t).length:=rfl
  rw [<-l0,nI] at hlen
  -- what a round finds
  have EC:Hid (∀(j:Nat) (D1:Nat->Prop) (wr:World),j<t.ws.length->R wr D1 (ts++l7 xs n t tl j)->(∀k,D1 k->D k\/W1.heap.size<=k)->Fr D W1 wr ->
   ∃g,ao=sA g/\∃kb,wr.cell? (aD g j)=some (pT kb)/\wr.rangeAt w.heap.size 0 (dx tl) /\
    ∃tl',Calls prog 143 #[pT b,pT kb,.agg (dx tl).toArray] wr (λr w2=>r=.returned (.agg (dx tl').toArray)/\Q wr w2) /\
    ∀w2,Q wr w2->Calls prog 108 #[pT b,pT kb,.agg (dx tl').toArray,.func (.func N) first cap] w2 (λr w3=>r=.returned (.tuple #[])/\∃D3,R w3 D3 (ts++l7 xs n t tl (j+1))/\(∀k,D3 k->D k\/W1.heap.size<=k)/\Fr D W1 w3)):=λj D1 wr hj SQ hD1 hfr=>by
   obtain ⟨g,cap',WM,_,nP⟩:=hown.form om
   simp only [Value.slice.injEq,true_and] at WM
   obtain ⟨rfl,rfl⟩:=WM
   have hsm:∀k,k<w.heap.size->¬D k->wr.heap[k]?=w.heap[k]?:=λk hk hn=>(hfr.block k (by rw [hs1]; omega) hn).trans (K1.block k hk id)
   have hSC:Sm C w wr:=λk hk=>hsm k (hC k hk).1 (hC k hk).2
   have hTr:PT wr A C (n+1) par ix t:=PT.keep hSC _ _ _ _ hT0
   have hgC:C g:=aaP g rfl
   have ptr:wr.cell? (aD g j)=some (jf A t.ws[j]):=by
    rw [World.cell?_of_block (a:=aD g j) (hsm g nP (hC g hgC).2),hown.cellAt j om]
    simp [hj]
   refine ⟨g,rfl,A (t.ws[j]).d.af,ptr,λi v hv=>?_,cZ xs t.d.kind t.ws.length j t.ws[j] tl,?_,λw2 hk2=>?_⟩
   ·have ZT:V wr w.heap.size (dx tl).toArray 202:=tb1.fr hfr (λe=>by have:=hDl _ e; omega)
    rw [Nat.zero_add,ZT.cell i,kL]; exact hv
   ·obtain ⟨_,_,_,⟨sv2,zY,_,ho2⟩,hk2⟩:=hTr
    have hkj:=hk2 j hj
    cases n with
    | zero=>exact hkj.elim
    | succ m =>
     have alD:=hkj
     obtain ⟨_,hdo,_,⟨svk,hbk,_,V1⟩,_⟩:=hkj
     have hd8:d<=8:=om
     refine uS (hp wr (hV.w0 SQ)) hx hsel hb hd8 (pb:=A t.d.af) ⟨⟨svk,hbk⟩,⟨t.d,par,ix,zY,hDO,rfl⟩,om⟩ (λk hk _ _=>?_)
     grind [X]
   have hR2:=hV.keep SQ hk2
   have hT2:PT w2 A C n (jf A t) j t.ws[j]:=(PT.keep (λk hk=>(hk2.block k (aI (hC k hk).1 (by have:=hfr.size; omega)) id)) _ _ _ _ hTr).2.2.2.2 j hj
   have hsub:∀v ∈ ai n t.ws[j],ok v:=λv hv=>hok v (f_ _ (fE.2 ⟨t.ws[j],bP hj,hv⟩))
   have V0:(ts++l7 xs n t tl j).length+(ai n t.ws[j]).length<=5000000:=by
    have a1:=sQ xs n t tl j om
    have a2:=wJ n t.ws (j+1)
    rw [eC hj,iy,cG] at a2
    grind
   have:=Ey hp hx hsel hV n om (qy hb t.d.kind t.ws.length j t.ws[j]) hR2 hT2 (λk hk=>⟨aI (hC k hk).1 (by have:=hfr.size; have:=hk2.size; omega),λe=>(hD1 k e).elim (hC k hk).2 (λy=>by have:=(hC k hk).1; omega)⟩) hsub V0
   rw [hfv] at this
   refine this.mono ?_
   rintro r w3 ⟨rfl,D3,q1,q2,q3⟩
   refine ⟨rfl,D3,by rw [uT xs n t tl hj,<-gh]; exact q1,λk hk=>?_,?_⟩
   ·rcases q2 k hk with y | y
    ·exact hD1 k y
    exact I (by have:=hfr.size; have:=hk2.size; omega)
   refine ⟨q3.os.trans (hk2.os.trans hfr.os),q3.tape.trans (hk2.tape.trans hfr.tape),q3.output.trans (hk2.output.trans hfr.output),az hfr.size (az hk2.size q3.size),λk hk hn=>?_⟩
   have k1:k<wr.heap.size:=aI hk hfr.size
   rw [q3.block k (aI k1 hk2.size) (λe=>(hD1 k e).elim hn (λy=>by omega)),hk2.block k k1 id,hfr.block k hk hn]
  obtain ⟨P,hP⟩:∃P:World->Prop,P=λw'=>∃D',R w' D' (ts++b7 xs (n+1) t tl)/\(∀k,D' k->D k\/w.heap.size<=k)/\Fr D w w':=⟨_,rfl⟩
  have aeB:t.ws.zipIdx.take t.ws.length=t.ws.zipIdx:=gv si
  have MC:Hid (∀(D1:Nat->Prop) (wr:World),R wr D1 (ts++l7 xs n t tl t.ws.length)->(∀k,D1 k->D k\/W1.heap.size<=k)->Fr D W1 wr ->
   (∃ap cpp,wr.cell? (aD b 1)=some (.slice ap xs.length cpp))/\wr.cell? (aD w.heap.size (xs.length * 2))=some (.int .i64 ((aG tl xs.length).eB:Nat)) /\
   ((aG tl xs.length).eB=0->P wr)/\(0<(aG tl xs.length).eB->Calls prog N (first++(#[(pT (A t.d.af)),.int .i64 ((aG tl xs.length).eB:Nat)]++cap)) wr λr w'=>r=.returned (.tuple #[])/\P w')):=λD1 wr SQ hD1 hfr=>by
   have BY:Fr D w wr:=(K1.mono (λ_ _ e=>e.elim)).trans hfr
   refine ⟨?_,?_,λh0=>?_,λh0=>?_⟩
   ·obtain ⟨Iv,l,Dp,hbk,hrow,hxl,_⟩:=hp wr (hV.w0 SQ)
    obtain ⟨ap,cpp,rfl⟩:=X hrow.o
    rw [<-hxl] at hbk
    exact ⟨ap,cpp,hbk.cell 1⟩
   ·have ZT:V wr w.heap.size (dx tl).toArray 202:=tb1.fr hfr (λe=>by have:=hDl _ e; omega)
    rw [ZT.cell,kL]
    grind [sM]
   ·grind [b7,l7]
   have a1:=sQ xs n t tl t.ws.length lr
   rw [bX] at a1
   have XB:(ts++l7 xs n t tl t.ws.length).length<5000000:=by rw [cG]; omega
   refine (pN SQ (hok t dT) (hb.lt om hsel xs.length).1 XB).mono ?_
   rintro r w' ⟨rfl,D',q1,q2,q3⟩
   refine ⟨rfl,?_⟩
   rw [hP]
   have e:b7 xs (n+1) t tl=l7 xs n t tl t.ws.length++[(t,(aG tl xs.length).eB)]:=by
    show _++(if _ then _ else _)=_
    grind [l7]
   refine ⟨D',by rw [e,<-gh]; exact q1,λk hk=>?_,?_⟩
   ·rcases q2 k hk with y | y
    ·grind
    exact I (by have:=BY.size; omega)
   refine ⟨q3.os.trans BY.os,q3.tape.trans BY.tape,q3.output.trans BY.output,az BY.size q3.size,λk hk hn=>?_⟩
   rw [q3.block k (aI hk BY.size) (λe=>(hD1 k e).elim hn (λy=>by omega)),BY.block k hk hn]
  have RR1:Hid (R W1 D (ts++l7 xs n t tl 0)):=by
   have e:l7 xs n t tl 0=[]:=by simp [l7]
   unfold Hid; rw [e,gz]; exact R1
  have IA:Hid ((prog.info? 202).map (·.size)=some (dx tl).length):=by rw [cH]; exact dJ
  have hib:=(hb.lt om hsel xs.length).1
  have Rk:Hid (∀w',P w'->∃D',R w' D' (ts++b7 xs (n+1) t tl)/\(∀k,D' k->D k\/w.heap.size<=k)/\Fr D w w'):=λw' h=>by rw [hP] at h; exact h
  have me:Hid (W1=w.alloc (.cells (dx tl).toArray 202)):=mQ
  have HE:=Z hE
  obtain ⟨cs,hcs⟩:∃cs,cs=(dx tl).toArray:=⟨_,rfl⟩
  obtain ⟨m,hm⟩:∃m,m=t.ws.length:=⟨_,rfl⟩
  obtain ⟨eB,WU⟩:∃eB,eB=(aG tl xs.length).eB:=⟨_,rfl⟩
  obtain ⟨vb,qm⟩:∃vb,vb=A t.d.af:=⟨_,rfl⟩
  have HDW:Hid (∀k,D k->D k\/W1.heap.size<=k):=λk=>Y
  subst hfv
  unfold lF
  rw [<-hm,<-qm] at c8
  rw [<-hm] at hwl
  rw [<-WU,<-qm] at MC
  rw [<-WU] at hib
  rw [<-hm] at MC EC
  rw [<-hcs] at me ⊢
  rw [<-qm]
  have HCS:=Z hcs
  clear pN hT0 hCA hDO Ye aaP hown aaQ mQ K1 hs1 tb1 R1 hDl l0 hlen hnd hb hR hC hok hP aeB hE hcs hm WU qm hp hV hsel
  go_enter func108,ntmps108
  apply wp_seq_k; intro K0 hK0
  apply wp_region_lit
  refine Great.wpList_boxTo rfl 202 _ rfl (some 6) rfl w.heap.size rfl cs rfl ?_
  rw [<-me.o]
  simp only [Act.put,List.setIfInBounds_toArray,List.set_cons_zero,List.set_cons_succ]
  apply wpList_nil
  refine hK0 _ _ ?_
  clear K0 hK0
  go_wp2
  go_loopw [16] (λii wr=>∃(j:Nat) (D1:Nat->Prop),j<=m/\ii=.int .i64 j/\R wr D1 (ts++l7 xs n t tl j)/\(∀k,D1 k->D k\/W1.heap.size<=k)/\Fr D W1 wr) (λii _=>m - (intOf ii).toNat)
  case atStart=>exact ⟨0,D,aT _,rfl,RR1.o,HDW.o,Fr.refl _ _⟩
  case round =>
   obtain ⟨j,D1,hj,rfl,q1,q2,q3⟩:=hrel
   by_cases hlt:j<m
   ·obtain ⟨g,rfl,kb,kc,ra,tl',tal,cnt⟩:=EC.o j D1 wr hlt q1 q2 q3
    have RA:=Z ra
    have TAL:=Z tal
    have CNT:=Z cnt
    clear q1 q2 q3 ra tal cnt EC MC c8
    go_wp2_with (refine wpList_load_mid rfl 202 (.tmp 6) rfl w.heap.size 0 rfl (dx tl) (.array 11 200) RA.o (by kernel_rfl) rfl IA.o ?_)
    refine mo TAL.o λw2 hk2=>?_
    have CN:=Z (CNT.o w2 hk2)
    clear hk2
    go_wp2_with fail
    refine CN.o.mono ?_
    rintro r w3 ⟨rfl,D3,p1,p2,p3⟩
    have P1:=Z p1
    have P2:=Z p2
    have P3:=Z p3
    clear p1 p2 p3
    go_wp2
    go_roundw
    case rel=>exact ⟨j+1,D3,om,by go_num,P1.o,P2.o,P3.o⟩
    case measure=>simp [intOf]; omega
   have Ie:j=m:=om
   subst Ie
   obtain ⟨⟨ap,cpp,e1⟩,e2,e3,e4⟩:=MC.o D1 wr q1 q2 q3
   have E3:=Z e3
   have E4:=Z e4
   clear q1 q2 q3 e3 e4 EC MC c8
   by_cases h0:0<eB
   ·have E5:=Z (E4.o h0)
    have hE:=HE.o
    go_wp2_with fail
    refine mh E5.o λw2 HP2=>?_
    go_wp2
    go_end0
    exact ⟨rfl,Rk.o _ HP2.o⟩
   have h00:eB=0:=om
   have E5:=Z (E3.o h00)
   subst h00
   go_wp2
   go_end0
   exact ⟨rfl,Rk.o _ E5.o⟩
