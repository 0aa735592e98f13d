import Derived.Test.YtcbadebjpogmlaaGreatDoorVvGh
import Derived.Lib.IndexAny
set_option maxHeartbeats 4000000
set_option maxRecDepth 100000
namespace Go.Proofs.YtcbadebjpogmlaaGreatDoor
open Go.RowKit Tr Go.Proofs.Tryz Go.Conc
def qY:Code->Code|.seq x _=>x|c=>c
def jd:Code->Code|.seq _ y=>y|c=>c
def ly:Code->Code|.block _ c=>c|c=>c
def qZ:Code->Code|.loop c=>c|c=>c
def ka(f h:Nat)(i j k a b c d e g:Value):Array Value:=#[dW f,.chan (some h),undef,undef,.slice none 0 0,i,undef,.chan (some h),j,k,a,b,c,d,e,g,undef,undef,undef,undef,undef,undef,undef,undef]
variable{n k i j D F K:Nat}{q:ByteArray}{b:List Sg}{a d r:Nat->Prop}{c:Nat->Option Obj}{w v:World}{l:Fw}{H:Tr.Tok}
set_option linter.unusedSimpArgs false in
theorem Ut{ch:Nat}(J:b.length<=10)(p:cD b<=10)(s:∀g∈b,0<g.l.length)(h:FE n k q b a c w d l)(U:eN l.g.sh H)(T:H.t.length<=4000000)(R:V w i (cO H) 108)(G:¬d i)(L M t u v x y z:Value):Code.wp prog (jd (ly (jd (jd (qZ (ly (jd (qY (jd (f81.body.getD .skip)))))))))) (λe a' m=>e=.normal/\(∃v5 L M t u v x y z,a'=⟨ka k ch v5 L M t u v x y z,[]⟩)/\∃o,FE n k q b a c m o (dE b l H)/\(∀f,o f->d f\/w.heap.size<=f)/\Fr d w m) ⟨ka k ch (pT i) L M t u v x y z,[]⟩ w:=by
 have B:Q w w.drew:=(Fr.refl _ w).drew;have N:FE n k q b a c w.drew d l:=h.keep J p (λf hk=>B.block f (h.lt hk) id) B.size;have TK:=Z (Oh J p s N U T);have P:Hid (∀m,Fr d w m->m.cell? (aD i 0)=some (.int .i64 (H.k:Nat))/\m.cell? (aD i 1)=some (.int .i64 (H.of:Nat))/\m.cell? (aD i 2)=some (.int .i64 (H.af:Nat))/\m.cell? (aD i 3)=some (.int .i64 (H.to:Nat))/\m.cell? (aD i 4)=some (.int .i64 H.n)/\m.cell? (aD i 5)=some (.string (bR (fV H.k H.t)))):=λm j=>by have:=R.fr j G;exact⟨this.cell 0,this.cell 1,this.cell 2,this.cell 3,this.cell 4,this.cell 5⟩
 have F:Hid (∀m,(∃o,FE n k q b a c m o (dE b l H)/\(∀f,o f->d f\/w.drew.heap.size<=f)/\Fr d w.drew m)->∃o,FE n k q b a c m o (dE b l H)/\(∀f,o f->d f\/w.heap.size<=f)/\Fr d w m):=λm⟨o,C,D,A⟩=>⟨o,C,D,(B.mono λ_ _ e=>e.elim).trans A⟩;clear B N R h U T J p s;simp only[f81,Option.getD_some,qY,jd,ly,qZ,ka,dW];unfold bS at*;refine wp_region_held_drew (S:=λm=>m.cell? (aD i 0)=some (.int .i64 (H.k:Nat))/\m.cell? (aD i 1)=some (.int .i64 (H.of:Nat))/\m.cell? (aD i 2)=some (.int .i64 (H.af:Nat))/\m.cell? (aD i 3)=some (.int .i64 (H.to:Nat))/\m.cell? (aD i 4)=some (.int .i64 H.n)/\m.cell? (aD i 5)=some (.string (bR (fV H.k H.t)))) (by kernel_rfl) (P.o _ ((Fr.refl _ _).drewN 1)) λ_=>?_;refine htk 0 ?_ (hQ:=λ_ _ _ h=>by cases h.1);refine htk 1 ?_ (hQ:=λ_ _ _ h=>by cases h.1);refine htk 2 ?_ (hQ:=λ_ _ _ h=>by cases h.1);refine htk 3 ?_ (hQ:=λ_ _ _ h=>by cases h.1);refine dA [4] ?_;refine hone λK S=>?_;go_simp;refine TK.o.mono ?_;rintro r W⟨rfl,o,C,D,A⟩;have F2:=Z (F.o W ⟨o,C,D,A⟩);have B2:=Z (P.o W (((Fr.refl _ _).drewN 1).trans A));clear C D A;refine S.out _ _ B2.o λ_=>?_;clear S K;try simp only[Act.put,mU]
 refine wpAnyH_done (by kernel_rfl) ?_ _;exact⟨rfl,⟨_,_,_,_,_,_,_,_,_,rfl⟩,F2.o⟩
def tkZ:Value:=.agg #[.int .i64 0,.int .i64 0,.int .i64 0,.int .i64 0,.int .i64 0,.string ⟨#[]⟩]
theorem nz(b:List Sg)(s:Fw)(a:eN s.g.sh H):(dE b s H).g.sh=fK s.g.sh H:=by rw[qA,jj _ _ _ a]
variable{A:Bool}
set_option linter.unusedSimpArgs false in
theorem Cr(hx:b.length<=10)(D:cD b<=10)(T:∀g∈b,0<g.l.length){f:Goroutine->World->Prop}{cs:List Frame}{m:List Item}:∀(B:List Tr.Tok){w:World}{d:Nat->Prop}{s:Fw}{J H:Nat}(K M N y o p r v x:Value),FE n k q b a c w d s->w.heap[i]?=some (.chan j (B.map bS).toArray true J H A)->¬d i->kU s.g.sh B->(∀t∈B,t.t.length<=4000000)->(∀w' R K M N y o p r v x,FE n k q b a c w' R (bU b s B)->(∀m,R m->d m\/w.heap.size<=m)->Fr (λm=>d m\/m=i) w w'->LoneTo prog f (Conc.G ((Conc.base 81).at ⟨ka k i K M N y o p r v x,[]⟩ m) cs) w')->LoneTo prog f (Conc.G ((Conc.base 81).at ⟨ka k i K M N y o p r v x,[]⟩ (.code (qZ (ly (jd (qY (jd (f81.body.getD .skip))))))::.inLoop (qZ (ly (jd (qY (jd (f81.body.getD .skip))))))::.inBlock 0::m)) cs) w
 |[],w,d,s,J,H,K,M,N,y,o,p,r,v,x,h,S,_,_,_,F=>by have acf:=Z (F w d K (.tuple #[tkZ,.bool false]) (.bool false) y o p r v x h (λm hk=>Y hk) (Fr.refl _ _));clear F h;have S:w.heap[i]?=some (.chan j #[] true J H A):=S;generalize G:Item.inLoop (qZ (ly (jd (qY (jd (f81.body.getD .skip))))))=LP;have W:=Z G;clear G;simp only[f81,Option.getD_some,qY,jd,ly,qZ,ka,dW];refine LoneTo.goes (n:=20) ?_;s_c stepG_seq;s_reg;s_stop;refine LoneTo.step (step_lone_recv_shut true (c:=i) (z:=tkZ) (cap:=j) (s:=J) (r:=H) (tm:=A) (stepG_comm (cases:=#[rcase i tkZ]) (blocking:=true) (shape:=.recv true) (w':=w) rfl rfl de (by first|(simp[execOp,rcase,tkZ,go_sem];done)|kernel_rfl)) S) ?_;rw[Frame.finish_at];simp only[got];walk_nrm;refine LoneTo.goes (n:=20) ?_;s_op;s_c stepG_region_end;s_c stepG_seq;s_cond false;rw[<-W.o];s_exit;s_stop;exact acf.o|t::B,w,d,s,J,H,K,M,N,y,o,p,r,v,x,h,S,hE,hok,hl,F=>by
  have hcl:=bo S;obtain⟨C,z⟩:∃C,C=w.setChan i j (B.map bS).toArray true J (H+1) A:=⟨_,rfl⟩;have Oj:C.heap[i]?=some (.chan j (B.map bS).toArray true J (H+1) A):=by rw[z];exact heap_setChan _ _ _ _ _ _ _ _ hcl
  have oH:∀m,m≠i->C.heap[m]?=w.heap[m]?:=λm hk=>by rw[z];simp[World.setChan,Array.getElem?_setIfInBounds,Ne.symm hk]
  have hs1:C.heap.size=w.heap.size:=by rw[z];exact size_setChan _ _ _ _ _ _ _ _
  have F1:Fr (λm=>d m\/m=i) w C:=⟨by rw[z];rfl,by rw[z];rfl,by rw[z];rfl,by rw[hs1];exact aP _,λm _ hn=>oH m λe=>hn (I e)⟩;have h1:FE n k q b a c C d s:=h.keep hx D (λm hk=>oH m λe=>hE (e▸hk)) (by rw[hs1];exact aP _);obtain⟨P,L⟩:∃P,P=C.alloc (.cells (cO t) 108):=⟨_,rfl⟩;have K2:Q C P:=by rw[L];exact(Fr.refl _ C).alloc _
  have h2:FE n k q b a c P d s:=h1.keep hx D (λm hk=>K2.block m (h1.lt hk) id) K2.size;have bt:V P C.heap.size (cO t) 108:=by rw[L];exact V.new C _ _
  have hBE:¬d C.heap.size:=λe=>by have:=h1.lt e;omega
  have TOK:=Z (Ut (ch:=i) hx D T h2 hok.1 (hl t dT) bt hBE (.tuple #[bS t,.bool true]) (.bool true) (bS t) o p r v x);have xr:Hid (∀U R K M N y o p r v x,FE n k q b a c U R (dE b s t)->(∀m,R m->d m\/P.heap.size<=m)->Fr d P U->LoneTo prog f (Conc.G ((Conc.base 81).at ⟨ka k i K M N y o p r v x,[]⟩ (.code (qZ (ly (jd (qY (jd (f81.body.getD .skip))))))::.inLoop (qZ (ly (jd (qY (jd (f81.body.getD .skip))))))::.inBlock 0::m)) cs) U):=λU R K M N y o p r v x q1 q2 q3=>by
   have hsz:C.heap.size<=P.heap.size:=K2.size;have Yr:U.heap[i]?=some (.chan j (B.map bS).toArray true J (H+1) A):=by rw[q3.block i om hE,K2.block i om id];exact Oj
   refine Cr hx D T B K M N y o p r v x q1 Yr (λe=>?_) (by rw[nz b s hok.1];exact hok.2) (λu hu=>hl u (f_ _ hu)) λw' E2 u5 u8 u9 Xs Xt Xu Xv Xw Xx p1 p2 p3=>F w' E2 u5 u8 u9 Xs Xt Xu Xv Xw Xx p1 (λl hj=>?_) ?_;.grind
   .have z3:=q3.size;grind
   have F3:Fr (λm=>d m\/m=i) w U:=(F1.trans (K2.mono λ_ _ e=>e.elim)).trans (q3.mono λ_ _ e=>Y e);refine F3.new p3 λl hj e=>?_;grind
  have me:=Z z;have Cs:Hid (P=C.alloc (.cells #[.int .i64 (t.k:Nat),.int .i64 (t.of:Nat),.int .i64 (t.af:Nat),.int .i64 (t.to:Nat),.int .i64 t.n,.string (bR (fV t.k t.t))] 108)):=L;have S:w.heap[i]?=some (.chan j ((bS t::B.map bS).toArray) true J H A):=S;clear F h h1 h2 bt hBE F1 K2 Oj oH hs1 z L;generalize G:Item.inLoop (qZ (ly (jd (qY (jd (f81.body.getD .skip))))))=LP;have W:=Z G;clear G;simp only[f81,Option.getD_some,qY,jd,ly,qZ,ka,dW];refine LoneTo.goes (n:=20) ?_;s_c stepG_seq;s_reg;s_stop;refine LoneTo.step (step_lone_recv_buf true (c:=i) (z:=tkZ) (cap:=j) (buf:=(bS t::B.map bS).toArray) (closed:=true) (s:=J) (r:=H) (tm:=A) (stepG_comm (cases:=#[rcase i tkZ]) (blocking:=true) (shape:=.recv true) (w':=w) rfl rfl de (by first|(simp[execOp,rcase,tkZ,go_sem];done)|kernel_rfl)) S si) ?_;have e1:(bS t::B.map bS).toArray.extract 1 (bS t::B.map bS).toArray.size=(B.map bS).toArray:=by simp[List.take_of_length_le]
  have e2:(bS t::B.map bS).toArray.getD 0 undef=bS t:=si;rw[e1,e2,<-me.o,Frame.finish_at];simp only[got];walk_nrm;refine LoneTo.goes (n:=40) ?_;s_op;s_c stepG_region_end;s_c stepG_seq;s_cond true;s_c stepG_skip;s_c stepG_block;s_c stepG_seq;unfold bS;s_reg;s_op;s_op;s_op;s_c stepG_region_end;s_stop;rw[<-Cs.o];refine EY TOK.o ?_;rintro e a' U⟨rfl,⟨u5,u8,u9,Xs,Xt,Xu,Xv,Xw,Xx,rfl⟩,R,q1,q2,q3⟩;refine⟨rfl,?_⟩;refine LoneTo.goes (n:=5) ?_;s_c stepG_inBlock;rw[<-W.o];s_c stepG_inLoop;s_stop;exact xr.o U R u5 u8 u9 Xs Xt Xu Xv Xw Xx q1 q2 q3
def FwP(b f h:Nat)(i:ByteArray)(j:List Sg)(g:Nat->Prop)(H:Nat->Option Obj)(a:Nat->Prop)(d:Fw)(w:World)(r:Ending)(e:World):Prop:=∃sv c,r=.returned sv/\FE b f i j g H e c (tO d)/\e.ownsRow 0 44 4 sv d.told.length (d.told.flatMap EZ)/\(∀k,sv.ownBlock=some k->¬c k/\(a k\/w.heap.size<=k))/\(∀k,c k->a k\/w.heap.size<=k)/\Fr (λk=>a k\/k=h) w e
variable{p:List Tr.Tok}
set_option linter.unusedSimpArgs false in
theorem Iq(hx:b.length<=10)(J:cD b<=10)(H:∀g∈b,0<g.l.length)(h:FE n k q b a c w d l)(hc:w.heap[i]?=some (.chan j (p.map bS).toArray true D F A))(hE:¬d i)(hok:kU l.g.sh p)(hl:∀t∈p,t.t.length<=4000000):Calls prog 81 #[dW k,.chan (some i)] w (FwP n k i q b a c d (bU b l p) w):=by
 refine calls_of_loneTo (λcs=>?_) (by rintro _⟨_,_,h,_⟩;cases h);have e:Frame.enter prog 81 #[dW k,.chan (some i)] .normal=(Conc.base 81).at ⟨#[dW k,.chan (some i),undef,undef,undef,undef,undef,undef,undef,undef,undef,undef,undef,undef,undef,undef,undef,undef,undef,undef,undef,undef,undef,undef],[]⟩ [.code (f81.body.getD .skip)]:=by simp[Frame.enter,Frame.at,func81,Conc.base,f81]
 rw[e];have C:Hid (∀o B P R S r s u v x y,FE n k q b a c o B (bU b l p)->(∀m,B m->d m\/w.heap.size<=m)->Fr (λm=>d m\/m=i) w o->LoneTo prog (λg' o=>∃e fr,g'=Conc.G fr cs/\FwP n k i q b a c d (bU b l p) w e o/\fr.fn=81/\fr.leaving prog o e) (Conc.G ((Conc.base 81).at ⟨ka k i P R S r s u v x y,[]⟩ [.code (jd (jd (f81.body.getD .skip)))]) cs) o):=λo B P R S r s u v x y M K N=>by
  obtain⟨z,c8,fz,W,E2,p1,p2,p3,p4⟩:=Ol M;have T:Hid (FwP n k i q b a c d (bU b l p) w (.returned z) (o.setCell (aD k 8) (.slice none 0 0))):=by refine⟨z,E2,rfl,p1,p3,λm L=>⟨(p4 m L).2,K m (p4 m L).1⟩,λm L=>K m (p2 m L),?_⟩;have:Fr (λm=>m=k) o (o.setCell (aD k 8) (.slice none 0 0)):=(Fr.refl (λm=>m=k) o).setCell (aD k 8) (Y rfl) _;refine N.new this λf hj e=>?_;grind
  clear p1 p2 p3 p4 M K N W h hc;simp only[f81,Option.getD_some,qY,jd,ly,qZ,ka,dW];refine LoneTo.goes (n:=40) ?_;s_c stepG_seq;s_reg;s_op;s_op;s_op;s_op;s_op;s_c stepG_region_end;s_c stepG_seq;s_reg;s_op;s_op;s_op;s_op;s_c stepG_region_end;s_c stepG_seq;s_reg;s_op;s_op;s_c stepG_region_end;s_c stepG_ret';s_stop;exact LoneTo.done ⟨.returned z,_,rfl,T.o,rfl,rfl,rfl,rfl,_,func81,by simp[results,f81,Frame.at]⟩
 generalize G:(jd (jd (f81.body.getD .skip)))=RS at C;have U:=Z G;clear G;simp only[f81,Option.getD_some,dW];refine LoneTo.goes (n:=40) ?_;s_c stepG_seq;s_reg;s_op;s_c stepG_region_end;s_c stepG_seq;s_c stepG_seq;s_reg;s_op;s_c stepG_region_end;s_c stepG_block;s_c stepG_loop;s_stop;refine Cr hx J H p undef undef undef undef undef undef undef undef undef h hc hE hok hl λo B P R S r s u v x y M K N=>?_;have:=C.o o B P R S r s u v x y M K N;rw[<-U.o]at this;exact this
def tQ:ByteArray:=⟨#[91,93,123,125,34,48,49,50,51,52,53,54,55,56,57,101,108]⟩
theorem E6(b:UInt8):(0<=Lib.indexByte tQ.data.toList b)↔je b.toNat=true:=by have h:∀n:Nat,n<256->(tQ.data.toList.contains (UInt8.ofNat n))=je n:=de;have:=Lib.contains_iff_indexByte tQ.data.toList b;have a:=h b.toNat b.toNat_lt;rw[UInt8.ofNat_toNat,this]at a;rw[<-a];simp
variable{f J:List UInt8}
theorem E7(h:n<f.length):room (f.take (n+1))=room (f.take n)+(if je (f[n]).toNat=true then 1 else 0):=by unfold room;rw[eC h,List.countP_append,List.countP_singleton];omega
theorem room_le(l:List UInt8):room l<=l.length+1:=by grind[je,room]
theorem Uu{w:World}(q:ByteArray)(A:q.size<=4000000):Calls prog 79 #[.string q] w λr m=>r=.returned (.int .i64 (room (E q):Nat))/\m=w:=by
 have s:(E q).length=q.size:=ak q;go_enter func79,ntmps79;go_wp2;go_loopw[3,7]λc i wr=>∃k:Nat,k<=q.size/\i=.int .i64 k/\c=.int .i64 (room ((E q).take k):Nat)/\wr=wλ_ i _=>q.size-(intOf i).toNat;case atStart=>exact⟨0,aT _,rfl,by simp[room],rfl⟩
 case round=>
  obtain⟨k,z,rfl,rfl,rfl⟩:=hrel;by_cases j:k<q.size
  .have b:k<(E q).length:=om;have o:((E q)[k]'b).toNat=q[k].toNat:=(vi om).symm.trans (dY j);have u:Hid (Calls prog 110 #[.string ⟨#[91,93,123,125,34,48,49,50,51,52,53,54,55,56,57,101,108]⟩,.int .u8 ((q[k]).toNat:Int)] wr λe m=>e=.returned (.int .i64 (Lib.indexByte tQ.data.toList q[k]))/\m=wr):=by have:=Any.strings_IndexByte Tryz.Om tQ ((q[k]).toNat:Int) wr;have e:Tryz.pM.f 137=110:=rfl;rw[e]at this;have g:((q[k]).toNat:Int).toNat.toUInt8=q[k]:=si;rw[g]at this;exact this
   have a:=E7 b;rw[o]at a;have n:=E6 q[k];have d:=room_le ((E q).take k);rw[List.length_take]at d;generalize Lib.indexByte tQ.data.toList q[k]=l at*;have x:IntKind.i64.wrap ((room ((E q).take k):Int)+1)=(room ((E q).take k):Int)+1:=by rw[IntWalk.i64_in _ om]
   have y:IntKind.i64.wrap ((k:Int)+1)=(k:Int)+1:=by rw[IntWalk.i64_in _ om]
   have v:(k:Int)<(q.size:Int):=om;by_cases f:je q[k].toNat=true;focus have h:(0:Int)<=l:=n.2 f;rw[ae f]at a
   rotate_left;focus
    have h:l<0:=by grind
    have p:¬(0:Int)<=l:=om;rw[aa f]at a
   all_goals have t:=Z a;clear a n o d f;go_wp2_with fail;refine u.o.mono ?_;rintro r B⟨rfl,rfl⟩;go_wp2;refine⟨⟨k+1,om,si,by rw[t.o];simp,trivial⟩,by simp[intOf];omega⟩
  have e:k=q.size:=om;have g:(E q).take k=E q:=gv om;rw[g];go_wp2;go_ret;exact⟨rfl,rfl⟩
def cS(c a b:Nat)(w:World)(D:Nat->Prop)(g:List Tr.Tok):Prop:=V w c #[.chan (some a)] 171/\(∃e d f,w.heap[a]?=some (.chan b (g.map bS).toArray false e d f))/\c≠a/\∀k,D k↔k=c\/k=a
def cV(a:Nat)(b:List Tr.Tok)(_:Tr.Tok):Prop:=b.length<a
theorem Ac(m n c:Nat):gn (.func (.func 80) #[] #[pT m]) (cS m n c) (cV c)where
 lt:=λ{w D p k}h b=>by
  obtain⟨d,⟨i,g,j,f⟩,_,a⟩:=h;rcases(a k).1 b with e|e;.rw[e];exact d.lt
  rw[e];exact bo f
 keep:=λ{w y D p}h s z=>by obtain⟨d,⟨i,g,j,f⟩,l,a⟩:=h;exact⟨(s _ ((a _).2 (Y rfl))).trans d,⟨i,g,j,(s _ ((a _).2 (I rfl))).trans f⟩,l,a⟩
 call:=⟨_,_,_,rfl,λ_ _=>Tryz.call80 _ _,λw D p t h q=>by
  obtain⟨d,⟨i,g,j,f⟩,l,a⟩:=h;have r:=bo f;refine(Uv t d f (by simpa[cV]using q)).mono ?_;rintro x y⟨rfl,rfl⟩;have v:(w.alloc (.cells (cO t) 108)).heap.size=w.heap.size+1:=World.size_alloc _ _;have K:Q w (w.alloc (.cells (cO t) 108)):=(Fr.refl _ w).alloc _;have b:∀k,k≠n->((w.alloc (.cells (cO t) 108)).setChan n c ((p.map bS).toArray.push (bS t)) false (i+1) g j).heap[k]?=(w.alloc (.cells (cO t) 108)).heap[k]?:=λk b=>by simp[World.setChan,Ne.symm b]
  refine⟨rfl,D,⟨?_,⟨i+1,g,j,?_⟩,l,a⟩,λk b=>Y b,⟨rfl,rfl,rfl,?_,λk o u=>?_⟩⟩;.show _=_;rw[b m l];exact(d.alloc _)
  .rw[heap_setChan _ _ _ _ _ _ _ _ om];simp
  .rw[size_setChan];omega
  rw[b k λe=>u ((a k).2 (I e))];exact K.block k o id⟩
theorem Ad(c:Nat):∀(b a:List Tr.Tok),a.length+b.length<=c->VL (cV c) a b|[],_,_=>trivial|t::b,a,h=>⟨by simp at h;show a.length<c;omega,Ad c b (a++[t]) (by simp at h⊢;omega)⟩
def RZ(w:World)(r:Nat)(c:Nat->Prop)(z:Sn):Prop:=∃b d a,RS w r z.st z .nilFunc b d a/\∀k,c k↔k=r\/b.ownBlock=some k\/a.ownBlock=some k
variable{g L:Sn}
theorem RZ.lt(h:RZ w n a g)(d:a k):k<w.heap.size:=by
 obtain⟨j,f,i,b,c⟩:=h;rcases(c k).1 d with e|e|e;.rw[e];exact b.b.lt
 .exact(b.o.lt k e).2
 exact(b.t.lt k e).2
theorem RZ.keep{w w':World}(h:RZ w n a g)(s:Sm a w w'):RZ w' n a g:=by obtain⟨i,e,f,b,c⟩:=h;exact⟨i,e,f,⟨(s n ((c n).2 (Y rfl))).trans b.b,aQ b.o λk d=>s k ((c k).2 (I (Y d))),aQ b.t λk d=>s k ((c k).2 (I (I d))),b.p,b.e⟩,c⟩
def Ys(r b c f:Nat)(i:Nat->Prop)(e d:Nat)(l:Sn)(j:List Tr.Tok)(w:World)(g:Ending)(h:World):Prop:=g=.returned (.tuple #[.int .i64 (e:Nat),.int .i64 (d:Nat)])/\∃a,RZ h r a l/\cS b c f h (λk=>k=b\/k=c) j/\¬a b/\¬a c/\(∀k,a k->i k\/w.heap.size<=k)/\Fr (λk=>i k\/k=b\/k=c) w h
theorem SH(f:RZ w n a g)(e:cS k i j w (λb=>b=k\/b=i) p)(m:¬a k)(o:¬a i):RM (cS k i j) .nilFunc n g.st g p (λb=>a b\/b=k\/b=i) w:=by
 obtain⟨h,c,d,l,r⟩:=f;refine⟨h,c,d,_,l,e,λb q=>?_,λb=>?_⟩;.grind
 grind
theorem SI(r:RM (cS k i j) .nilFunc n g.st g p d v)(m:Ev (λb=>a b\/b=k\/b=i) w d v):∃c,RZ v n c g/\cS k i j v (λb=>b=k\/b=i) p/\¬c k/\¬c i/\(∀b,c b->a b\/w.heap.size<=b)/\Fr (λb=>a b\/b=k\/b=i) w v:=by
 obtain⟨l,q,f,D,s,⟨c1,c2,c3,c4⟩,u,t⟩:=r.ex;have nb:∀b,(b=k\/b=i)->¬(b=n\/l.ownBlock=some b\/f.ownBlock=some b):=λb o e=>by grind
 refine⟨λb=>b=n\/l.ownBlock=some b\/f.ownBlock=some b,⟨l,q,f,s,λ_=>Iff.rfl⟩,⟨c1,c2,c3,λ_=>Iff.rfl⟩,nb k (Y rfl),nb i (I rfl),λb o=>?_,m.f⟩;have h:d b:=(t b).2 (by grind);rcases m.s b h with(y|y)|y;.exact Y y
 .exact absurd o (nb b y)
 exact I y
theorem On(t:RZ w n a g)(p:cS k i j w (λb=>b=k\/b=i) [])(h:¬a k)(l:¬a i)(e:jm g){v:Sh}(d:Lk g v)(f:g.st<=10)(c:ByteArray)(q:g.at'+c.size<=4000000)(s:g.tx.length+c.size<=4000000)(r:(aj g (E c)).ts.length<=j):Calls prog 52 #[pT n,.string c,.func (.func 80) #[] #[pT k]] w (Ys n k i j a (aj g (E c)).e (if(aj g (E c)).e=0 then 0 else(aj g (E c)).z.at') (aj g (E c)).z (aj g (E c)).ts w):=by refine(Ir (Ac k i j) (SH t p h l) e d f c q s (Ad j _ [] (by simpa using r))).mono ?_;rintro u y⟨rfl,x,o,m⟩;exact⟨rfl,SI (by simpa using o) m⟩
theorem Uw(o:RZ w n a g)(l:cS k i j w (λb=>b=k\/b=i) [])(d:¬a k)(e:¬a i)(c:jm g)(m:1<=j):Calls prog 54 #[pT n,.func (.func 80) #[] #[pT k]] w (Ys n k i j a (if aZ g=true then 0 else 2) (if aZ g=true then 0 else g.at') g (if aZ g=true then fF g else[]) w):=by refine(SJ (Ac k i j) (SH o l d e) c λ_=>Ad j _ [] (by unfold fF;split<;>simp;exact m)).mono ?_;rintro p r⟨rfl,q,h,f⟩;exact⟨rfl,SI (by simpa using h) f⟩
theorem Oo:(prog.info? 108).map (·.bytes)=some 56:=by kernel_rfl
theorem Oq(w:World)(n:Nat)(c:n<=5000000):(Instr.makeChan 171 (.int .i64 (n:Nat))).run prog w=.ok (.chan (some w.heap.size)) (w.alloc (.chan n #[] false 0 0 false)):=by obtain⟨j,b,a⟩:=Option.map_eq_some_iff.1 Oo;exact run_makeChan (P:=prog) (w:=w) underlying171 b .i64 n om (by rw[a];omega)
def Ux(h r b f:Nat)(o:ByteArray)(p:List Sg)(n:Nat->Prop)(H:Nat->Option Obj)(m a:Nat->Prop)(e i:Nat)(q:Sn)(l:Fw)(w:World)(j:Ending)(g:World):Prop:=∃sv c d,j=.returned (.tuple #[sv,.int .i64 (e:Nat),.int .i64 (i:Nat)])/\RZ g r c q/\FE b f o p n H g d (tO l)/\g.ownsRow 0 44 4 sv l.told.length (l.told.flatMap EZ)/\V g h #[dW r,dW f,.int .i64 0,.int .i64 0] 135/\(∀k,c k->¬d k/\k≠h)/\¬d h/\(∀k,sv.ownBlock=some k->¬d k/\¬c k/\k≠h/\(a k\/w.heap.size<=k))/\(∀k,c k->m k\/w.heap.size<=k)/\(∀k,d k->a k\/w.heap.size<=k)/\Fr (λk=>m k\/a k) w g
set_option linter.unusedSimpArgs false in
theorem It(hx:b.length<=10)(G:cD b<=10)(P:∀f∈b,0<f.l.length)(hB:V w n #[dW k,dW j,.int .i64 0,.int .i64 0] 135)(hz:RZ w k d g)(hF:FE i j q b a c w r l)(vj:∀h,d h->¬r h/\h≠n)(hds:¬r n)(m:ByteArray)(hq:m.size<=4000000){N:Array Value}(hE:∀M w,(callFunc K M).run prog w=.ok (.enter K M) w)(hrd:∀(w1:World)(v o:Nat),Q w w1->w.heap.size<=v->w.heap.size<=o->cS v o (room (E m)) w1 (λh=>h=v\/h=o) []->Calls prog K (#[.func (.func 80) #[] #[pT v]]++N) w1 (Ys k v o (room (E m)) d D F L p w1))(hok:kU l.g.sh p)(hl:∀t∈p,t.t.length<=4000000):Calls prog 57 #[dW n,.string m,.func (.func K) #[] N] w (Ux n k i j q b a c d r D F L (bU b l p) w):=by
 have c2:w.cell? (aD n 2)=some (.int .i64 0):=hB.cell 2;have RM:=Z (Uu (w:=w) m hq);obtain⟨o,W⟩:∃o,o=w.heap.size:=⟨_,rfl⟩;obtain⟨v,U⟩:∃v,v=w.heap.size+1:=⟨_,rfl⟩;obtain⟨J,C⟩:∃J,J=(w.alloc (.chan (room (E m)) #[] false 0 0 false)).alloc (.cells #[.chan (some o)] 171):=⟨_,rfl⟩;have K1:Q w J:=by rw[C];exact((Fr.refl _ w).alloc _).alloc _
 have z1:J.heap.size=w.heap.size+2:=by rw[C,World.size_alloc,World.size_alloc]
 have NH:=hB.lt;have T:∀h,r h->h<w.heap.size:=λh s=>hF.lt s;have ach:∀h,d h->h<w.heap.size:=λh s=>hz.lt s;have S1:cS v o (room (E m)) J (λh=>h=v\/h=o) []:=by
  refine⟨?_,⟨0,0,false,?_⟩,om,λ_=>Iff.rfl⟩;.have:=V.new (w.alloc (.chan (room (E m)) #[] false 0 0 false)) #[.chan (some o)] 171;rw[World.size_alloc,<-U,<-C]at this;exact this
  rw[C,Below.heap_alloc _ _ _ (by rw[World.size_alloc];omega),W];exact heap_alloc_new w _
 have RD:=Z (hrd J v o K1 om om S1);have xr:Hid (∀B z,RZ B k z L->cS v o (room (E m)) B (λh=>h=v\/h=o) p->¬z v->¬z o->(∀h,z h->d h\/J.heap.size<=h)->Fr (λh=>d h\/h=v\/h=o) J B->B.cell? (aD v 0)=some (.chan (some o))/\∃sn rn tm,B.heap[o]?=some (.chan (room (E m)) (p.map bS).toArray false sn rn tm)/\∃x:World,x={B with heap:=B.heap.setIfInBounds o (.chan (room (E m)) (p.map bS).toArray true sn rn tm)}/\(x.drew.cell? (aD n 1)=some (pT j)/\x.drew.cell? (aD v 0)=some (.chan (some o)))/\Calls prog 81 #[pT j,.chan (some o)] x.drew λH w4=>∃sv,H=.returned sv/\(w4.cell? (aD n 1)=some (pT j)/\w4.cell? (aD v 0)=some (.chan (some o)))/\Ux n k i j q b a c d r D F L (bU b l p) w (.returned (.tuple #[sv,.int .i64 (D:Nat),.int .i64 (F:Nat)])) w4):=λB z r1⟨s1,⟨sn,rn,tm,s2⟩,s3,_⟩r2 r3 r4 S=>by
  refine⟨s1.cell 0,sn,rn,tm,s2,_,rfl,?_⟩;obtain⟨x,A⟩:∃x:World,x={B with heap:=B.heap.setIfInBounds o (.chan (room (E m)) (p.map bS).toArray true sn rn tm)}:=⟨_,rfl⟩;rw[<-A];have hcl:=bo s2;have zU:∀h,h≠o->x.heap[h]?=B.heap[h]?:=λh s=>by rw[A];simp[Ne.symm s]
  have Yr:x.heap[o]?=some (.chan (room (E m)) (p.map bS).toArray true sn rn tm):=by rw[A];simp[hcl]
  have z3:x.heap.size=B.heap.size:=by rw[A];simp
  have z2:=S.size;have old:∀h,h<w.heap.size->¬d h->x.drew.heap[h]?=w.heap[h]?:=λh s hn=>by show x.heap[h]?=_;rw[zU h om,S.block h om λy=>by grind];exact K1.block h s id
  have F3:FE i j q b a c x.drew r l:=hF.keep hx G (λh s=>old h (T h s) λy=>(vj h y).1 s) (by show w.heap.size<=x.heap.size;omega);have B3:V x.drew n #[dW k,dW j,.int .i64 0,.int .i64 0] 135:=(old n NH λy=>(vj n y).2 rfl).trans hB;have C3:V x.drew v #[.chan (some o)] 171:=(zU v s3).trans s1;have R3:RZ x.drew k z L:=r1.keep λh s=>zU h λy=>r3 (y▸s);have hEc:¬r o:=λy=>by have:=T _ y;omega
  refine⟨⟨B3.cell 1,C3.cell 0⟩,?_⟩;refine(Iq hx G P F3 Yr hEc hok hl).mono ?_;rintro H w4⟨sv,E',rfl,p1,p2,p3,p4,R⟩;have SN:x.drew.heap.size=B.heap.size:=z3;have nE:∀h,E' h->r h\/B.heap.size<=h:=λh s=>by rw[<-SN];exact p4 h s
  have B4:V w4 n #[dW k,dW j,.int .i64 0,.int .i64 0] 135:=B3.fr R (λy=>by grind);have C4:V w4 v #[.chan (some o)] 171:=C3.fr R (λy=>by grind);have nEr:∀h,z h->¬r h:=λh s y=>by grind
  refine⟨sv,rfl,⟨B4.cell 1,C4.cell 0⟩,sv,z,E',rfl,R3.keep λh s=>R.block h (R3.lt s) λy=>?_,p1,p2,B4,λh s=>⟨λy=>?_,λy=>?_⟩,λy=>?_,λh s=>⟨(p3 h s).1,λy=>?_,λy=>?_,?_⟩,λh s=>?_,λh s=>?_,?_⟩;.grind
  .rcases nE h y with u|u;.exact nEr h s u
   have:=r1.lt s;omega
  .grind
  .grind
  .rcases(p3 h s).2 with u|u;.exact nEr h y u
   have:=R3.lt y;omega
  .grind
  .grind
  .grind
  .grind
  have o3:x.drew.os=B.os:=by rw[A];rfl
  have t3:x.drew.tape=B.tape:=by rw[A];rfl
  have u3:x.drew.output=B.output:=by rw[A];rfl
  refine⟨R.os.trans (o3.trans (S.os.trans K1.os)),R.tape.trans (t3.trans (S.tape.trans K1.tape)),R.output.trans (u3.trans (S.output.trans K1.output)),by have:=R.size;omega,λh s hn=>?_⟩;rw[R.block h om λy=>?_];.grind
  grind
 have hrl:=room_le (E m);rw[ak]at hrl;have hmk:=Oq w (room (E m)) om;have me:=Z C;have HCH:=Z W;have HCB:=Z U;clear hB hz hF vj hds hrd hok hl C K1 z1 NH T ach S1 W U hx G P hrl;unfold dW;go_enter func57,ntmps57;go_wp2_with fail;refine RM.o.mono ?_;rintro H w0⟨rfl,rfl⟩;go_wp2;rw[<-HCB.o,<-HCH.o,<-me.o];refine RD.o.mono ?_;rintro H B⟨rfl,z,r1,s1,r2,r3,r4,S⟩;obtain⟨c0,sn,rn,tm,s2,x,A,ss,FOL⟩:=xr.o B z r1 s1 r2 r3 r4 S;have Ot:=Z A;have SS:=Z ss;have FL:=Z FOL;have aci:=λats ty=>run_close_open (P:=prog) (w:=B) ats ty s2;clear r1 s1 r2 r3 r4 S A ss FOL hmk xr RD RM;go_wp2;rw[<-Ot.o];refine wp_region_held_drew (S:=λw'=>w'.cell? (aD n 1)=some (pT j)/\w'.cell? (aD v 0)=some (.chan (some o))) (by kernel_rfl) SS.o λ_=>?_;refine htk 0 ?_;refine htk 1 ?_;refine htk 2 ?_;refine htk 3 ?_;refine htk 4 ?_;refine htk 6 ?_;refine htk 7 ?_;refine dA [5] ?_;refine hone λe hK=>?_;go_simp;refine FL.o.mono ?_;rintro H w4⟨sv,rfl,ss4,gp⟩;have GP:=Z gp;have SS4:=Z ss4;clear gp ss4 aci;refine hK.out _ _ SS4.o λ_=>?_;clear hK e;refine htk 8 ?_;refine htk 9 ?_;refine htk 10 ?_;try simp only[Act.put,mU]
 refine wpAnyH_done (by kernel_rfl) ?_ _;go_wp2;go_ret3;exact GP.o
variable{m o t z:Value}
theorem Cu(a:V w n #[m,o,.int .i64 (k:Nat),.int .i64 (i:Nat)] 135)(b:k≠0)(q:ByteArray)(e:Value):Calls prog 57 #[dW n,.string q,e] w λr f=>r=.returned (.tuple #[.slice none 0 0,.int .i64 (k:Nat),.int .i64 (i:Nat)])/\Q w f:=by
 have d2:w.cell? (aD n 2)=some (.int .i64 (k:Nat)):=a.cell 2;have d3:w.cell? (aD n 3)=some (.int .i64 (i:Nat)):=a.cell 3;have d:((k:Int)!=0)=true:=by rw[bne_iff_ne];omega
 have c:¬(k:Int)=0:=om;clear a b;unfold dW;go_enter func57,ntmps57;go_wp2;go_quiet(fail);go_wp2;go_ret3;exact⟨rfl,(Fr.refl _ _).drewN _⟩
theorem s_stop(a:V w n #[m,o,t,z] 135)(e b:Nat):Calls prog 59 #[dW n,.int .i64 (e:Nat),.int .i64 (b:Nat)] w λr c=>r=.returned (.tuple #[])/\V c n #[.pointer none,.pointer none,.int .i64 (e:Nat),.int .i64 (b:Nat)] 135/\Fr (λk=>k=n) w c:=by have d0:w.cell? (aD n 0)=some m:=a.cell 0;have d1:w.cell? (aD n 1)=some o:=a.cell 1;have d2:w.cell? (aD n 2)=some t:=a.cell 2;have d3:w.cell? (aD n 3)=some z:=a.cell 3;have d:=a.fz;unfold dW;go_enter func59,ntmps59;go_wp2;go_end0;refine⟨rfl,((((a.set 0 _).set 1 _).set 2 _).set 3 _),?_⟩;exact((((Fr.refl (λk=>k=n) w).setCell (aD n 0) (Y rfl) _).setCell (aD n 1) (Y rfl) _).setCell (aD n 2) (Y rfl) _).setCell (aD n 3) (Y rfl) _
variable{B:Ending->World->Prop}
set_option linter.unusedSimpArgs false in
theorem Ou(r:V w k #[dW n] 80)(l:V w i #[.string q] 9)(g:V w n #[dW j,m,o,t] 135){e at':Nat}(p:∀a b,B a b->a=.returned (.tuple #[.int .i64 (e:Nat),.int .i64 (at':Nat)])/\V b k #[dW n] 80/\V b i #[.string q] 9/\V b n #[dW j,m,o,t] 135)(d:Calls prog 52 #[dW j,.string q,z] w.drew B):Calls prog 58 #[z,dW k,dW i] w B:=by
 have f:Hid (∀W,V W k #[dW n] 80->V W i #[.string q] 9->V W n #[dW j,m,o,t] 135->W.cell? (aD k 0)=some (pT n)/\W.cell? (aD i 0)=some (.string q)/\W.cell? (aD n 0)=some (pT j)):=λW G H J=>⟨G.cell 0,H.cell 0,J.cell 0⟩;have D:=Z (f.o w.drew r l g);have C:=Z d;have A:=Z p;clear r l g d p;unfold dW at*;go_enter func58,ntmps58;go_wp2;refine wp_region_held_drew (S:=λb=>b.cell? (aD k 0)=some (pT n)/\b.cell? (aD i 0)=some (.string q)/\b.cell? (aD n 0)=some (pT j)) (by kernel_rfl) D.o λ_=>?_;refine htk 0 ?_;refine htk 1 ?_;refine htk 2 ?_;refine htk 3 ?_;refine htk 4 ?_;refine htk 5 ?_;refine dA [6] ?_;refine hone λK h=>?_;go_simp;refine C.o.mono ?_;intro a s c;obtain⟨rfl,u,v,x⟩:=A.o a s c;have y:=Z c;have F:=Z (f.o s u v x);clear c u v x;refine h.out _ _ F.o λ_=>?_;clear h K;refine htk 7 ?_;refine htk 8 ?_;refine htk 9 ?_;refine htk 10 ?_;try simp only[Act.put,mU]
 refine wpAnyH_done (by kernel_rfl) ?_ _;go_wp2;exact y.o
theorem Iu(g:V w k #[dW n] 80)(d:V w n #[dW i,m,o,t] 135){e at':Nat}(f:∀a p,B a p->a=.returned (.tuple #[.int .i64 (e:Nat),.int .i64 (at':Nat)]))(c:Calls prog 54 #[dW i,z] w B):Calls prog 60 #[z,dW k] w B:=by have d0:w.cell? (aD k 0)=some (pT n):=g.cell 0;have d2:w.cell? (aD n 0)=some (pT i):=d.cell 0;have l:=Z c;have j:=Z f;clear g d c f;unfold dW at*;go_enter func60,ntmps60;go_wp2_with fail;refine l.o.mono ?_;intro a q b;obtain rfl:=j.o a q b;have h:=Z b;clear b d0 d2;go_wp2;exact h.o
theorem FE.same(h:FE n k q b a c w d l)(f:a i\/jO i):w.heap[i]?=c i/\d i:=by obtain⟨x,A,C,M,D,e,g⟩:=h;exact⟨e.g.s.sm i f,(g i).2 (Y ((e.g.s.d i).2 (f.elim Y λy=>I (Y y))))⟩
def FdP(e r b f:Nat)(m:ByteArray)(n:List Sg)(h:Nat->Prop)(H:Nat->Option Obj)(l a:Nat->Prop)(F:Sf)(j:Fw)(w:World)(i:Ending)(d:World):Prop:=∃sv,i=.returned (.tuple #[sv,.int .i64 (F.e:Nat),.int .i64 ((if F.e=0 then 0 else F.z.at':Nat):Int)])/\d.ownsRow 0 44 4 sv j.told.length (j.told.flatMap EZ)/\(∀k,sv.ownBlock=some k->(k≠e/\¬(h k\/jO k))/\(a k\/w.heap.size<=k))/\Fr (λk=>l k\/a k\/k=e) w d/\(∀k,h k\/jO k->d.heap[k]?=H k)/\(F.e=0->∃c g,RZ d r c F.z/\FE b f m n h H d g (tO j)/\V d e #[dW r,dW f,.int .i64 0,.int .i64 0] 135/\(∀k,c k->¬g k/\k≠e)/\¬g e/\(∀k,sv.ownBlock=some k->¬g k/\¬c k)/\(∀k,c k->l k\/w.heap.size<=k)/\∀k,g k->a k\/w.heap.size<=k)/\(F.e≠0->V d e #[.pointer none,.pointer none,.int .i64 (F.e:Nat),.int .i64 (F.z.at':Nat)] 135)
theorem Uy(hx:b.length<=10)(D:cD b<=10)(U:∀f∈b,0<f.l.length)(hB:V w n #[dW k,dW j,.int .i64 0,.int .i64 0] 135)(hz:RZ w k d g)(hF:FE i j q b a c w r l)(vj:∀m,d m->¬r m/\m≠n)(hds:¬r n)(o:ByteArray)(P:jm g)(N:Lk g l.g.sh)(S:g.st<=10)(hwd:xu g)(hl:g.at'+o.size<=4000000)(hxx:g.tx.length+o.size<=4000000)(hnm:∀t∈(aj g (E o)).ts,t.t.length<=4000000):Calls prog 38 #[dW n,.string o] w (FdP n k i j q b a c d r (aj g (E o)) (bU b l (aj g (E o)).ts) w):=by
 have hlen:(E o).length=o.size:=ak o;have R:=fW (E o) P N S om;have C:=Ov (l:=E o) P N S om hwd;obtain⟨F,hFd⟩:∃F,F=aj g (E o):=⟨_,rfl⟩;have SQ:∀{w1:World}{B G:Nat},RZ w1 k d g->cS B G (room (E o)) w1 (λm=>m=B\/m=G) []->¬d B->¬d G->Calls prog 52 #[pT k,.string o,.func (.func 80) #[] #[pT B]] w1 (Ys k B G (room (E o)) d F.e (if F.e=0 then 0 else F.z.at') F.z F.ts w1):=λh1 h2 h3 h4=>by rw[hFd];exact On h1 h2 h3 h4 P N S o hl hxx C
 rw[<-hFd]at R hnm⊢;obtain⟨xb,Uz⟩:∃xb,xb=w.heap.size:=⟨_,rfl⟩;obtain⟨pb,hpb⟩:∃pb,pb=w.heap.size+1:=⟨_,rfl⟩;obtain⟨u,x⟩:∃u,u=(w.alloc (.cells #[pT n] 80)).alloc (.cells #[.string o] 9):=⟨_,rfl⟩;have W:Q w u:=by rw[x];exact((Fr.refl _ w).alloc _).alloc _
 have z1:u.heap.size=w.heap.size+2:=by rw[x,World.size_alloc,World.size_alloc]
 have NH:=hB.lt;have X1:V u xb #[dW n] 80:=by rw[x,Uz];exact(V.new w _ _).alloc _
 have P1:V u pb #[.string o] 9:=by have:=V.new (w.alloc (.cells #[pT n] 80)) #[.string o] 9;rw[World.size_alloc,<-hpb,<-x]at this;exact this
 have B1:=hB.fr W id;have Z1:RZ u k d g:=hz.keep λm p=>W.block m (hz.lt p) id;have F1:FE i j q b a c u r l:=hF.keep hx D (λm p=>W.block m (hF.lt p) id) W.size;have s:∀m,d m->m<w.heap.size:=λm p=>hz.lt p;have hEl:∀m,r m->m<w.heap.size:=λm p=>hF.lt p;have c0:u.cell? (aD xb 0)=some (pT n):=X1.cell 0;have c1:u.cell? (aD pb 0)=some (.string o):=P1.cell 0;have GO:Hid (Calls prog 57 #[pT n,.string o,.func (.func 58) #[] #[pT xb,pT pb]] u (Ux n k i j q b a c d r F.e (if F.e=0 then 0 else F.z.at') F.z (bU b l F.ts) u)):=by
  refine It hx D U B1 Z1 F1 vj hds o om (λ_ _=>Tryz.call58 _ _) (λv B G k2 hcb hch hc=>?_) R.tok hnm;have T:Q u v.drew:=k2.drewN 1;have hcd:cS B G (room (E o)) v.drew (λm=>m=B\/m=G) []:=(Ac B G _).keep hc (λ_ _=>rfl) lr;have nc:¬d B:=λy=>by have:=s _ y;omega
  have nh:¬d G:=λy=>by have:=s _ y;omega
  have Z2:RZ v.drew k d g:=Z1.keep λm p=>T.block m (Z1.lt p) id;refine(Ou (X1.fr k2 id) (P1.fr k2 id) (B1.fr k2 id) (e:=F.e) (at':=if F.e=0 then 0 else F.z.at') (λres w' h=>?_) (SQ Z2 hcd nc nh)).mono ?_
  .obtain⟨h1,_,_,_,_,_,_,h5⟩:=h;have nK:∀m,m<u.heap.size->¬d m->¬(d m\/m=B\/m=G):=λm p hn y=>by grind
   exact⟨h1,(X1.fr T id).fr h5 (nK xb X1.lt λy=>by have:=s _ y;omega),(P1.fr T id).fr h5 (nK pb P1.lt λy=>by have:=s _ y;omega),(B1.fr T id).fr h5 (nK n B1.lt λy=>(vj n y).2 rfl)⟩
  rintro res w'⟨h1,K,h2,h3,h4,h5,h6,h7⟩;exact⟨h1,K,h2,h3,h4,h5,h6,((Fr.refl _ v).drewN 1).trans h7⟩
 have z:Hid (∀sv v,Ux n k i j q b a c d r F.e (if F.e=0 then 0 else F.z.at') F.z (bU b l F.ts) u (.returned (.tuple #[sv,.int .i64 (F.e:Nat),.int .i64 ((if F.e=0 then 0 else F.z.at':Nat):Int)])) v->F.e=0->FdP n k i j q b a c d r F (bU b l F.ts) w (.returned (.tuple #[sv,.int .i64 (F.e:Nat),.int .i64 ((if F.e=0 then 0 else F.z.at':Nat):Int)])) v):=λsv v⟨Iv,K,E',g1,g2,M,g4,g5,g6,g7,H,g9,g10,L⟩J=>by
  have e1:sv=Iv:=by simpa using g1
  subst e1;refine⟨sv,rfl,g4,λm p=>⟨⟨(H m p).2.2.1,λy=>(H m p).1 (M.same y).2⟩,(H m p).2.2.2.imp id λy=>by omega⟩,(W.mono λ_ _ e=>e.elim).trans (L.mono λm _ e=>e.imp id Y),λm p=>(M.same p).1,λ_=>⟨K,E',g2,M,g5,g6,g7,λm p=>⟨(H m p).1,(H m p).2.1⟩,λm p=>(g9 m p).imp id λy=>by omega,λm p=>(g10 m p).imp id λy=>by omega⟩,λy=>absurd J y⟩
 have A:Hid (∀sv v,Ux n k i j q b a c d r F.e (if F.e=0 then 0 else F.z.at') F.z (bU b l F.ts) u (.returned (.tuple #[sv,.int .i64 (F.e:Nat),.int .i64 ((if F.e=0 then 0 else F.z.at':Nat):Int)])) v->F.e≠0->v.cell? (aD xb 0)=some (pT n)/\Calls prog 59 #[pT n,.int .i64 (F.e:Nat),.int .i64 ((if F.e=0 then 0 else F.z.at':Nat):Int)] v λr' w3=>r'=.returned (.tuple #[])/\FdP n k i j q b a c d r F (bU b l F.ts) w (.returned (.tuple #[sv,.int .i64 (F.e:Nat),.int .i64 ((if F.e=0 then 0 else F.z.at':Nat):Int)])) w3):=λsv v⟨Iv,K,E',g1,g2,M,g4,g5,g6,g7,H,g9,g10,L⟩J=>by
  have e1:sv=Iv:=by simpa using g1
  subst e1;refine⟨((X1.fr L λy=>?_).cell 0),(s_stop g5 F.e (if F.e=0 then 0 else F.z.at')).mono ?_⟩;.grind
  rintro r' w3⟨rfl,t1,t2⟩;refine⟨rfl,sv,rfl,aQ g4 λm p=>t2.block m (g4.lt m p).2 λy=>(H m p).2.2.1 y,λm p=>⟨⟨(H m p).2.2.1,λy=>(H m p).1 (M.same y).2⟩,(H m p).2.2.2.imp id λy=>by omega⟩,?_,λm p=>(t2.block m (M.lt (M.same p).2) λy=>g7 (y▸(M.same p).2)).trans (M.same p).1,λy=>absurd y J,λ_=>?_⟩;.exact((W.mono λ_ _ e=>e.elim).trans (L.mono λm _ e=>e.imp id Y)).trans (t2.mono λm _ e=>I (I e))
  rw[aa J]at t1;exact t1
 have me:=Z x;have Yt:=Z Uz;have HPB:=Z hpb;generalize q_:(if F.e=0 then 0 else F.z.at')=at' at*;clear R C SQ hB hz hF vj hds P N S hwd hl hxx hnm W z1 X1 P1 B1 Z1 F1 s hEl x Uz hpb NH hFd hx D U hlen;unfold dW;go_enter func38,ntmps38;go_wp2_with fail;rw[<-HPB.o,<-Yt.o,<-me.o];refine GO.o.mono ?_;intro res v hg;obtain⟨sv,_,_,rfl,_⟩:=id hg;by_cases J:F.e=0
 .have R0:=Z (z.o sv v hg J);have hd:((F.e:Int)!=0)=false:=by rw[J];rfl
  have Yu:(F.e:Int)=0:=om;rw[Yu]at R0;clear hg c0 c1 z A GO J;go_wp2;go_ret3;exact R0.o
 obtain⟨c3,ST⟩:=A.o sv v hg J;have TT:=Z ST;have hd:((F.e:Int)!=0)=true:=by rw[bne_iff_ne];omega
 have Yu:¬(F.e:Int)=0:=om;clear hg c0 c1 z A GO J ST;go_wp2_with fail;refine TT.o.mono ?_;rintro r' w3⟨rfl,hf⟩;have HF:=Z hf;clear hf;go_wp2;go_ret3;exact HF.o
theorem Cv{e at':Nat}(j:V w n #[m,o,.int .i64 (e:Nat),.int .i64 (at':Nat)] 135)(x:e≠0)(q:ByteArray):Calls prog 38 #[dW n,.string q] w λr c=>r=.returned (.tuple #[.slice none 0 0,.int .i64 (e:Nat),.int .i64 (at':Nat)])/\V c n #[.pointer none,.pointer none,.int .i64 (e:Nat),.int .i64 (at':Nat)] 135/\Fr (λk=>k=n) w c:=by
 obtain⟨h,d⟩:∃h,h=w.heap.size:=⟨_,rfl⟩;obtain⟨a,b⟩:∃a,a=(w.alloc (.cells #[pT n] 80)).alloc (.cells #[.string q] 9):=⟨_,rfl⟩;have i:Q w a:=by rw[b];exact((Fr.refl _ w).alloc _).alloc _
 have t:=j.lt;have s:V a h #[dW n] 80:=by rw[b,d];exact(V.new w _ _).alloc _
 have m:a.cell? (aD h 0)=some (pT n):=s.cell 0;have o:a.cell? (aD (w.heap.size+1) 0)=some (.string q):=by simp_all
 have v:Hid (∀u,Calls prog 57 #[pT n,.string q,u] a λr c=>r=.returned (.tuple #[.slice none 0 0,.int .i64 (e:Nat),.int .i64 (at':Nat)])/\Q a c):=λu=>Cu (j.fr i id) x q u;have NX:Hid (∀g,Q a g->g.cell? (aD h 0)=some (pT n)/\Calls prog 59 #[pT n,.int .i64 (e:Nat),.int .i64 (at':Nat)] g λr c=>r=.returned (.tuple #[])/\V c n #[.pointer none,.pointer none,.int .i64 (e:Nat),.int .i64 (at':Nat)] 135/\Fr (λk=>k=n) w c):=λg f=>by refine⟨(s.fr f id).cell 0,(s_stop (j.fr (i.trans f) id) e at').mono ?_⟩;rintro r c⟨rfl,t1,t2⟩;exact⟨rfl,t1,((i.trans f).mono λ_ _ e=>e.elim).trans t2⟩
 have C:((e:Int)!=0)=true:=by rw[bne_iff_ne];omega
 have B:¬(e:Int)=0:=om;have l:=Z b;have p:=Z d;clear j b i s d t x;unfold dW;go_enter func38,ntmps38;go_wp2_with fail;rw[<-l.o,<-p.o];refine mo (v.o _) λg f=>?_;obtain⟨c3,ST⟩:=NX.o g f;have A:=Z ST;clear ST f NX v m o;go_wp2_with fail;refine A.o.mono ?_;rintro r D⟨rfl,t1,t2⟩;have y:=Z t1;have z:=Z t2;clear t1 t2;go_wp2;go_ret3;exact⟨rfl,y.o,z.o⟩
theorem xv{e at':Nat}(q:V w n #[m,o,.int .i64 (e:Nat),.int .i64 (at':Nat)] 135)(u:e≠0):Calls prog 39 #[dW n] w λr c=>r=.returned (.tuple #[.slice none 0 0,.int .i64 (e:Nat),.int .i64 (at':Nat)])/\V c n #[.pointer none,.pointer none,.int .i64 4,.int .i64 0] 135/\Fr (λk=>k=n) w c:=by
 obtain⟨h,d⟩:∃h,h=w.heap.size:=⟨_,rfl⟩;obtain⟨b,a⟩:∃b,b=w.alloc (.cells #[pT n] 80):=⟨_,rfl⟩;have i:Q w b:=by rw[a];exact(Fr.refl _ w).alloc _
 have p:V b h #[dW n] 80:=by rw[a,d];exact V.new w _ _
 have m:b.cell? (aD h 0)=some (pT n):=p.cell 0;have t:Hid (∀s,Calls prog 57 #[pT n,.string ⟨#[]⟩,s] b λr c=>r=.returned (.tuple #[.slice none 0 0,.int .i64 (e:Nat),.int .i64 (at':Nat)])/\Q b c):=λs=>Cu (q.fr i id) u ⟨#[]⟩ s;have NX:Hid (∀g,Q b g->g.cell? (aD h 0)=some (pT n)/\Calls prog 59 #[pT n,.int .i64 4,.int .i64 0] g λr c=>r=.returned (.tuple #[])/\V c n #[.pointer none,.pointer none,.int .i64 4,.int .i64 0] 135/\Fr (λk=>k=n) w c):=λg f=>by refine⟨(p.fr f id).cell 0,(s_stop (q.fr (i.trans f) id) 4 0).mono ?_⟩;rintro r c⟨rfl,t1,t2⟩;exact⟨rfl,t1,((i.trans f).mono λ_ _ e=>e.elim).trans t2⟩
 have j:=Z a;have l:=Z d;clear q a i p d u;unfold dW;go_enter func39,ntmps39;go_wp2_with fail;rw[<-l.o,<-j.o];refine mo (t.o _) λg f=>?_;obtain⟨c3,ST⟩:=NX.o g f;have y:=Z ST;clear ST f NX t m;go_wp2_with fail;refine y.o.mono ?_;rintro r z⟨rfl,t1,t2⟩;have v:=Z t1;have x:=Z t2;clear t1 t2;go_wp2;go_ret3;exact⟨rfl,v.o,x.o⟩
def Yv(d:Nat)(e:Nat->Prop)(H:Nat->Option Obj)(a g:Nat->Prop)(z:Sn)(f:Fw)(w:World)(c:Ending)(b:World):Prop:=∃sv,c=.returned (.tuple #[sv,.int .i64 ((if aZ z=true then 0 else 2:Nat):Int),.int .i64 ((if aZ z=true then 0 else z.at':Nat):Int)])/\b.ownsRow 0 44 4 sv f.told.length (f.told.flatMap EZ)/\(∀k,sv.ownBlock=some k->(k≠d/\¬(e k\/jO k))/\(a k\/w.heap.size<=k))/\Fr (λk=>g k\/a k\/k=d) w b/\(∀k,e k\/jO k->b.heap[k]?=H k)/\V b d #[.pointer none,.pointer none,.int .i64 4,.int .i64 0] 135
theorem Ow(hx:b.length<=10)(v:cD b<=10)(x:∀f∈b,0<f.l.length)(hB:V w n #[dW k,dW j,.int .i64 0,.int .i64 0] 135)(hz:RZ w k d g)(hF:FE i j q b a c w r l)(W:∀m,d m->¬r m/\m≠n)(hds:¬r n)(hok:jm g)(H:kU l.g.sh (if aZ g=true then fF g else[]))(G:∀t∈(if aZ g=true then fF g else[]),t.t.length<=4000000):Calls prog 39 #[dW n] w (Yv n a c r d g (bU b l (if aZ g=true then fF g else[])) w):=by
 obtain⟨R,K⟩:∃R,R=w.heap.size:=⟨_,rfl⟩;obtain⟨p,u⟩:∃p,p=w.alloc (.cells #[pT n] 80):=⟨_,rfl⟩;have M:Q w p:=by rw[u];exact(Fr.refl _ w).alloc _
 have z1:p.heap.size=w.heap.size+1:=by rw[u,World.size_alloc]
 have X1:V p R #[dW n] 80:=by rw[u,K];exact V.new w _ _
 have B1:=hB.fr M id;have Z1:RZ p k d g:=hz.keep λm o=>M.block m (hz.lt o) id;have F1:FE i j q b a c p r l:=hF.keep hx v (λm o=>M.block m (hF.lt o) id) M.size;have s:∀m,d m->m<w.heap.size:=λm o=>hz.lt o;have hEl:∀m,r m->m<w.heap.size:=λm o=>hF.lt o;have c0:p.cell? (aD R 0)=some (pT n):=X1.cell 0;have hrm:room (E ⟨#[]⟩)=1:=rfl;obtain⟨L,J⟩:∃L,L=(if aZ g=true then fF g else[]):=⟨_,rfl⟩;obtain⟨C,F⟩:∃C:Nat,C=(if aZ g=true then 0 else 2):=⟨_,rfl⟩;obtain⟨A,D⟩:∃A:Nat,A=(if aZ g=true then 0 else g.at'):=⟨_,rfl⟩;have RE:∀{w1:World}{B N:Nat},RZ w1 k d g->cS B N (room (E ⟨#[]⟩)) w1 (λm=>m=B\/m=N) []->¬d B->¬d N->Calls prog 54 #[pT k,.func (.func 80) #[] #[pT B]] w1 (Ys k B N (room (E ⟨#[]⟩)) d C A g L w1):=λh1 h2 h3 h4=>by rw[J,F,D];exact Uw h1 h2 h3 h4 hok (by rw[hrm];exact aP _)
 unfold Yv;rw[<-J]at H G⊢;rw[<-F,<-D];have GO:Hid (Calls prog 57 #[pT n,.string ⟨#[]⟩,.func (.func 60) #[] #[pT R]] p (Ux n k i j q b a c d r C A g (bU b l L) p)):=by
  refine It hx v x B1 Z1 F1 W hds ⟨#[]⟩ zl (λ_ _=>Tryz.call60 _ _) (λz B N k2 hcb hch hc=>?_) H G;have nc:¬d B:=λy=>by have:=s _ y;omega
  have nh:¬d N:=λy=>by have:=s _ y;omega
  have Z2:RZ z k d g:=Z1.keep λm o=>k2.block m (Z1.lt o) id;exact Iu (X1.fr k2 id) (B1.fr k2 id) (e:=C) (at':=A) (λres w' h=>h.1) (RE Z2 hc nc nh)
 have S:Hid (∀sv z,Ux n k i j q b a c d r C A g (bU b l L) p (.returned (.tuple #[sv,.int .i64 (C:Nat),.int .i64 (A:Nat)])) z->z.cell? (aD R 0)=some (pT n)/\Calls prog 59 #[pT n,.int .i64 4,.int .i64 0] z λr' P=>r'=.returned (.tuple #[])/\P.ownsRow 0 44 4 sv (bU b l L).told.length ((bU b l L).told.flatMap EZ)/\(∀m,sv.ownBlock=some m->(m≠n/\¬(a m\/jO m))/\(r m\/w.heap.size<=m))/\Fr (λm=>d m\/r m\/m=n) w P/\(∀m,a m\/jO m->P.heap[m]?=c m)/\V P n #[.pointer none,.pointer none,.int .i64 4,.int .i64 0] 135):=λsv z⟨Iv,Er',E',g1,g2,U,g4,g5,g6,g7,g8,g9,g10,T⟩=>by
  have e1:sv=Iv:=by simpa using g1
  subst e1;refine⟨((X1.fr T λy=>?_).cell 0),(s_stop g5 4 0).mono ?_⟩;.grind
  rintro r' P⟨rfl,t1,t2⟩;refine⟨rfl,aQ g4 λm o=>t2.block m (g4.lt m o).2 λy=>(g8 m o).2.2.1 y,λm o=>⟨⟨(g8 m o).2.2.1,λy=>(g8 m o).1 (U.same y).2⟩,(g8 m o).2.2.2.imp id λy=>by omega⟩,?_,λm o=>(t2.block m (U.lt (U.same o).2) λy=>g7 (y▸(U.same o).2)).trans (U.same o).1,t1⟩;exact((M.mono λ_ _ e=>e.elim).trans (T.mono λm _ e=>e.imp id Y)).trans (t2.mono λm _ e=>I (I e))
 have me:=Z u;have Yt:=Z K;clear hB hz hF W hds hok H G M z1 X1 B1 Z1 F1 s hEl u K hx v x hrm RE J F D;unfold dW;go_enter func39,ntmps39;go_wp2_with fail;rw[<-Yt.o,<-me.o];refine GO.o.mono ?_;intro res z hg;obtain⟨sv,_,_,rfl,_⟩:=id hg;obtain⟨c3,ST⟩:=S.o sv z hg;have TT:=Z ST;clear hg c0 S GO ST;go_wp2_with fail;refine TT.o.mono ?_;rintro r' P⟨rfl,hf⟩;have HF:=Z hf;clear hf;go_wp2;go_ret3;exact⟨sv,rfl,HF.o⟩
def x0:Fx:=⟨[],none,[],.slice none 0 0,.slice none 0 0⟩
theorem UB(m:fg a w λw=>gW w n q b)(g:∀d,a d->d<w.heap.size/\d≠k)(j:EN w)(l:¬jO k)(h:∀d,a d\/jO d->w.heap[d]?=c d)(i:V w k (E8 n k x0 (.pointer none) (.string ⟨#[]⟩) (.int .i64 0)) 170):FE n k q b a c w (λd=>a d\/jO d\/d=k) cJ:=by
 refine⟨x0,λ_=>0,λ_=>False,λ_=>False,λd=>a d\/jO d,⟨⟨⟨m,λd f=>(g d f).1,j,⟨rfl,Y ⟨rfl,rfl⟩⟩,⟨rfl,Y ⟨rfl,rfl⟩⟩,λd f=>(by cases f),λd f=>(by cases f),λd=>?_,h⟩,i,λ_ y=>y,xw,trivial,λ_ y=>y.elim,λd f=>⟨id,id,λe=>?_⟩,⟨id,id⟩,λ_ t o=>(by cases o)⟩,nu b,xm,rfl,rfl,rfl⟩,λd=>?_⟩
 .constructor;.grind
  rintro(e|e|e|e);.exact Y e
  .exact I e
  .cases e
  cases e
 .grind
 grind
theorem Yw{w:World}{b:Nat}:Calls prog 56 #[dW b] w λr a=>r=.returned (dW w.heap.size)/\V a w.heap.size (E8 b w.heap.size x0 (.pointer none) (.string ⟨#[]⟩) (.int .i64 0)) 170/\Q w a/\a.heap.size=w.heap.size+1:=by unfold dW;go_enter func56,ntmps56;go_wp2;go_ret;exact⟨rfl,V.new w _ _,(Fr.refl _ w).alloc _,World.size_alloc _ _⟩
def StP(b:Nat)(g:ByteArray)(h:List Sg)(e:Nat->Prop)(w:World)(d:Ending)(c:World):Prop:=∃sb r f Er a,d=.returned (dW sb)/\V c sb #[dW r,dW f,.int .i64 0,.int .i64 0] 135/\RZ c r Er ah/\FE b f g h e (λk=>w.heap[k]?) c a cJ/\(∀k,Er k->¬a k/\k≠sb)/\¬a sb/\w.heap.size<=sb/\(∀k,Er k->w.heap.size<=k)/\(∀k,a k->e k\/jO k\/w.heap.size<=k)/\Q w c
theorem Ix(B:V w n #[dW k] 77)(A:fg a w λw=>gW w k q b)(h:∀c,a c->c<w.heap.size)(u:EN w):Calls prog 37 #[dW n] w (StP k q b a w):=by
 obtain⟨d,f⟩:∃d,d=w.alloc (.cells #[.int .i64 0,.int .i64 0,.slice none 0 0,.int .i64 0,.int .i64 0,.int .i64 0,.int .i64 0,.int .i64 0,.string ⟨#[]⟩,.pointer none,.slice none 0 0,.string ⟨#[]⟩,.int .i64 0,.int .i64 0,.nilFunc] 115):=⟨_,rfl⟩;have s:Q w d:=by rw[f];exact(Fr.refl _ w).alloc _
 have G:d.heap.size=w.heap.size+1:=by rw[f,World.size_alloc]
 have v:V d w.heap.size (vk 0 ah (.slice none 0 0) (.pointer none) (.slice none 0 0) .nilFunc) 115:=by rw[f];exact V.new w _ _
 have c0:d.cell? (aD n 0)=some (pT k):=(B.fr s id).cell 0;have o:Hid (Calls prog 56 #[pT k] d λr i=>r=.returned (pT d.heap.size)/\StP k q b a w (.returned (pT i.heap.size)) (i.alloc (.cells #[pT w.heap.size,pT d.heap.size,.int .i64 0,.int .i64 0] 135))):=by
  refine(Yw (w:=d) (b:=k)).mono ?_;rintro r i⟨rfl,D,x,H⟩;obtain⟨l,j⟩:∃l,l=i.alloc (.cells #[pT w.heap.size,pT d.heap.size,.int .i64 0,.int .i64 0] 135):=⟨_,rfl⟩;rw[<-j];have t:Q i l:=by rw[j];exact(Fr.refl _ i).alloc _
  have m:Q w l:=(s.trans x).trans t;have B3:V l i.heap.size #[dW w.heap.size,dW d.heap.size,.int .i64 0,.int .i64 0] 135:=by rw[j];exact V.new i _ _
  have F:RZ l w.heap.size (λc=>c=w.heap.size) ah:=⟨.slice none 0 0,.pointer none,.slice none 0 0,⟨(v.fr x id).fr t id,World.ownsRow_nil _ _ _ _,World.ownsRow_nil _ _ _ _,Y rfl,λ_=>rfl⟩,λc=>⟨Y,λe=>by
   rcases e with e|e|e;.exact e
   .cases e
   cases e⟩⟩;have z:∀c,jO c->c<w.heap.size:=λc g=>u.low g;refine⟨rfl,i.heap.size,w.heap.size,d.heap.size,λc=>c=w.heap.size,λc=>a c\/jO c\/c=d.heap.size,rfl,B3,F,UB (A.keep λc g=>m.block c (h c g) id) (λc g=>⟨aI (h c g) m.size,by have:=h c g;omega⟩) (u.keep m) λy=>by have:=z _ y;omega (λc g=>m.block c (g.elim (h c) λy=>z c y) id) (D.fr t id),λc g=>⟨λy=>?_,om⟩,λy=>?_,om,λc g=>by omega,λc g=>?_,m⟩;.grind
  .grind
  grind
 have p:=Z f;rw[f]at c0;clear B A h u f s G v;unfold dW;go_enter func37,ntmps37;go_wp2_with fail;rw[<-p.o];refine mh o.o λi C=>?_;clear c0 o;go_wp2;go_ret;exact C.o
theorem nA(a:List Sg):∀(b:List Tr.Tok){s:Fw},kU s.g.sh b->(bU a s b).g.sh=bC s.g.sh b|[],_,_=>rfl|t::r,s,h=>by show(bU a (dE a s t) r).g.sh=bC (fK s.g.sh t) r;rw[<-nz a s h.1];exact nA a r (by rw[nz a s h.1];exact h.2)
def ir(p:List UInt8):Nat:=(aj ah p).e
def fG(p:List UInt8):Nat:=if ir p=0 then 0 else(aj ah p).z.at'
def qB(a:List Sg)(p:List UInt8):List (Tv×Nat):=(bU a cJ (aj ah p).ts).told
def Cw(a:List Sg)(p q:List UInt8):List (Tv×Nat):=if ir p=0 then(bU a (tO (bU a cJ (aj ah p).ts)) (aj (aj ah p).z q).ts).told else[]
theorem Cx(a:List Sg)(p q:List UInt8):qB a (p++q)=qB a p++Cw a p q:=by grind[nB,qC,eQ,lM,ah,ir,Cw,qB]
theorem Ox(h:ir f=0):ir (f++J)=(aj (aj ah f).z J).e:=by unfold ir;rw[eQ f J ah h]
theorem Cy(q:List UInt8)(h:ir f≠0):ir (f++q)=ir f/\fG (f++q)=fG f:=by grind[lM,ah,fG,ir]
def ST(c b:Nat)(h:ByteArray)(g:List Sg)(d:Nat->Prop)(H:Nat->Option Obj)(w:World)(e:Nat->Prop)(p:List UInt8):Prop:=(ir p=0/\∃r f Er a,V w c #[dW r,dW f,.int .i64 0,.int .i64 0] 135/\RZ w r Er (aj ah p).z/\FE b f h g d H w a (tO (bU g cJ (aj ah p).ts))/\(∀k,Er k->¬a k/\k≠c)/\¬a c/\∀k,e k↔Er k\/a k\/k=c)\/(ir p≠0/\V w c #[.pointer none,.pointer none,.int .i64 (ir p:Nat),.int .i64 (fG p:Nat)] 135/\(∀k,d k\/jO k->w.heap[k]?=H k/\k<w.heap.size/\k≠c)/\∀k,e k↔k=c\/d k\/jO k)
theorem ST.same(h:ST n k q b a c w d f)(l:a i\/jO i):w.heap[i]?=c i/\d i:=by
 rcases h with⟨_,r,g,Er,e,m,o,j,_,_,p⟩|⟨_,m,j,o⟩;.exact⟨(j.same l).1,(p i).2 (I (Y (j.same l).2))⟩
 grind
theorem ST.lt(h:ST n k q b a c w d f)(p:d i):i<w.heap.size:=by
 rcases h with⟨_,r,j,Er,g,l,m,o,_,_,s⟩|⟨_,l,o,m⟩
 .rcases(s i).1 p with e|e|e;.exact m.lt e
  .exact o.lt e
  rw[e];exact l.lt
 rcases(m i).1 p with e|e;.rw[e];exact l.lt
 exact(o i e).2.1
theorem ST.keep(z:b.length<=10)(o:cD b<=10){w w':World}(h:ST n k q b a c w d f)(s:Sm d w w')(v:w.heap.size<=w'.heap.size):ST n k q b a c w' d f:=by
 rcases h with⟨t,r,g,Er,e,u,l,m,x,y,p⟩|⟨t,u,m,l⟩;.exact Y ⟨t,r,g,Er,e,(s n ((p n).2 (I (I rfl)))).trans u,l.keep λi j=>s i ((p i).2 (Y j)),m.keep z o (λi j=>s i ((p i).2 (I (Y j)))) v,x,y,p⟩
 exact I ⟨t,(s n ((l n).2 (Y rfl))).trans u,λi j=>⟨(s i ((l i).2 (I j))).trans (m i j).1,aI (m i j).2.1 v,(m i j).2.2⟩,l⟩
theorem Ae(f:V w n #[dW i,dW j,.int .i64 0,.int .i64 0] 135)(g:RZ w i d ah)(h:FE k j q b a c w r cJ)(l:∀e,d e->¬r e/\e≠n)(m:¬r n):ST n k q b a c w (λe=>d e\/r e\/e=n) []:=Y ⟨rfl,i,j,d,r,f,g,h,l,m,λ_=>Iff.rfl⟩
def SfP(h b:Nat)(i:ByteArray)(f:List Sg)(g:Nat->Prop)(H:Nat->Option Obj)(c:Nat->Prop)(p q:List UInt8)(w:World)(d:Ending)(e:World):Prop:=∃sv a,d=.returned (.tuple #[sv,.int .i64 (ir (p++q):Nat),.int .i64 (fG (p++q):Nat)])/\ST h b i f g H e a (p++q)/\e.ownsRow 0 44 4 sv (Cw f p q).length ((Cw f p q).flatMap EZ)/\(∀k,sv.ownBlock=some k->¬a k/\(c k\/w.heap.size<=k))/\(∀k,a k->c k\/w.heap.size<=k)/\Fr c w e
theorem Oy(hx:b.length<=10)(D:cD b<=10)(B:∀g∈b,0<g.l.length)(h:ST n k q b a c w d f)(m:ByteArray)(hl:f.length+m.size<=4000000):Calls prog 38 #[dW n,.string m] w (SfP n k q b a c d f (E m) w):=by
 have A:(E m).length=m.size:=ak m;rcases h with⟨p,r,j,Er,e,L,H,s,h4,h5,z⟩|⟨p,L,s,H⟩
 .have R:=fW f aX.1 aX.2 (by simp[ah]) (by simp[ah];omega);obtain⟨r1,r2,r3,r4⟩:=R.ok p;have q_:(aj ah f).z.at'=f.length:=by simpa[ah]using r3
  have htx:(aj ah f).z.tx.length<=f.length:=by have:=R.tx;simpa[ah]using this
  have N:(tO (bU b cJ (aj ah f).ts)).g.sh=bC ⟨[],0⟩ (aj ah f).ts:=nA b (aj ah f).ts (s:=cJ) R.tok;have P:=(re f aX.1 aX.2 (by simp[ah]) (by simp[ah];omega) λy=>by simp[ah]at y).2;have i:=vg (f++E m) ah 4000000 (by simp[ah,A];omega) (by simp[ah]);rw[eQ f (E m) ah p]at i;refine(Uy hx D B L H s h4 h5 m r1 (by rw[N];exact r4) r2 P om om λt ht=>i.1 t (List.mem_append_right _ ht)).mono ?_;rintro S w'⟨sv,rfl,G,x,K,gs,g4,g5⟩;have v:ir (f++E m)=(aj (aj ah f).z (E m)).e:=Ox p;have W:fG (f++E m)=if(aj (aj ah f).z (E m)).e=0 then 0 else(aj (aj ah f).z (E m)).z.at':=by unfold fG;rw[v,eQ f (E m) ah p]
  have F:Cw b f (E m)=(bU b (tO (bU b cJ (aj ah f).ts)) (aj (aj ah f).z (E m)).ts).told:=by unfold Cw;rw[ae p]
  have C:d n:=(z n).2 (I (I rfl));by_cases M:(aj (aj ah f).z (E m)).e=0
  .obtain⟨u,T,k1,k2,k3,k4,k5,k6,k7,k8⟩:=g4 M;refine⟨sv,λl=>u l\/T l\/l=n,by rw[v,W],Y ⟨by rw[v];exact M,r,j,u,T,k3,?_,?_,k4,k5,λ_=>Iff.rfl⟩,by rw[F];exact G,λl o=>⟨λy=>?_,?_⟩,λl o=>?_,K.mono λl _ y=>(z l).2 y⟩;.rw[eQ f (E m) ah p];exact k1
   .rw[eQ f (E m) ah p];grind[nB,qC]
   .grind
   .grind
   grind
  refine⟨sv,λl=>l=n\/a l\/jO l,by rw[v,W],I ⟨by rw[v];exact M,?_,λl o=>⟨gs l o,?_,λy=>h5 (y▸(s.same o).2)⟩,λ_=>Iff.rfl⟩,by rw[F];exact G,λl o=>⟨λy=>?_,(x l o).2.imp (λy=>(z l).2 (I (Y y))) id⟩,λl o=>Y ?_,K.mono λl _ y=>(z l).2 y⟩;.grind
  .exact aI (s.lt (s.same o).2) K.size
  .grind
  rcases o with y|y;.exact y▸C
  exact(z l).2 (I (Y (s.same y).2))
 obtain⟨J,U⟩:=Cy (E m) p;refine(Cv L p m).mono ?_;rintro S w'⟨rfl,G,x⟩;have F:Cw b f (E m)=[]:=by unfold Cw;rw[aa p]
 exact⟨.slice none 0 0,d,by rw[J,U],I ⟨by rw[J];exact p,by rw[J,U];exact G,λl o=>⟨(x.block l (s l o).2.1 (s l o).2.2).trans (s l o).1,aI (s l o).2.1 x.size,(s l o).2.2⟩,H⟩,by rw[F];exact⟨rfl,Y ⟨rfl,rfl⟩⟩,λl o=>(by cases o),λl o=>Y o,x.mono λl _ y=>(H l).2 (Y y)⟩
theorem vl(c:∀g∈b,0<g.l.length):∀(d:List Tr.Tok){s:Fw},wW b s->kU s.g.sh d->wW b (bU b s d)|[],_,h,_=>h|t::r,s,h,a=>by show wW b (bU b (dE b s t) r);exact vl c r (xq c h a.1) (by rw[nz b s a.1];exact a.2)
theorem rf:∀(b:List Tr.Tok){s:Sh},s.bd<=4000000->kU s b->(bC s b).bd<=4000000|[],_,h,_=>h|t::r,s,h,a=>by show(bC (fK s t) r).bd<=4000000;refine rf r ?_ a.2;unfold fK;have:=a.1.af;grind
theorem Cz(a:List Sg)(b:∀g∈a,0<g.l.length)(p:List UInt8)(f:p.length<=4000000):(qB a p).length<=4000000:=by
 have R:=fW p aX.1 aX.2 (by simp[ah]) (by simp[ah];omega);have F:=(vl b (aj ah p).ts (nu a) R.tok).n;have e:=nA a (aj ah p).ts (s:=cJ) R.tok;have B:(bU a cJ (aj ah p).ts).g.bd<=4000000:=by
  have:=rf (aj ah p).ts (s:=⟨[],0⟩) si R.tok;have c:(bU a cJ (aj ah p).ts).g.sh.bd=(bC ⟨[],0⟩ (aj ah p).ts).bd:=by rw[e];rfl
  have d:(bU a cJ (aj ah p).ts).g.sh.bd=(bU a cJ (aj ah p).ts).g.bd:=rfl;omega
 unfold qB;omega
def tR(a:List Sg)(p:List UInt8):List (Tv×Nat):=if ir p=0 then(bU a (tO (bU a cJ (aj ah p).ts)) (if aZ (aj ah p).z=true then fF (aj ah p).z else[])).told else[]
theorem Iy(h:bD f=0):qB b f++tR b f=(bU b cJ (iP f)).told:=by grind[nB,qC,tR,ah,aj,aZ,ir,qB,bD,iP]
theorem Iz(h:ir f≠0):bD f=ir f/\jB f=fG f:=by grind[fG,ir,jB,bD]
theorem CB(h:ir f=0):bD f=(if aZ (aj ah f).z=true then 0 else 2)/\jB f=(if aZ (aj ah f).z=true then 0 else f.length):=by grind[ah,aj,ir,jB,bD]
def UC(e:Nat)(f:List Sg)(c:Nat->Prop)(H:Nat->Option Obj)(d:Nat->Prop)(p:List UInt8)(w:World)(b:Ending)(a:World):Prop:=∃sv,b=.returned (.tuple #[sv,.int .i64 (bD p:Nat),.int .i64 (jB p:Nat)])/\a.ownsRow 0 44 4 sv (tR f p).length ((tR f p).flatMap EZ)/\(∀k,sv.ownBlock=some k->(k≠e/\¬(c k\/jO k))/\(d k\/w.heap.size<=k))/\Fr d w a/\(∀k,c k\/jO k->a.heap[k]?=H k)/\V a e #[.pointer none,.pointer none,.int .i64 4,.int .i64 0] 135
theorem IC(W:b.length<=10)(x:cD b<=10)(v:∀g∈b,0<g.l.length)(h:ST n k q b a c w d f)(hl:f.length<=4000000):Calls prog 39 #[dW n] w (UC n b a c d f w):=by
 rcases h with⟨o,r,j,Er,e,z,A,u,P,S,J⟩|⟨o,z,u,A⟩
 .have R:=fW f aX.1 aX.2 (by simp[ah]) (by simp[ah];omega);obtain⟨K,r2,r3,r4⟩:=R.ok o;have D:(aj ah f).z.at'=f.length:=by simpa[ah]using r3
  have F:(tO (bU b cJ (aj ah f).ts)).g.sh=bC ⟨[],0⟩ (aj ah f).ts:=nA b (aj ah f).ts (s:=cJ) R.tok;have i:=(vg f ah 4000000 (by simp[ah];omega) (by simp[ah])).2;have U:kU (bC ⟨[],0⟩ (aj ah f).ts) (fF (aj ah f).z):=by
   unfold fF;split;.rename_i T;exact kU.one (rh K r4 (I T) om)
   trivial
  have B:kU (tO (bU b cJ (aj ah f).ts)).g.sh (if aZ (aj ah f).z=true then fF (aj ah f).z else[]):=by
   rw[F];split;.exact U
   trivial
  have C:∀t∈(if aZ (aj ah f).z=true then fF (aj ah f).z else[]),t.t.length<=4000000:=λt p=>by
   split at p
   .unfold fF at p;split at p;.rw[dy.1 p];exact i
    cases p
   cases p
  refine(Ow W x v z A u P S K B C).mono ?_;rintro G w'⟨sv,rfl,H,s,L,M,N⟩;obtain⟨t1,t2⟩:=CB o;refine⟨sv,by rw[t1,t2,D],?_,λl m=>⟨(s l m).1,(s l m).2.imp (λy=>(J l).2 (I (Y y))) id⟩,L.mono λl _ y=>(J l).2 y,M,N⟩;grind[tR]
 refine(xv z o).mono ?_;rintro G w'⟨rfl,H,s⟩;obtain⟨t1,t2⟩:=Iz o;have C:tR b f=[]:=by unfold tR;rw[aa o]
 exact⟨.slice none 0 0,by rw[t1,t2],by rw[C];exact⟨rfl,Y ⟨rfl,rfl⟩⟩,λl m=>(by cases m),s.mono λl _ y=>(A l).2 (Y y),λl m=>(s.block l (u l m).2.1 (u l m).2.2).trans (u l m).1,H⟩
theorem ID(a:List Sg)(c:∀g∈a,0<g.l.length)(b:kU ⟨[],0⟩ p):(bU a cJ p).told.length<=4000000:=by
 have F:=(vl c p (nu a) b).n;have e:=nA a p (s:=cJ) b;have B:(bU a cJ p).g.bd<=4000000:=by
  have:=rf p (s:=⟨[],0⟩) si b;have d:(bU a cJ p).g.sh.bd=(bC ⟨[],0⟩ p).bd:=by rw[e];rfl
  have f:(bU a cJ p).g.sh.bd=(bU a cJ p).g.bd:=rfl;omega
 omega
theorem Oz(a:List Sg)(f:∀g∈a,0<g.l.length)(p:List UInt8)(k:p.length<=4000000):(qB a p).length+(tR a p).length<=4000000:=by
 by_cases b:ir p=0
 .have R:=fW p aX.1 aX.2 (by simp[ah]) (by simp[ah];omega);obtain⟨h,l,i,j⟩:=R.ok b;have e:(aj ah p).z.at'=p.length:=by simpa[ah]using i
  have d:kU (bC ⟨[],0⟩ (aj ah p).ts) (if aZ (aj ah p).z=true then fF (aj ah p).z else[]):=by
   split
   .unfold fF;split;.rename_i c;exact kU.one (rh h j (I c) om)
    trivial
   trivial
  have T:=ID a f (R.tok.app d);rw[nB,(qC a _ _).1,cG]at T;unfold tR;rw[ae b];exact T
 grind[Cz,tR]
