import Derived.Test.YtcbadebjpogmlaaGreatDoorVvTzA
import Derived.Test.YtcbadebjpogmlaaGreatDoorVvCi
import Derived.Test.YtcbadebjpogmlaaGreatDoorVvLwA
set_option maxHeartbeats 4000000
set_option maxRecDepth 100000
namespace Go.Proofs.YtcbadebjpogmlaaGreatDoor
open Go.RowKit Tr Go.Proofs.Tryz
def w_(p:(List UInt8×Nat×Nat)×Nat):List Value:=j9 p.1.1 p.1.2.1 p.1.2.2 p.2
theorem Nn(l:List Td):l.flatMap H6=(l.map λx=>kT (x.v,x.n)).flatMap w_:=by rw[List.flatMap_map];rfl
theorem No(l:List (Tv×Nat)):l.flatMap EZ=(l.map kT).flatMap w_:=by rw[List.flatMap_map];rfl
def Kc(w:World)(d:Value)(b:List ((List UInt8×Nat×Nat)×Nat)):Prop:=∃a c,d=.slice a b.length c/\(0<b.length->∃g o,a=some (aD g (o*4))/\∀j,j<b.length*4->w.cell? (aD g (o*4+j))=(b.flatMap w_)[j]?)
def ug(c:Nat)(S:ByteArray)(d e a:Nat)(b:Bool):Array Value:=#[pT c,.string S,.int .i64 (d:Nat),.int .i64 (e:Nat),.int .i64 (a:Nat),.bool b]
def TlQ(L:List ((List UInt8×Nat×Nat)×Nat))(w:World)(r:Ending)(a:World):Prop:=∃sv,r=.returned sv/\Q w a/\a.ownsRow w.heap.size 44 4 sv L.length (L.flatMap w_)
def NwP(c f:Nat)(S:ByteArray)(g e a:Nat)(d:Bool)(L:List ((List UInt8×Nat×Nat)×Nat))(w:World)(r:Ending)(b:World):Prop:=∃sv,r=.returned sv/\Kc b sv (L.drop g)/\V b c (ug f S L.length e a d) 156/\Fr (λk=>k=c) w b
variable{n k a i j:Nat}{q:ByteArray}{r:List ((List UInt8×Nat×Nat)×Nat)}{d:Value}
theorem Np{w:World}{tn:Nat}{B:Bool}(y:V w n (ug k q tn a i B) 156)(J:Calls prog 101 #[pT k,d] w (TlQ r w))(hn:tn<=r.length):Calls prog 69 #[pT n,d] w (NwP n k q tn a i B r w):=by
 have F:=Z y;have N:=Z J;have u:=y.lt;have c0:w.cell? (aD n 0)=some (pT k):=y.cell 0;clear y J;go_enter func69,ntmps69;go_wp2_with fail;refine N.o.mono ?_;rintro f t⟨sv,rfl,C,D⟩;obtain⟨sa,v,rfl⟩:=X D;have P:=Z C;have G:=Z D;have z:=Z (F.o.fr C id);obtain⟨e,m⟩:∃e,e=r.length:=⟨_,rfl⟩;rw[<-m];rw[<-m]at hn;have s:=Z m;have c2:t.cell? (aD n 2)=some (.int .i64 (tn:Nat)):=z.o.cell 2;have z2:=z.o.fz 2;have K:e<=v:=by
  rcases G.o.2 with⟨x,_⟩|⟨g',H,S,y1,_,_,y4,_⟩;.grind
  grind
 have l:Hid (V (t.setCell (aD n 2) (.int .i64 (e:Nat))) n (ug k q r.length a i B) 156/\Fr (λb=>b=n) w (t.setCell (aD n 2) (.int .i64 (e:Nat)))):=⟨by have:=z.o.set 2 (.int .i64 (e:Nat));rw[s.o]at this⊢;exact this,(show Fr (λb=>b=n) w t from P.o.mono λ_ _ x=>x.elim).setCell (aD n 2) (Y rfl) _⟩;have A:Hid (n<w.heap.size):=Z u;clear C D c0 m F u;by_cases T:v=tn;.subst T;have p:Hid (∀x c,Kc (t.setCell (aD n 2) (.int .i64 (e:Nat))) (.slice x 0 c) (r.drop v)):=λx c=>⟨x,c,by rw[List.length_drop,<-s.o,show e-v=0 by omega],λh=>by rw[List.length_drop,<-s.o]at h;omega⟩;go_wp2;go_ret;exact⟨_,rfl,p.o _ _,l.o.1,l.o.2⟩
 have p:Hid (Kc (t.setCell (aD n 2) (.int .i64 (e:Nat))) (.slice (sa.map λx=>x.add (tn*4)) (e-tn) (v-tn)) (r.drop tn)):=by
  refine⟨_,_,by rw[List.length_drop,s.o],λh=>?_⟩;rw[List.length_drop,<-s.o]at h;have o:=G.o;rw[<-s.o]at o;obtain⟨g,R,L,U,_⟩:=o.form om;simp only[Value.slice.injEq,true_and]at L;obtain⟨rfl,rfl⟩:=L;refine⟨g,tn,by simp[Addr.add];omega,λj W=>?_⟩;rw[List.length_drop,<-s.o]at W;rw[World.cell?_setCell_far _ _ _ _ (by have:=A.o;show n≠g;omega),o.cellAt (tn*4+j) om];have a:r.flatMap w_=(r.take tn).flatMap w_++(r.drop tn).flatMap w_:=by rw[<-iy,iU]
  have el:∀M:List ((List UInt8×Nat×Nat)×Nat),(M.flatMap w_).length=M.length*4:=by intro M;induction M with|nil=>rfl|cons x f ih=>rw[kD,cG,ih];show 4+f.length*4=(f.length+1)*4;omega
  grind
 go_wp2;go_ret;exact⟨_,rfl,p.o,l.o.1,l.o.2⟩
variable{w v u:World}
theorem Nq:Calls prog 101 #[pT n,.pointer none] w (TlQ [] w):=by go_enter func101,ntmps101;go_wp2;go_ret;exact⟨_,rfl,Fr.refl _ _,rfl,Y ⟨rfl,rfl⟩⟩
def SVt(w:World)(A:Nat->Nat)(D:Nat->Prop)(a:Nat)(t v:Tv):Prop:=Yl w A D a v/\v∈ai 10 t
variable{b J:Nat->Nat}{l o:Nat->Prop}{c:List Sg}
theorem Um{t:Tv}(L:V w k #[d] 148)(A:iX w d c)(o:∀g∈c,0<g.l.length)(r:cD c<=10)(J:RT w b l n 9 t)(H:∀j,l j->j<w.heap.size)(z:fI 10 0 (a+1) t)(M:a<=1100000):TlE w b l n (SVt w b l n t) k d c t/\oA b t:=by
 have s:Tree t:=⟨z.deep,z.Yx⟩;have q:∀v∈ai 10 t,fr v<a+1:=λv D=>(z.all v D).2.1;have p:(ai 10 t).length<=4000000:=by have:=qT ((ai 10 t).map fr) 0 (a+1) (List.pairwise_map.2 s.a) (λx F=>by grind);grind
 have B:RX w b l n (SVt w b l n t):=⟨λu m h y=>⟨uX.Bt u m.1 h y,gZ s.d m.2 y⟩,λu m=>uX.rt u m.1,λu m=>uX.len u m.1⟩;have G:SVt w b l n t t:=⟨⟨9,aP _,J,p⟩,bq s.d⟩;have C:oA b t:=λu m v D e=>by
  have j:∀x∈ai 10 t,w.cell? (aD (b x.d.af) 5)=some (.int .i64 (x.d.af:Nat)):=λx F=>by obtain⟨_,f⟩:=RT.vc (n:=9) (B.rt x (sX B.Bt 10 t x G F));exact f.b.cell 5
  grind
 refine⟨⟨L,⟨B,A,H⟩,G,?_,λg K=>?_,λi n=>?_,λu m=>⟨?_,?_⟩,(DZ s C).2⟩,C⟩;.have:=lh c o;omega
 .have:=s_ c g K;omega
 .have:=mr s q c o r n;grind
 .have:=q u m.2;unfold fr at this;omega
 by_cases y:0<=u.d.cl;.have:=(z.all u m.2).2.2.2.2 y;rw[this.2];split<;>omega
 omega
structure Xo(xs:List Sg):Prop where
 x:∀g∈xs,0<g.l.length
 s:jS xs
 r:∀g∈xs,lx g
 n:cD xs<=10
variable{g:List UInt8}
theorem afx(h:cD (cK g)<=10):Xo (cK g):=⟨eh g,E9 g,uM g,h⟩
theorem Ns(i:Xo c)(M:q.size<=1100000)(h:MV w q false n v)(N:k<w.heap.size)(C:Fr (λf=>f=k) v u)(L:V u a #[d] 148)(p:iX u d c):∃j,V v n (qJ q (aw (E q)).p (aw (E q)).e j) 161/\Calls prog 101 #[pT a,j] u (TlQ ((qB c (E q)).map kT) u):=by
 obtain⟨j,S,W,U⟩:=h.r;refine⟨j,S,?_⟩;have D:(E q).length<=4000000:=by rw[ak];omega
 rcases zo i.x i.s i.r D with⟨y,s⟩|⟨g,F,s,_⟩;.grind[Nq,E,qB]
 obtain⟨A,H,B⟩:=U g F;have e:shut false q.size (aw (E q)).e g=g:=aa (λz=>by cases z.2.1);rw[e]at B;have J:RT u A (λf=>w.heap.size<=f/\f<v.heap.size) (q.size+1) 9 g:=RT.keep (λf m=>C.block f m.2 (by show f≠k;omega)) _ _ B;rw[ak]at s;obtain⟨T,K⟩:=Um L p i.x i.n J (λf m=>aI m.2 C.size) s M;rw[H];refine(EP T).mono ?_;rintro r w'⟨sv,l,rfl,f,o,P,R⟩;have b:=QN i.x i.s i.r D F K P R;have t:l.map (λx=>kT (x.v,x.n))=(qB c (E q)).map kT:=b;have G:l.length=((qB c (E q)).map kT).length:=by rw[<-t,eY]
 rw[Nn,t,G]at o;exact⟨sv,rfl,f,o⟩
theorem Nt(i:Xo c)(N:q.size<=1100000)(x:(aw (E q)).e=0)(h:MV w q true n v)(P:k<w.heap.size)(C:Fr (λb=>b=k) v u)(M:V u a #[d] 148)(z:iX u d c):∃j,V v n (qJ q (aw (E q)).p (aw (E q)).e j) 161/\Calls prog 101 #[pT a,j] u (TlQ ((qB c (E q)++tR c (E q)).map kT) u):=by
 obtain⟨j,W,r2,r3⟩:=h.r;refine⟨j,W,?_⟩;have D:(E q).length<=4000000:=by rw[ak];omega
 obtain⟨L,_,f,e,p,b3,_⟩:=(kP (E q) D).ok x;obtain⟨A,H,B⟩:=r3 f p;obtain⟨t,R⟩:∃t,t=shut true q.size (aw (E q)).e f:=⟨_,rfl⟩;rw[<-R]at B;have g:t=if f.d.cl<0 then⟨{f.d with cl:=((E q).length:Int)},f.ws⟩else f:=by grind[ak,shut]
 obtain⟨F,_,e3⟩:=Ec x p g;have s:t.d.af=f.d.af:=by grind
 have J:RT u A (λb=>w.heap.size<=b/\b<v.heap.size) (q.size+1) 9 t:=RT.keep (λb y=>C.block b y.2 (by show b≠k;omega)) _ _ B;rw[ak]at F;obtain⟨T,K⟩:=Um M z i.x i.n J (λb y=>aI y.2 C.size) F N;rw[H];unfold cj;rw[<-s];refine(EP T).mono ?_;rintro r w'⟨sv,l,rfl,b,o,S,U⟩;have m:=LX i.x i.s i.r D x p g K S U;rw[<-Iy L]at m;have G:l.length=((qB c (E q)++tR c (E q)).map kT).length:=by rw[<-m,eY]
 rw[Nn,m,G]at o;exact⟨sv,rfl,b,o⟩
theorem afy{s:List UInt8}(d:s.length<=4000000):((aw s).e=0/\ir s=0/\fG s=0)\/((aw s).e≠0/\(aw s).p<s.length/\ir s=(aw s).e/\fG s=(aw s).p)\/((aw s).e=2/\(aw s).p=s.length/\ir s=0/\fG s=0):=by
 have W:=kP s d;have z:ir s=0->fG s=0:=λh=>by unfold fG;rw[ae h]
 by_cases h:(aw s).e=0
 .have a:ir s=0:=by have:=(W.ok h).1;grind[ah,aj,ir,bD]
  exact Y ⟨h,a,z a⟩
 obtain⟨_,_,B⟩:=W.no h;obtain⟨e,c⟩:=Bv B;rcases Nat.lt_or_ge (aw s).p s.length with y|y;.grind[fG,ir]
 have b:(aw s).p=s.length:=by have:=B.1.le;omega
 obtain⟨c1,c2,_⟩:=c b;exact I (I ⟨c2,b,c1,z c1⟩)
theorem Kh{gq:Nat}:Calls prog 46 #[pT gq] w λr a=>r=.returned (pT w.heap.size)/\a=w.alloc (.cells (ug gq ⟨#[]⟩ 0 0 0 false) 156):=by go_enter func46,ntmps46;go_wp2;go_ret;exact⟨rfl,rfl⟩
def Yo(c b:Nat)(d:List Sg)(p:List UInt8)(w:World):Prop:=∃S a,V w c (ug b S a (ir p) (fG p) false) 156/\(ir p=0->E S=p/\a=(qB d p).length)
def RSc(c b:Nat)(w:World):Prop:=∃S d e a,V w c (ug b S d e a true) 156
def RfP(b d:Nat)(c:List Sg)(p q:List UInt8)(w:World)(r:Ending)(a:World):Prop:=∃sv,r=.returned (.tuple #[sv,.int .i64 (ir (p++q):Nat),.int .i64 (fG (p++q):Nat)])/\Kc a sv ((Cw c p q).map kT)/\Yo b d c (p++q) a/\Fr (λk=>k=b) w a
theorem qW(w:World):Kc w (.slice none 0 0) []:=⟨none,0,rfl,λh=>by cases h⟩
theorem Sp(d:V w n (ug k q a i j false) 156)(e:i≠0)(c:ByteArray):Calls prog 47 #[pT n,.string c] w λr f=>r=.returned (.tuple #[.slice none 0 0,.int .i64 (i:Nat),.int .i64 (j:Nat)])/\∃b,f=w.drewN b:=by
 have c5:w.cell? (aD n 5)=some (.bool false):=d.cell 5;have c3:w.cell? (aD n 3)=some (.int .i64 (i:Nat)):=d.cell 3;have c4:w.cell? (aD n 4)=some (.int .i64 (j:Nat)):=d.cell 4;have g:((i:Int)!=0)=true:=by rw[bne_iff_ne];omega
 clear d e;go_enter func47,ntmps47;go_wp2;go_quiet(fail);go_wp2;go_ret3;exact⟨rfl,_,rfl⟩
theorem Sq(c:V w n (ug k q a i j true) 156)(b:ByteArray):Calls prog 47 #[pT n,.string b] w λr d=>r=.returned (.tuple #[.slice none 0 0,.int .i64 4,.int .i64 0])/\d=w:=by have c5:w.cell? (aD n 5)=some (.bool true):=c.cell 5;clear c;go_enter func47,ntmps47;go_wp2;go_ret3;exact⟨rfl,rfl⟩
theorem Ss(hx:Xo c)(B:V w n (ug k q a 0 0 false) 156)(htn:a=(qB c (E q)).length)(hq:∀W,Fr (λe=>e=n) w W->V W k #[d] 148/\iX W d c)(g:ByteArray)(hl:q.size+g.size<=1100000):Calls prog 47 #[pT n,.string g] w (RfP n k c (E q) (E g) w):=by
 have HX:=Z hx;have HQ:=Z hq;have HB:=Z B;have NH:=B.lt;obtain⟨b,hZ⟩:∃b,b=q++g:=⟨_,rfl⟩;have bZ:E b=E q++E g:=by rw[hZ];exact dI q g
 have hZl:b.size<=1100000:=by grind
 have FE:=Z (afy (s:=E b) (by rw[ak];omega));have P:=Z bZ;have TN:Hid (a<=((qB c (E b)).map kT).length/\((qB c (E b)).map kT).drop a=(Cw c (E q) (E g)).map kT):=by rw[bZ,Cx,fC,htn];grind
 have c5:w.cell? (aD n 5)=some (.bool false):=B.cell 5;have c3:w.cell? (aD n 3)=some (.int .i64 0):=B.cell 3;have c1:w.cell? (aD n 1)=some (.string q):=B.cell 1;have z1:=B.fz;obtain⟨h,u⟩:∃h,h=w.setCell (aD n 1) (.string b):=⟨_,rfl⟩;have F1:Hid (Fr (λe=>e=n) w h):=by rw[u];exact(Fr.refl (λe=>e=n) w).setCell (aD n 1) (Y rfl) _
 have B1:Hid (V h n (ug k b a 0 0 false) 156):=by rw[u];exact HB.o.set 1 _
 have d1:h.cell? (aD n 1)=some (.string b):=B1.o.cell 1;clear B hx hq htn bZ;go_enter func47,ntmps47;go_upto_region 6 with fail;rw[<-hZ,<-u];clear c5 c3 c1 z1 HB hZ u hl;go_wp2_with fail;refine mo (Cf (w:=h) (s:=b) om false) λH U=>?_;have HR:=Z U;have J:=Z (B1.o.fr U.f id);have K2:=Z U.f;have hs1:n<h.heap.size:=aI NH F1.o.size;obtain⟨rt,hb,_,_⟩:=U.r;obtain⟨j,D⟩:∃j,j=(aw (E b)).e:=⟨_,rfl⟩;obtain⟨tp,F⟩:∃tp,tp=(aw (E b)).p:=⟨_,rfl⟩;rw[<-D,<-F]at hb;rw[<-D,<-F]at FE;have RB:=Z hb;have s1:H.cell? (aD n 1)=some (.string b):=J.o.cell 1;have s3:H.cell? (aD n 3)=some (.int .i64 0):=J.o.cell 3;have s4:H.cell? (aD n 4)=some (.int .i64 0):=J.o.cell 4;have r1:H.cell? (aD h.heap.size 1)=some (.int .i64 (tp:Nat)):=hb.cell 1;have r2:H.cell? (aD h.heap.size 2)=some (.int .i64 (j:Nat)):=hb.cell 2;have z2:=J.o.fz;have BL:=ak b;rw[BL]at FE;clear U hb d1 BL D F;go_upto_region 7 with fail;go_cut[62]from 39λx wc=>x=.bool (decide (ir (E b)≠0))/\∃e,wc=H.drewN e;case first=>
  rcases FE.o with⟨i,R,_⟩|⟨i,R,S,_⟩|⟨i,R,S,_⟩;focus
   rw[i]at r2;have hd:decide (ir (E b)≠0)=false:=by simpa using R
   clear i R
  rotate_left;focus
   have hd:decide (ir (E b)≠0)=true:=by rw[S];simpa using i
   have T:((j:Int)!=0)=true:=by rw[bne_iff_ne];omega
   have v:(tp:Int)<(b.size:Int):=om;clear i S
  rotate_left;focus
   have hd:decide (ir (E b)≠0)=false:=by simpa using S
   rw[i]at r2;have v:¬(tp:Int)<(b.size:Int):=om;clear i S
  all_goals go_wp2;go_quiet(fail);go_wp2;go_meet;exact⟨by rw[hd],_,rfl⟩
 case rest=>
 obtain⟨rfl,k3,p⟩:=hcut;obtain⟨bb,C⟩:∃bb,decide (ir (E b)≠0)=bb:=⟨_,rfl⟩;rw[C];have A:=Z C;have K3:Hid (Q h wc):=by rw[p];exact K2.o.drewN _
 have B3:Hid (V wc n (ug k b a 0 0 false) 156):=by rw[p];exact J.o
 have o:Hid (V wc h.heap.size (qJ b tp j rt) 161):=by rw[p];exact RB.o
 have N:Hid (Fr (λe=>e=n) H wc):=by rw[p];exact(Fr.refl _ _).drewN _
 clear C p s1 s3 s4 r1 r2 z2 K2 J RB;generalize wc=m at*;go_upto_if 62 with fail;go_cut[]from 63λwd=>V wd n (ug k b a (ir (E b)) (fG (E b)) false) 156/\V wd h.heap.size (qJ b tp j rt) 161/\Fr (λe=>e=n) m wd;case first=>
  cases bb
  .have K:ir (E b)=0:=by have:=A.o;simpa using this
   have i:fG (E b)=0:=by unfold fG;rw[ae K]
   go_wp2;go_meet;exact⟨by rw[K,i];exact B3.o,o.o,Fr.refl _ _⟩
  have K:ir (E b)≠0:=by have:=A.o;simpa using this
  have i:ir (E b)=j/\fG (E b)=tp:=by
   rcases FE.o with⟨_,y,_⟩|⟨_,_,y⟩|⟨_,_,y,_⟩;.exact absurd y K
   .exact y
   exact absurd y K
  have s3:m.cell? (aD n 3)=some (.int .i64 0):=B3.o.cell 3;have s4:m.cell? (aD n 4)=some (.int .i64 0):=B3.o.cell 4;have r1:m.cell? (aD h.heap.size 1)=some (.int .i64 (tp:Nat)):=o.o.cell 1;have r2:m.cell? (aD h.heap.size 2)=some (.int .i64 (j:Nat)):=o.o.cell 2;have z2:=B3.o.fz;have t:Hid (V ((m.setCell (aD n 3) (.int .i64 (j:Nat))).setCell (aD n 4) (.int .i64 (tp:Nat))) n (ug k b a (ir (E b)) (fG (E b)) false) 156/\V ((m.setCell (aD n 3) (.int .i64 (j:Nat))).setCell (aD n 4) (.int .i64 (tp:Nat))) h.heap.size (qJ b tp j rt) 161/\Fr (λe=>e=n) m ((m.setCell (aD n 3) (.int .i64 (j:Nat))).setCell (aD n 4) (.int .i64 (tp:Nat)))):=by have f:Fr (λe=>e=n) m ((m.setCell (aD n 3) (.int .i64 (j:Nat))).setCell (aD n 4) (.int .i64 (tp:Nat))):=((Fr.refl (λe=>e=n) m).setCell (aD n 3) (Y rfl) _).setCell (aD n 4) (Y rfl) _;exact⟨by rw[i.1,i.2];exact(B3.o.set 3 _).set 4 _,o.o.fr f om,f⟩
  have hne:n≠h.heap.size:=om;clear K i;go_wp2;go_meet;exact t.o
 case rest=>
 obtain⟨b4,G,f4⟩:=hcut;have F4:=Z (N.o.trans f4);have FW:=Z ((F1.o.trans (K3.o.mono λ_ _ x=>x.elim)).trans f4);obtain⟨hq1,hq2⟩:=HQ.o _ (FW.o.drewN 1);obtain⟨s,rb',hT⟩:=Ns HX.o hZl HR.o hs1 (F4.o.drewN 1) hq1 hq2;have ert:s=rt:=by have i:=(rb'.fr F4.o om).cell 3;have R:=G.cell 3;grind[qJ]
 subst ert;have NW:=Z (Np (w:=wc.drew) (tn:=a) b4 hT TN.o.1);have t:Hid (∀sv l,Kc l sv (((qB c (E b)).map kT).drop a)->V l n (ug k b ((qB c (E b)).map kT).length (ir (E b)) (fG (E b)) false) 156->Fr (λe=>e=n) wc.drew l->RfP n k c (E q) (E g) w (.returned (.tuple #[sv,.int .i64 (ir (E b):Nat),.int .i64 (fG (E b):Nat)])) l):=λsv l T v h3=>by rw[TN.o.2]at T;rw[eY]at v;unfold RfP;rw[<-P.o];exact⟨sv,rfl,T,⟨b,_,v,λ_=>⟨rfl,rfl⟩⟩,(FW.o.drewN 1).trans h3⟩
 have s3:wc.cell? (aD n 3)=some (.int .i64 (ir (E b):Nat)):=b4.cell 3;have s4:wc.cell? (aD n 4)=some (.int .i64 (fG (E b):Nat)):=b4.cell 4;have r3:wc.cell? (aD h.heap.size 3)=some s:=G.cell 3;clear hT hq1 hq2 b4 G f4 rb' HR F1 B1 K3 B3 o N F4 FW TN P FE HX HQ A;generalize ir (E b)=se at*;generalize fG (E b)=sa at*;generalize(qB c (E b)).map kT=L at*;have hrl:h.heap.size<wc.heap.size:=gF r3;have M:Hid (Calls prog 69 #[pT n,s] wc.drew λr l=>∃sv,r=.returned sv/\(l.cell? (aD n 3)=some (.int .i64 (se:Nat))/\l.cell? (aD n 4)=some (.int .i64 (sa:Nat))/\l.cell? (aD h.heap.size 3)=some s)/\RfP n k c (E q) (E g) w (.returned (.tuple #[sv,.int .i64 (se:Nat),.int .i64 (sa:Nat)])) l):=by refine NW.o.mono ?_;rintro r l⟨sv,rfl,T,v,h3⟩;exact⟨sv,rfl,⟨v.cell 3,v.cell 4,(h3.cell (p:=aD h.heap.size 3) hrl (by show h.heap.size≠n;omega)).trans r3⟩,t.o sv l T v h3⟩
 clear NW t hrl;go_upto_region 10 with fail;go_region_heldλW=>W.cell? (aD n 3)=some (.int .i64 (se:Nat))/\W.cell? (aD n 4)=some (.int .i64 (sa:Nat))/\W.cell? (aD h.heap.size 3)=some s(first|exact⟨s3,s4,r3⟩|assumption)(first|(go_at_call 69;refine M.o.mono ?_;rintro r l⟨sv,rfl,hS5,z⟩;have tu:=Z z;clear z));go_wp2;go_ret3;exact tu.o
theorem Xp(u:Xo c)(h:Yo n k c g w)(t:∀W,Fr (λa=>a=n) w W->V W k #[d] 148/\iX W d c)(q:ByteArray)(j:g.length+q.size<=1100000):Calls prog 47 #[pT n,.string q] w (RfP n k c g (E q) w):=by
 obtain⟨S,v,e,m⟩:=h;by_cases b:ir g=0
 .obtain⟨o,p⟩:=m b;have s:fG g=0:=by unfold fG;rw[ae b]
  rw[b,s]at e;subst o;exact Ss u e p t q (by rw[ak]at j;exact j)
 refine(Sp e b q).mono ?_;rintro r x⟨rfl,a,rfl⟩;obtain⟨f,i⟩:=Cy (E q) b;have l:Cw c g (E q)=[]:=by unfold Cw;rw[aa b]
 exact⟨_,by rw[f,i],by rw[l];exact qW _,⟨S,v,by rw[f,i];exact e,λz=>absurd (f▸z) b⟩,(Fr.refl _ _).drewN a⟩
def RcP(b c:Nat)(d:List Sg)(p:List UInt8)(w:World)(r:Ending)(a:World):Prop:=∃sv,r=.returned (.tuple #[sv,.int .i64 (bD p:Nat),.int .i64 (jB p:Nat)])/\Kc a sv ((tR d p).map kT)/\RSc b c a/\Fr (λk=>k=b) w a
theorem Nu(b:V w n (ug k q a i j true) 156):Calls prog 49 #[pT n] w λr c=>r=.returned (.tuple #[.slice none 0 0,.int .i64 4,.int .i64 0])/\c=w:=by have c5:w.cell? (aD n 5)=some (.bool true):=b.cell 5;clear b;go_enter func49,ntmps49;go_wp2;go_ret3;exact⟨rfl,rfl⟩
theorem Un(h:bD g≠0):tR c g=[]:=by
 unfold tR;by_cases y:ir g=0
 .rw[ae y];have:=(CB y).1;by_cases z:aZ (aj ah g).z=true;.grind
  rw[aa z];rfl
 rw[aa y]
theorem Su(hx:Xo c)(h:Yo n k c g w)(hq:∀W,Fr (λa=>a=n) w W->V W k #[d] 148/\iX W d c)(hl:g.length<=1100000):Calls prog 49 #[pT n] w (RcP n k c g w):=by
 obtain⟨S,tn,v,T⟩:=h;have M:=Z hx;have K:=Z hq;have NH:=v.lt;have c5:w.cell? (aD n 5)=some (.bool false):=v.cell 5;have z1:=v.fz;obtain⟨e,f⟩:∃e,e=w.setCell (aD n 5) (.bool true):=⟨_,rfl⟩;have t:Hid (Fr (λa=>a=n) w e):=by rw[f];exact(Fr.refl (λa=>a=n) w).setCell (aD n 5) (Y rfl) _
 have j:Hid (V e n (ug k S tn (ir g) (fG g) true) 156):=by rw[f];exact v.set 5 _
 have H2:=Z T;by_cases l:ir g=0
 .obtain⟨h3,h4⟩:=T l;have ha:fG g=0:=by unfold fG;rw[ae l]
  rw[l,ha]at j;have d1:e.cell? (aD n 1)=some (.string S):=j.o.cell 1;have d3:e.cell? (aD n 3)=some (.int .i64 0):=j.o.cell 3;have hSl:S.size<=1100000:=by rw[<-ak,h3];exact hl
  have m:=Z h3;have o:=Z h4;clear v hx hq T h3 h4 ha l hl H2;go_enter func49,ntmps49;go_upto_region 4 with fail;rw[<-f];clear c5 z1 f;go_wp2_with fail;refine mo (Cf (w:=e) (s:=S) om true) λH y=>?_;have U:=Z y;have J:=Z (j.o.fr y.f id);have B:=Z (t.o.trans (y.f.mono λ_ _ x=>x.elim));have hs1:n<e.heap.size:=aI NH t.o.size;obtain⟨rt,z,_,_⟩:=y.r;obtain⟨q,b⟩:∃q,q=(aw (E S)).e:=⟨_,rfl⟩;obtain⟨tp,p⟩:∃tp,tp=(aw (E S)).p:=⟨_,rfl⟩;rw[<-b,<-p]at z;have N:=kP (E S) (by rw[ak];omega);have r1:H.cell? (aD e.heap.size 1)=some (.int .i64 (tp:Nat)):=z.cell 1;have r2:H.cell? (aD e.heap.size 2)=some (.int .i64 (q:Nat)):=z.cell 2;have r3:H.cell? (aD e.heap.size 3)=some rt:=z.cell 3;by_cases u:q=0
  .have l:(aw (E S)).e=0:=by rw[<-b];exact u
   obtain⟨D,F⟩:=K.o _ B.o;obtain⟨rt',G,hT⟩:=Nt M.o hSl l U.o hs1 (Fr.refl _ _) D F;have ert:rt'=rt:=by have e1:=G.cell 3;grind[qJ]
   subst ert;have t1:=(N.ok l).1;have hA:jB g=0:=by rw[<-m.o];grind[E,ah,aj,aZ,jB,bD]
   have NW:=Z (Np (tn:=tn) J.o hT (by rw[o.o,<-m.o,eY,cG];omega));have A:Hid (∀sv s,Kc s sv (((qB c (E S)++tR c (E S)).map kT).drop tn)->V s n (ug k S ((qB c (E S)++tR c (E S)).map kT).length 0 0 true) 156->Fr (λa=>a=n) H s->RcP n k c g w (.returned (.tuple #[sv,.int .i64 0,.int .i64 0])) s):=λsv s C P R=>by rw[fC,List.drop_left' (by rw[o.o,<-m.o,eY]),m.o]at C;refine⟨sv,?_,C,⟨_,_,_,_,P⟩,B.o.trans R⟩;rw[hA,<-m.o,t1];rfl
   have hd:((q:Int)!=0)=false:=by rw[u];rfl
   clear hT D F z G y U M K b p N l t1 hA u m o j t B J d1 d3;generalize(qB c (E S)++tR c (E S)).map kT=L at*;go_wp2_with fail;refine NW.o.mono ?_;rintro r s⟨sv,rfl,C,P,R⟩;have i:=Z (A.o sv s C P R);clear C P R NW A;go_wp2;go_ret3;exact i.o
  obtain⟨n1,n2,_⟩:=N.no (by rw[<-b];exact u);have i:Hid (∀a,RcP n k c g w (.returned (.tuple #[.slice none 0 0,.int .i64 (q:Nat),.int .i64 (tp:Nat)])) (H.drewN a)):=λa=>by
   refine⟨.slice none 0 0,?_,?_,⟨_,_,_,_,J.o⟩,B.o.drewN a⟩;.rw[<-m.o,n1,n2,<-b,<-p]
   rw[<-m.o,Un (by rw[n1,<-b];exact u)];exact qW _
  have hd:((q:Int)!=0)=true:=by rw[bne_iff_ne];omega
  clear z y U M K b p N u m o j t B J d1 d3 n1 n2 r3;go_wp2;go_quiet(fail);go_wp2;go_ret3;exact i.o _
 obtain⟨t1,t2⟩:=Iz l;have d3:e.cell? (aD n 3)=some (.int .i64 (ir g:Nat)):=j.o.cell 3;have d4:e.cell? (aD n 4)=some (.int .i64 (fG g:Nat)):=j.o.cell 4;have hd:((ir g:Int)!=0)=true:=by rw[bne_iff_ne];omega
 have i:Hid (∀a,RcP n k c g w (.returned (.tuple #[.slice none 0 0,.int .i64 (ir g:Nat),.int .i64 (fG g:Nat)])) (e.drewN a)):=λa=>by
  refine⟨.slice none 0 0,?_,?_,⟨_,_,_,_,j.o⟩,t.o.drewN a⟩;.rw[t1,t2]
  grind[Un,qW]
 clear v hx hq T l t1 t2 H2 M K j t hl;generalize ir g=se at*;generalize fG g=sa at*;go_enter func49,ntmps49;go_upto_region 4 with fail;rw[<-f];clear c5 z1 f;go_wp2;go_quiet(fail);go_wp2;go_ret3;exact i.o _
def FX.xs(f:FX):List Sg:=cK (E f.q)
structure lg(w:World)(col:Nat->Nat)(f:FX):Prop where
 AJ:cD f.xs<=10
 fl:V w f.gp #[pT f.gx,pT f.gy] 101
 cf:col f.gp=1
 cx:col f.gx=3+2*f.gp
 cy:col f.gy=4+2*f.gp
 y:∃gq v D,(∀k,D k->k<w.heap.size/\col k=1)/\fg D w (λw=>V w gq #[v] 148/\iX w v f.xs)/\(f.cl=true->RSc f.gy gq w)/\(f.cl=false->Yo f.gy gq f.xs (E f.p) w)xc:f.cl=true->V w f.gx #[.pointer none,.pointer none,.int .i64 4,.int .i64 0] 135
 xo:f.cl=false->∃b tt Dp H Es,ST f.gx b tt f.xs Dp H w Es (E f.p)/\∀k,Es k->(Dp k/\col k=1)\/(jO k/\col k=0)\/(¬(Dp k\/jO k)/\col k=3+2*f.gp)
variable{p H:Array Value}{F K:TypeId}
theorem iZ(h:V w n p F)(e:v.heap[n]?=w.heap[n]?):V v n p F:=e.trans h
variable{f:FX}
theorem lg.keep{w w':World}(h:lg w b f)(G:w.heap.size<=w'.heap.size)(o:∀k,k<w.heap.size->(b k<2\/b k=3+2*f.gp\/b k=4+2*f.gp)->J k=b k/\w'.heap[k]?=w.heap[k]?):lg w' J f:=by
 have n:f.gx<w.heap.size:=by
  cases l:f.cl with|true=>exact(h.xc l).lt|false=>
   obtain⟨j,A,x,H,p,s,_⟩:=h.xo l;rcases s with⟨_,r,g,Er,i,q,_⟩|⟨_,q,_⟩;.exact q.lt
   exact q.lt
 obtain⟨F,v,D,M,L,B,C⟩:=h.y;have hylt:f.gy<w.heap.size:=by cases l:f.cl with|true=>obtain⟨_,_,_,_,j⟩:=B l;exact j.lt|false=>obtain⟨_,_,j,_⟩:=C l;exact j.lt
 have y:=o f.gp h.fl.lt (Y (by rw[h.cf];decide));have z:=o f.gx n (I (Y h.cx));have t:=o f.gy hylt (I (I h.cy));refine⟨h.AJ,iZ h.fl y.2,y.1.trans h.cf,z.1.trans h.cx,t.1.trans h.cy,⟨F,v,D,λk d=>?_,L.keep λk d=>?_,λl=>?_,λl=>?_⟩,λl=>iZ (h.xc l) z.2,λl=>?_⟩;.grind
 .grind
 .obtain⟨S,u,e,a,j⟩:=B l;exact⟨S,u,e,a,iZ j t.2⟩
 .obtain⟨S,u,j,c⟩:=C l;exact⟨S,u,iZ j t.2,c⟩
 obtain⟨j,A,x,H,p,s,c⟩:=h.xo l;have m:f.xs.length<=10:=az (lh f.xs (eh _)) h.AJ;have K:∀k,p k->J k=b k/\w'.heap[k]?=w.heap[k]?:=λk e=>by refine o k (s.lt e) ?_;grind
 exact⟨j,A,x,H,p,s.keep m h.AJ (λk e=>(K k e).2) G,λk e=>by rw[(K k e).1];exact c k e⟩
theorem gK:j1 lg:=λw j c a f h i g d=>h.keep i λk b e=>⟨g k b om,d k b om⟩
variable{B:List PX}{A:List FX}{t z:List (Value×Int)}{m:Nat->Option Obj}
theorem P_{gy:Nat}{r:Rv}(h:LA lg w n b r a B A t z){p:PX}(L:cD p.xs<=10){D:Nat->Prop}{v':Value}(kA:Q w v)(hD:∀s,D s->s<w.heap.size/\b s=1)(hq:fg D v λw=>V w i #[d] 148/\iX w d p.xs)(hS:ST k j q p.xs l m v o [])(hDp:∀s,l s->s<w.heap.size/\b s=1)(hEs:∀s,o s->l s\/jO s\/w.heap.size<=s)(R:o k)(hgE:¬o gy)(NH:w.heap.size<=k)(hgy:w.heap.size<=gy)(hy:V v gy (ug i ⟨#[]⟩ 0 0 0 false) 156)(M:u.ownsRow (n+1) 97 1 v' (A.length+1) (A.map FX.ptr++[pT v.heap.size]))(U:((v.alloc (.cells #[pT k,pT gy] 101)).alloc (.cells #[pT v.heap.size] 97)).grownBy u r.f.ownBlock)(q_:v'.ownBlock=r.f.ownBlock\/v'.ownBlock=some (v.heap.size+1+1)):V u n #[r.l,r.f,r.ns,r.nm,r.ms,r.mm,.int .i64 (a:Nat)] 61/\∃G f,f.p=⟨#[]⟩/\LA lg (u.setCell (aD n 1) v') n G {r with f:=v'} a B (A++[f]) t z/\Fr (λs=>b s=2) w (u.setCell (aD n 1) v')/\(∀s,s<w.heap.size->G s=b s):=by
 classical
 have nV:n<w.heap.size:=h.blk.lt;have sA:=kA.size;have hsz:v.heap.size+2<=u.heap.size:=by have:=U.size;simp at this;omega
 have K:∀s,r.f.ownBlock=some s->n<s/\s<w.heap.size:=λs H=>h.rl s (I (Y H));have hB:V u n #[r.l,r.f,r.ns,r.nm,r.ms,r.mm,.int .i64 (a:Nat)] 61:=(((h.blk.fr kA id).alloc _).alloc _).grown U (λs H=>by have:=(K s H).1;omega);refine⟨hB,?_⟩;have F:Fr (λs=>s=n\/r.f.ownBlock=some s) w (u.setCell (aD n 1) v'):=by have f1:Fr (λs=>s=n\/r.f.ownBlock=some s) w v:=kA.mono λ_ _ x=>x.elim;exact(((f1.alloc _).alloc _).grown U λs H=>I (I H)).setCell (aD n 1) (Y (Y rfl)) v'
 have P:∀s,s<v.heap.size->s≠n->r.f.ownBlock≠some s->(u.setCell (aD n 1) v').heap[s]?=v.heap[s]?:=λs H h1 N=>by rw[Below.heap_setCell _ _ _ _ h1,U.block s (by simp;omega) λe=>N e.symm,Below.heap_alloc _ _ _ (by simp;omega),Below.heap_alloc _ _ _ H]
 have vb:∀s,v'.ownBlock=some s->r.f.ownBlock=some s\/s=v.heap.size+2:=λs H=>by grind
 obtain⟨G,T⟩:∃G:Nat->Nat,G=λs=>if w.heap.size<=s/\o s then 3+2*v.heap.size else if w.heap.size<=s/\s=gy then 4+2*v.heap.size else rI w b (λs=>v'.ownBlock=some s) s:=⟨_,rfl⟩;have S:∀s,s<w.heap.size->G s=b s:=λs H=>by grind[nX]
 have Yr:∀s,w.heap.size<=s->o s->G s=3+2*v.heap.size:=λs h1 N=>by rw[T];exact ae ⟨h1,N⟩
 have hc4:G gy=4+2*v.heap.size:=by grind
 have F2:Fr (λs=>b s=2) w (u.setCell (aD n 1) v'):=F.mono (λs _ e=>by
  rcases e with e|e;.rw[e];exact h.cg
  exact h.cr s (I (Y e)));obtain⟨a1,a2,a3,a4⟩:=h.AK gK ⟨F2,λs H _=>S s H⟩;have hEl:∀s,o s->s<v.heap.size:=λs e=>hS.lt e;have hyl:=hy.lt;have W:V (u.setCell (aD n 1) v') v.heap.size #[pT k,pT gy] 101:=by have b1:=(V.new v #[pT k,pT gy] 101).alloc (.cells #[pT v.heap.size] 97);have b2:u.heap[v.heap.size]?=_:=U.block v.heap.size (by simp;omega) (λe=>by have:=(K _ e.symm).2;omega);exact V.other (b2.trans b1) om 1 v'
 have c1:∀s,s<w.heap.size->b s<2->(u.setCell (aD n 1) v').heap[s]?=v.heap[s]?:=λs h1 N=>P s om λe=>by rw[e,h.cg]at N;omega (λe=>by rw[h.cr s (I (Y e))]at N;omega);have gE:∀s,jO s->s<w.heap.size/\b s=0:=λs e=>by have:=h.c0.2 s e;exact⟨om,h.c0.1 s this⟩
 have abj:lg (u.setCell (aD n 1) v') G ⟨v.heap.size,k,gy,p.q,⟨#[]⟩,false⟩:=by
  have cgp:G v.heap.size=1:=by grind[nY]
  refine⟨L,W,cgp,Yr k NH R,hc4,⟨i,d,D,λs c=>?_,hq.keep λs c=>?_,λe=>(by cases e),λ_=>⟨⟨#[]⟩,0,?_,λ_=>⟨rfl,rfl⟩⟩⟩,λe=>(by cases e),λ_=>⟨j,q,l,m,o,hS.keep (az (lh p.xs (eh _)) L) L (λs e=>?_) (by simp[World.setCell];omega),λs e=>?_⟩⟩;.grind
  .grind
  .exact iZ hy (P gy hyl om λe=>by have:=(K _ e).2;omega)
  .grind
  grind
 have ne:∀(T2:TypeId)(v2:Value)(n2:Nat)(x2:List Value),w.ownsRow (n+1) T2 1 v2 n2 x2->97≠T2->∀s,v2.ownBlock=some s->¬(s=n\/r.f.ownBlock=some s):=λT2 v2 n2 x2 ho hT s H e=>by
  rcases e with e|e;.have:=(ho.lt s H).1;omega
  exact cu h.of ho hT s e H
 have J:∀s,RB r s->G s=2:=λs hr=>by rw[S s (h.rl s hr).2];exact h.cr s hr
 refine⟨G,⟨v.heap.size,k,gy,p.q,⟨#[]⟩,false⟩,rfl,⟨hB.set 1 v',by rw[S n nV];exact h.cg,⟨λs H=>by rw[S s om];exact h.c0.1 s H,h.c0.2⟩,cz h.ol F (ne _ _ _ _ h.ol de),?_,cz h.wY F (ne _ _ _ _ h.wY de),cz h.ud F (ne _ _ _ _ h.ud de),cz h.zW F (ne _ _ _ _ h.zW de),cz h.wZ F (ne _ _ _ _ h.wZ de),λs H=>?_,h.NO,a1,λf hf=>?_,a3,a4,?_⟩,F2,S⟩;.have:=ie M (g:=n) λe=>by have:=(M.lt n e).1;omega 1 v';rw[fC,cG];exact this
 .rcases H with e|e|e|e|e|e;.exact J s (Y e)
  .rcases vb s e with y|y;.exact J s (I (Y y))
   grind[kJ]
  .exact J s (I (I (Y e)))
  .exact J s (I (I (I (Y e))))
  .exact J s (I (I (I (I (Y e)))))
  exact J s (I (I (I (I (I e)))))
 .grind
 refine List.pairwise_append.2 ⟨h.fd,List.Pairwise.cons (λ_ C=>by cases C) List.Pairwise.nil,λf hf g NI=>?_⟩;rw[dy.1 NI];have:=(h.fk f hf).fl.lt;grind
theorem Sv(h:V w n p F)(a:V w n H K):F=K:=by grind(splits:=30)[V]
theorem ST.sb(h:ST n k q c l m w o g):o n:=by
 rcases h with⟨_,r,f,Er,a,_,_,_,_,_,d⟩|⟨_,_,_,b⟩;.grind
 exact(b n).2 (Y rfl)
def XP(c:Nat->Nat)(f i:FX)(L:List ((List UInt8×Nat×Nat)×Nat))(e a:Nat)(W:World)(j:Ending)(g:World):Prop:=∃sv d,j=.returned (.tuple #[sv,.int .i64 (e:Nat),.int .i64 (a:Nat)])/\g.ownsRow 0 44 4 sv L.length (L.flatMap w_)/\Fr (λk=>c k=3+2*f.gp) W g/\(∀k,sv.ownBlock=some k->(W.heap.size<=k\/c k=3+2*f.gp)/\¬d k/\k≠f.gx)/\(i.cl=true->V g f.gx #[.pointer none,.pointer none,.int .i64 4,.int .i64 0] 135)/\(i.cl=false->∃b l h H,ST f.gx b l f.xs h H g d (E i.p)/\∀k,d k->(h k/\k<W.heap.size/\c k=1)\/(jO k/\k<W.heap.size/\c k=0)\/(¬(h k\/jO k)/\(W.heap.size<=k\/c k=3+2*f.gp)))
def FX.Zp(f:FX)(q:ByteArray):FX:={f with p:=f.p++q}
def FX.shut(f:FX):FX:={f with cl:=true}
theorem Sw(w:World):w.ownsRow 0 44 4 (.slice none 0 0) ([]:List ((List UInt8×Nat×Nat)×Nat)).length (([]:List ((List UInt8×Nat×Nat)×Nat)).flatMap w_):=⟨rfl,Y ⟨rfl,rfl⟩⟩
theorem lg.len(h:lg w b f):f.xs.length<=10:=az (lh f.xs (eh _)) h.AJ
theorem Nv(f:Fr l w v)(c:∀k,o k\/jO k->w.heap[k]?=m k)(d:∀k,o k\/jO k->v.heap[k]?=m k)(g:∀k,l k->¬(o k\/jO k)->b k=n):Fr (λk=>b k=n) w v:=⟨f.os,f.tape,f.output,f.size,λk a e=>by
  by_cases y:l k;.grind
  exact f.block k a y⟩
theorem VI(h:lg w b f)(m:f.cl=false)(q:ByteArray)(C:f.p.size+q.size<=1100000):Calls prog 38 #[pT f.gx,.string q] w (XP b f (f.Zp q) ((Cw f.xs (E f.p) (E q)).map kT) (ir (E f.p++E q)) (fG (E f.p++E q)) w):=by
 obtain⟨a,p,i,H,r,s,c⟩:=h.xo m;refine(Oy h.len h.AJ (eh _) s q (by rw[ak];omega)).mono ?_;rintro x B⟨sv,d,rfl,j,o,A,F,fr⟩;have g:∀k,r k->¬(i k\/jO k)->b k=3+2*f.gp:=λk e n=>by grind
 refine⟨sv,d,rfl,?_,Nv fr (λk e=>(s.same e).1) (λk e=>(j.same e).1) g,λk u=>?_,λe=>(by rw[show(f.Zp q).cl=f.cl from rfl,m]at e;cases e),λ_=>⟨a,p,i,H,?_,λk e=>?_⟩⟩;.grind[No]
 .obtain⟨l,v⟩:=A k u;refine⟨?_,l,λe=>l (e▸j.sb)⟩;rcases v with y|y;.exact I (g k y λz=>l (j.same z).2)
  exact Y y
 .show ST f.gx a p f.xs i H B d (E (f.p++q));rw[dI];exact j
 by_cases z:i k\/jO k;.have t:=(s.same z).2;have D:=s.lt t;grind
 grind
theorem P0(h:lg w b f)(l:f.cl=false)(r:f.p.size<=1100000):Calls prog 39 #[pT f.gx] w (XP b f f.shut ((tR f.xs (E f.p)).map kT) (bD (E f.p)) (jB (E f.p)) w):=by
 obtain⟨a,t,g,H,i,s,c⟩:=h.xo l;refine(IC h.len h.AJ (eh _) s (by rw[ak];omega)).mono ?_;rintro m v⟨sv,rfl,o,u,fr,p,j⟩;have d:∀k,i k->¬(g k\/jO k)->b k=3+2*f.gp:=λk e n=>by grind
 refine⟨sv,λ_=>False,rfl,?_,Nv fr (λk e=>(s.same e).1) p d,λk q=>?_,λ_=>j,λe=>(by cases e)⟩;.grind[No]
 grind
theorem Ke(h:lg w b f)(c:f.cl=true)(q:ByteArray):Calls prog 38 #[pT f.gx,.string q] w (XP b f f [] 4 0 w)/\Calls prog 39 #[pT f.gx] w (XP b f f [] 4 0 w):=by
 have B:=h.xc c;have fr:∀{a},Fr (λk=>k=f.gx) w a->Fr (λk=>b k=3+2*f.gp) w a:=λg=>g.mono (λk _ e=>by rw[e];exact h.cx);constructor;focus refine(Cv (e:=4) (at':=0) B de q).mono ?_
 rotate_left;focus refine(xv (e:=4) (at':=0) B de).mono ?_
 all_goals rintro l a⟨rfl,d,i⟩;exact⟨_,λ_=>False,rfl,Sw _,fr i,λk j=>(by cases j),λ_=>d,λe=>(by rw[c]at e;cases e)⟩
def YP(c:Nat->Nat)(f d:FX)(L:List ((List UInt8×Nat×Nat)×Nat))(e a:Nat)(W i:World)(h:Ending)(b:World):Prop:=∃sv,h=.returned (.tuple #[sv,.int .i64 (e:Nat),.int .i64 (a:Nat)])/\Kc b sv L/\Fr (λk=>k=f.gy) i b/\∃g v D,(∀k,D k->k<W.heap.size/\c k=1)/\fg D b (λw=>V w g #[v] 148/\iX w v f.xs)/\(d.cl=true->RSc f.gy g b)/\(d.cl=false->Yo f.gy g f.xs (E d.p) b)
theorem vL(h:lg w b f)(F:Fr (λk=>b k=3+2*f.gp) w v)(q:ByteArray)(L:f.p.size+q.size<=1100000):(f.cl=false->Calls prog 47 #[pT f.gy,.string q] v (YP b f (f.Zp q) ((Cw f.xs (E f.p) (E q)).map kT) (ir (E f.p++E q)) (fG (E f.p++E q)) w v))/\(f.cl=false->Calls prog 49 #[pT f.gy] v (YP b f f.shut ((tR f.xs (E f.p)).map kT) (bD (E f.p)) (jB (E f.p)) w v))/\(f.cl=true->Calls prog 47 #[pT f.gy,.string q] v (YP b f f [] 4 0 w v)/\Calls prog 49 #[pT f.gy] v (YP b f f [] 4 0 w v)):=by
 obtain⟨u,l,D,A,J,M,K⟩:=h.y;have t:¬b f.gy=3+2*f.gp:=by rw[h.cy];omega
 have H:∀{p},Fr (λk=>k=f.gy) v p->Sm D w p:=λ{p}g k d=>by obtain⟨d1,d2⟩:=A k d;have n:¬b k=3+2*f.gp:=om;rw[g.block k (aI d1 F.size) λe=>by rw[e,h.cy]at d2;omega,F.block k d1 n]
 have C:∀p,Fr (λk=>k=f.gy) v p->V p u #[l] 148/\iX p l f.xs:=λp g=>J p (H g);have i:∀{p},Fr (λk=>k=f.gy) v p->fg D p λo=>V o u #[l] 148/\iX o l f.xs:=λg=>J.keep (H g);have G:Xo f.xs:=afx h.AJ;refine⟨λs=>?_,λs=>?_,λs=>?_⟩;.obtain⟨S,y,j,c⟩:=K s;refine(Xp G ⟨S,y,j.fr F t,c⟩ C q (by rw[ak];exact L)).mono ?_;rintro x p⟨sv,rfl,m,r,g⟩;exact⟨sv,rfl,m,g,u,l,D,A,i g,λe=>(by rw[show(f.Zp q).cl=f.cl from rfl,s]at e;cases e),λ_=>by show Yo f.gy u f.xs (E (f.p++q)) p;rw[dI];exact r⟩
 .obtain⟨S,y,j,c⟩:=K s;refine(Su G ⟨S,y,j.fr F t,c⟩ C (by rw[ak];omega)).mono ?_;rintro x p⟨sv,rfl,m,r,g⟩;exact⟨sv,rfl,m,g,u,l,D,A,i g,λ_=>r,λe=>(by cases e)⟩
 obtain⟨S,y,e,a,j⟩:=M s;have B:=j.fr F t;constructor;focus refine(Sq B q).mono ?_
 rotate_left;focus refine(Nu B).mono ?_
 all_goals rintro x p⟨rfl,rfl⟩;exact⟨_,rfl,qW _,Fr.refl _ _,u,l,D,A,i (Fr.refl _ _),λ_=>⟨S,y,e,a,B⟩,λz=>(by rw[s]at z;cases z)⟩
variable{D:Rv}
theorem PY(h:LA lg w n b D k B A t z)(hi:a<A.length)(hg:f.gp=A[a].gp/\f.gx=A[a].gx/\f.gy=A[a].gy/\f.q=A[a].q){r1 r2:Ending}(hX:XP b A[a] f r i j w r1 v)(hY:YP b A[a] f r i j w v r2 u):∃Sy W mv,r1=.returned (.tuple #[W,.int .i64 (i:Nat),.int .i64 (j:Nat)])/\r2=.returned (.tuple #[mv,.int .i64 (i:Nat),.int .i64 (j:Nat)])/\LA lg u n Sy D k B (A.set a f) t z/\u.ownsRow (n+1) 44 4 W r.length (r.flatMap w_)/\(∀K,W.ownBlock=some K->Sy K=2)/\Kc u mv r/\Fr (λK=>2<=b K) w u/\(∀K,K<w.heap.size->b K<3->Sy K=b K/\W.ownBlock≠some K)/\∀K,K<w.heap.size->Sy K=2->2<=b K:=by
 classical
 have T:=h.fk _ (bP hi);have hfd:=h.fd;generalize XL:A[a]=C at*;obtain⟨W,Zo,rfl,o,F,vb,xc,xo⟩:=hX;obtain⟨mv,rfl,mt,G,gq,P,m,y1,y2,y3,y4⟩:=hY;have nV:n<w.heap.size:=h.blk.lt;have z1:=F.size;have z2:=G.size;have hylt:C.gy<w.heap.size:=by obtain⟨_,_,_,_,_,q3,q4⟩:=T.y;cases hc:C.cl with|true=>obtain⟨_,_,_,_,x⟩:=q3 hc;exact x.lt|false=>obtain⟨_,_,x,_⟩:=q4 hc;exact x.lt
 have hyb:∃cs,V v C.gy cs 156:=by
  have L:¬b C.gy=3+2*C.gp:=by rw[T.cy];omega
  obtain⟨_,_,_,_,_,q3,q4⟩:=T.y;cases hc:C.cl with|true=>obtain⟨_,_,_,_,x⟩:=q3 hc;exact⟨_,x.fr F L⟩|false=>obtain⟨_,_,x,_⟩:=q4 hc;exact⟨_,x.fr F L⟩
 have hlt:∀K,W.ownBlock=some K->K<v.heap.size:=λK S=>(o.lt K S).2;have lvy:W.ownBlock≠some C.gy:=λi=>by grind[Sv,rH]
 obtain⟨c,hc⟩:∃c:Nat->Nat,c=λK=>if W.ownBlock=some K then 2 else if K<w.heap.size then b K else if Zo K then 3+2*C.gp else 1:=⟨_,rfl⟩;have cl:∀K,W.ownBlock=some K->c K=2:=λK S=>by rw[hc];exact ae S
 have co:∀K,K<w.heap.size->W.ownBlock≠some K->c K=b K:=λK h1 h2=>by rw[hc];show(if _ then _ else _)=_;rw[aa h2,ae h1]
 have cn:∀K,w.heap.size<=K->W.ownBlock≠some K->Zo K->c K=3+2*C.gp:=λK h1 h2 h3=>by rw[hc];show(if _ then _ else _)=_;rw[aa h2,aa om,ae h3]
 have lc:∀K,K<w.heap.size->b K≠3+2*C.gp->W.ownBlock≠some K:=λK h1 h2 i=>by grind
 have U:∀K,K<w.heap.size->b K≠3+2*C.gp->b K≠4+2*C.gp->c K=b K/\u.heap[K]?=w.heap[K]?:=λK h1 h2 h3=>by refine⟨co K h1 (lc K h1 h2),?_⟩;rw[G.block K om λi=>h3 (by rw[i];exact T.cy),F.block K h1 h2]
 have st:∀K,K<w.heap.size->b K<=2->u.heap[K]?=w.heap[K]?:=λK h1 h2=>(U K h1 om om).2;have Yp:∀K,K<w.heap.size->b K<=2->c K=b K:=λK h1 h2=>(U K h1 om om).1;have row:∀{e:Nat}{T2:TypeId}{v2:Value}{n2:Nat}{x2:List Value},w.ownsRow e T2 1 v2 n2 x2->(∀K,v2.ownBlock=some K->RB D K)->u.ownsRow e T2 1 v2 n2 x2:=λho hr=>aV ho λK S=>st K (ho.lt K S).2 (by rw[h.cr K (hr K S)];exact aP _);have old:∀K,RB D K->c K=2:=λK hr=>by rw[Yp K (h.rl K hr).2 (by rw[h.cr K hr];exact aP _)];exact h.cr K hr
 have abj:lg u c f:=by
  obtain⟨g1,g2,g3,g4⟩:=hg;have hxs:f.xs=C.xs:=by unfold FX.xs;rw[g4]
  have kf:=U C.gp T.fl.lt (by rw[T.cf];omega) (by rw[T.cf];omega);have abk:C.gx<w.heap.size:=by cases hc:C.cl with|true=>exact(T.xc hc).lt|false=>obtain⟨_,_,_,_,_,s,_⟩:=T.xo hc;exact s.lt s.sb
  have lvx:W.ownBlock≠some C.gx:=λi=>(vb _ i).2.2 rfl;refine⟨by rw[hxs];exact T.AJ,by rw[g1,g2,g3];exact iZ T.fl kf.2,by rw[g1];exact kf.1.trans T.cf,by rw[g1,g2,co _ abk lvx];exact T.cx,by rw[g1,g3,co _ hylt lvy];exact T.cy,⟨gq,P,m,λK d=>?_,by rw[hxs];exact y2,by rw[g3];exact y3,by rw[g3,hxs];exact y4⟩,λi=>?_,λi=>?_⟩;.grind
  .rw[g2];exact iZ (xc i) (G.block _ (aI abk z1) λy=>by have:=T.cx;rw[y,T.cy]at this;omega)
  obtain⟨x,tt,Dp,H,s,q⟩:=xo i;rw[g1,g2,hxs];have ny:∀K,Zo K->K≠C.gy:=λK S y=>by
   rcases q K S with R|R|R;.have:=R.2.2;rw[y,T.cy]at this;omega
   .have:=R.2.2;rw[y,T.cy]at this;omega
   rcases R.2 with N|N;.omega
   rw[y,T.cy]at N;omega
  refine⟨x,tt,Dp,H,Zo,s.keep T.len T.AJ (λK S=>G.block K (s.lt S) (ny K S)) z2,λK S=>?_⟩;grind
 have lvg:∀K,W.ownBlock=some K->n+1<=K:=λK S=>by
  rcases(vb K S).1 with y|y;.omega
  rcases Nat.lt_or_ge n K with N|N;.exact N
  rcases Nat.lt_or_ge K n with M|M;.rw[h.c0.1 K M]at y;omega
  have:K=n:=om;rw[this,h.cg]at y;omega
 have o2:u.ownsRow (n+1) 44 4 W r.length (r.flatMap w_):=by
  have o1:=aV (w':=u) o λK S=>G.block K (hlt K S) λy=>lvy (y▸S);refine⟨o1.1,?_⟩;rcases o1.2 with y|⟨g,cap,cur,q1,q2,q3⟩;.exact Y y
  exact I ⟨g,cap,cur,q1,lvg g (by rw[q1];rfl),q3⟩
 have mp:(A.set a f).map FX.gp=A.map FX.gp:=by rw[List.map_set,hg.1,<-XL];apply List.ext_getElem si;grind
 have afB:(A.set a f).map FX.ptr=A.map FX.ptr:=by
  have i:∀l:List FX,l.map FX.ptr=(l.map FX.gp).map λg=>(pT g):=λl=>by rw[List.map_map];rfl
  rw[i,i,mp]
 refine⟨c,W,mv,rfl,rfl,⟨iZ h.blk (st n nV (by rw[h.cg];exact aP _)),by rw[Yp n nV (by rw[h.cg];exact aP _)];exact h.cg,⟨λK S=>by rw[Yp K om (by rw[h.c0.1 K S];omega)];exact h.c0.1 K S,h.c0.2⟩,row h.ol λK S=>Y S,by rw[afB,List.length_set];exact row h.of λK S=>I (Y S),row h.wY λK S=>I (I (Y S)),row h.ud λK S=>I (I (I (Y S))),row h.zW λK S=>I (I (I (I (Y S)))),row h.wZ λK S=>I (I (I (I (I S)))),old,h.NO,λp hp=>?_,λg Tg=>?_,λi he=>?_,λi he=>?_,?_⟩,o2,cl,mt,?_,λK h1 h2=>⟨(U K h1 om om).1,lc K h1 om⟩,λK h1 h2=>?_⟩;.obtain⟨D',d1,d2,d3⟩:=(h.pk p hp).ok;have s:Sm D' w u:=λK S=>st K (d1.lt S) (by rw[d2 K S];omega);exact⟨(h.pk p hp).AJ,(h.pk p hp).tt,(h.pk p hp).tl,D',d1.keep s,λK S=>(Yp K (d1.lt S) (by rw[d2 K S];omega)).trans (d2 K S),d3.keep s⟩
 .obtain⟨J,hj,i⟩:=gR.1 Tg;rw[List.getElem_set]at i;rw[List.length_set]at hj;split at i;.rw[<-i];exact abj
  rename_i ne;rw[<-i];have yf:(A[J]'hj).gp≠C.gp:=by rw[<-XL];have hp:=List.pairwise_iff_getElem.1 hfd;grind
  exact(h.fk _ (bP hj)).keep om λK S y=>U K S om om
 .obtain⟨L,n1,n2,n3⟩:=h.nk i he;exact⟨L,n1,aV n2 λK S=>st K (n2.lt K S).2 (by rw[n3 K S];omega),λK S=>(Yp K (n2.lt K S).2 (by rw[n3 K S];omega)).trans (n3 K S)⟩
 .obtain⟨L,n1,n2,n3⟩:=h.km i he;exact⟨L,n1,aV n2 λK S=>st K (n2.lt K S).2 (by rw[n3 K S];omega),λK S=>(Yp K (n2.lt K S).2 (by rw[n3 K S];omega)).trans (n3 K S)⟩
 .have i:∀l:List FX,l.Pairwise (λC g=>C.gp≠g.gp)↔(l.map FX.gp).Pairwise (·≠·):=λl=>List.pairwise_map.symm;rw[i,mp,<-i];exact hfd
 .exact(F.mono λK _ i=>by have i:b K=3+2*C.gp:=i;omega).trans (G.mono λK S i=>by have i:K=C.gy:=i;rw[i,T.cy];omega)
 grind
