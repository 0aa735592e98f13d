import Derived.Test.YtcbadebjpogmlaaGreatDoorVvTxQ
import Derived.Deep.DeepCutAuto
set_option maxHeartbeats 8000000
set_option maxRecDepth 100000
namespace Go.Proofs.YtcbadebjpogmlaaGreatDoor
open Go.RowKit Tr Go.Proofs.Tryz
def kS(x:dz)(v:Tv)(m:Nat):List Tv:=(((v.ws.zipIdx).take m).filter λp=>bn x v.d.kind v.ws.length p.2 p.1).map (·.1)
theorem Hu(x:dz)(v:Tv):kS x v v.ws.length=cq x v:=by unfold kS cq;rw[gv si]
variable{n k i r:Nat}
theorem Cg(x:dz)(v:Tv)(h:n<v.ws.length):kS x v (n+1)=kS x v n++(if bn x v.d.kind v.ws.length n v.ws[n]=true then[v.ws[n]]else[]):=by unfold kS;rw[eC (by simpa using h),List.filter_append,fC];grind
theorem Hv(x:dz)(v:Tv)(m:Nat):(kS x v m).length<=(cq x v).length:=by unfold kS cq;rw[eY,eY];exact(List.Sublist.filter _ (List.take_sublist _ _)).length_le
variable{w v u:World}{J:TypeId}{a B K:Value}{F:List Value}
theorem oD(h:w.ownsRow n J i a r F)(l:k<=n):w.ownsRow k J i a r F:=by
 refine⟨h.1,?_⟩;rcases h.2 with d|⟨g,b,c,e,j,f⟩;.exact Y d
 exact I ⟨g,b,c,e,om,f⟩
variable{d:Nat->Nat}{m D L:List Tv}
theorem lI.low(h:lI v d m a u)(k:Q w v):lI w d m a u:=⟨k.trans h.f,oD h.o k.size⟩
def pF(x:dz)(b:Value):Array Value:=#[.int .i64 (x.sort:Nat),.string (sb x.name),.int .i64 x.n,.int .i64 x.af,.int .i64 x.to,b]
theorem lI.drewN(h:lI w d m a v)(k:Nat):lI w d m a (v.drewN k):=⟨h.f.drewN k,aV h.o λ_ _=>rfl⟩
variable{o:Nat->Prop}{j A:Tv}
theorem RU{hi n:Nat}{x:dz}{b:Value}(h:RT w d o hi (n+1) j)(hD:∀k,o k->k<w.heap.size)(hlen:j.ws.length<=4000000)(hso:1<=x.sort/\x.sort<=5)(hxn:-1000<x.n/\x.n<1000)(hm:x.sort=5->∃g,b=pT g/\∀w',Q w w'->∀c∈j.ws,ko w' d g c (x.wh c)):Calls prog 123 #[.agg (pF x b),(pT (d j.d.af))] w λr w'=>∃sv,r=.returned sv/\lI w d (cq x j) sv w':=by
 obtain⟨i0,hi',hz0,hz1,eE⟩:=info_parts pJ;have HI:=Z hi';have iK:=Z hz0;have iz:=Z hz1;have ja:=Z eE;obtain⟨v,P⟩:∃v,v=w.alloc (.cells (pF x b) 189):=⟨_,rfl⟩;obtain⟨L,Uz⟩:∃L,L=w.heap.size:=⟨_,rfl⟩;have K1:Hid (Q w v):=by rw[P];exact(Fr.refl _ w).alloc _
 have B1:Hid (V v L (pF x b) 189):=by rw[P,Uz];exact V.new w _ _
 have me:=Z P;have Yt:=Z Uz;have HR:=Z h;have HD:=Z hD;have HM:=Z hm;have RK:Hid (∀wr,Q v wr->RT wr d o hi (n+1) j):=λwr k=>RT.keep (λq hq=>(K1.o.trans k).block q (hD q hq) id) _ _ h;obtain⟨nn,hnn⟩:∃nn,nn=(if x.n<0 then x.n+(j.ws.length:Int)else x.n):=⟨_,rfl⟩;have Ui:=Z hnn;have NIL:Hid (lI v d (kS x j 0) (.slice none 0 0) v):=⟨Fr.refl _ _,⟨rfl,Y ⟨rfl,rfl⟩⟩⟩;have END:Hid (∀sv wr,lI v d (kS x j j.ws.length) sv wr->lI w d (cq x j) sv wr):=λsv wr hv=>by rw[Hu]at hv;exact hv.low K1.o
 obtain⟨XN,hV0⟩:=(RK.o v (Fr.refl _ _)).vc;obtain⟨u0,ucp,rfl⟩:=X hV0.o;have y8:v.cell? (aD (d j.d.af) 8)=some (.slice u0 j.ws.length ucp):=hV0.b.cell 8;have x2:v.cell? (aD L 2)=some (.int .i64 x.n):=B1.o.cell 2;clear hi' hz0 hz1 eE P Uz h hD hm hV0;unfold pF;go_enter func123,ntmps123;have NS:(x.n<0/\x.n+(j.ws.length:Int)=nn)\/(¬x.n<0/\x.n=nn):=by grind
 clear hnn;have HSC:=Z (show pF x b=#[.int .i64 (x.sort:Nat),.string (sb x.name),.int .i64 x.n,.int .i64 x.af,.int .i64 x.to,b]from rfl);go_upto_if 13 with fail;rw[<-HSC.o,<-Yt.o,<-me.o];go_cut[6]from 10 to 20λs6 wc=>s6=.int .i64 nn/\wc=v;case first=>
  rcases NS with⟨n1,n2⟩|⟨n1,n2⟩;.clear Ui;subst n2;go_wp2;go_meet;exact⟨rfl,rfl⟩
  subst n2;go_wp2;go_meet;exact⟨rfl,rfl⟩
 case rest=>
  obtain⟨rfl,K⟩:=hcut;rw[K];clear NS y8 x2 K;go_wp2;go_loopw[5,7]λp i wr=>∃m:Nat,m<=j.ws.length/\i=.int .i64 m/\lI v d (kS x j m) p wrλ_ i _=>j.ws.length-(intOf i).toNat;case atStart=>exact⟨0,aT _,rfl,NIL.o⟩
  case round=>
   obtain⟨m,hm,rfl,hS⟩:=hrel;have S:=Z hS;obtain⟨l,T⟩:∃l,l=kS x j m:=⟨_,rfl⟩;rw[<-T]at S;obtain⟨o0,o1,hoe⟩:=X S.o.o;obtain⟨ol,J⟩:∃ol,ol=l.length:=⟨_,rfl⟩;rw[<-J]at hoe;subst hoe;have Xb:=S.o.o;rw[<-J]at Xb;have HOK:Hid (∀q,(wr.drewN q).ownsRow v.heap.size 159 1 (.slice o0 ol o1) ol (l.map (cj d))):=λq=>aV Xb λ_ _=>rfl;have tq:=Z T;have Il:=Z J;have aeY:ol<=4000000:=by
    have W:=Hv x j m;have h2:(cq x j).length<=j.ws.length:=by unfold cq;rw[eY];exact az (List.length_filter_le _ _) si
    rw[J,T];omega
   have N:=RK.o wr S.o.f;obtain⟨sv,hV⟩:=N.vc;obtain⟨v0,MW,rfl⟩:=X hV.o;have y8:wr.cell? (aD (d j.d.af) 8)=some (.slice v0 j.ws.length MW):=hV.b.cell 8;have y0:wr.cell? (aD (d j.d.af) 0)=some (.int .i64 (j.d.kind:Nat)):=hV.b.cell 0;clear hS Xb T J;by_cases U:m<j.ws.length
   .have Hw:(m:Int)<(j.ws.length:Int):=om;obtain⟨g2,cap2,Fi,R⟩:=hV.at_ U;simp only[Value.slice.injEq,true_and]at Fi;obtain⟨rfl,rfl⟩:=Fi;have H:=N.kids (bP U);obtain⟨n2,rfl⟩:∃n2,n=n2+1:=by cases n with|zero=>exact absurd H id|succ n=>exact⟨n,rfl⟩
    obtain⟨Ya,hVc⟩:=H.vc;have z3:wr.cell? ⟨d (j.ws[m]).d.af,3,none⟩=some (.string (sb (j.ws[m]).d.name)):=hVc.b.cell 3;have bx:V wr L (pF x b) 189:=(S.o.f.block L (bo B1.o) id).trans B1.o;have x0:wr.cell? (aD L 0)=some (.int .i64 (x.sort:Nat)):=bx.cell 0;have x1:wr.cell? (aD L 1)=some (.string (sb x.name)):=bx.cell 1;have x3:wr.cell? (aD L 3)=some (.int .i64 x.af):=bx.cell 3;have x4:wr.cell? (aD L 4)=some (.int .i64 x.to):=bx.cell 4;have x5:wr.cell? (aD L 5)=some b:=bx.cell 5;have B:=Z (Cg x j U);have HMC:Hid (x.sort=5->∃g,b=pT g/\ko wr d g j.ws[m] (x.wh j.ws[m])):=λy=>by obtain⟨g,e,hm⟩:=HM.o y;exact⟨g,e,hm wr (K1.o.trans S.o.f) _ (bP U)⟩
    generalize j.ws[m]=c at*;obtain⟨z,heb⟩:∃z,z=bn x j.d.kind j.ws.length m c:=⟨_,rfl⟩;have t:=Z heb;rw[<-heb]at B;clear N hV H hVc bx heb;go_upto_block 2 with fail;go_cut[9]from 21 to 101λs9 wc=>s9=.bool z/\∃q,wc=wr.drewN q;case first=>
     have SS:x.sort=1\/x.sort=2\/x.sort=3\/x.sort=4\/x.sort=5:=om;rcases SS with s|s|s|s|s
     .have a:z=true:=by rw[t.o];simp[bn,s]
      subst a;have k1:((x.sort:Int)==1)=true:=by simp[s]
      go_wp2;go_meet;exact⟨rfl,0,rfl⟩
     .have a:z=(j.d.kind==5&&c.d.name==x.name):=by rw[t.o];simp[bn,s]
      have k1:((x.sort:Int)==1)=false:=by simp[s]
      have k2:((x.sort:Int)==2)=true:=by simp[s]
      clear t B;by_cases C:j.d.kind=5;.rw[C]at y0;go_wp2;go_quiet(fail);go_wp2;go_meet;exact⟨by rw[a,C];simp,_,rfl⟩
      have g3:((j.d.kind:Int)==5)=false:=l8 C;have A:z=false:=by rw[a];simp[C]
      subst A;clear a;go_wp2;go_quiet(fail);go_wp2;go_meet;exact⟨rfl,_,rfl⟩
     .have a:z=(j.d.kind==4&&(m:Int)==nn):=by rw[t.o,Ui.o];simp[bn,s]
      have k1:((x.sort:Int)==1)=false:=by simp[s]
      have k2:((x.sort:Int)==2)=false:=by simp[s]
      have k3:((x.sort:Int)==3)=true:=by simp[s]
      clear t B;by_cases C:j.d.kind=4
      .rw[C]at y0;cases hn:((m:Int)==nn)with
       |true=>
        have A:z=true:=by rw[a,hn];simp[C]
        subst A;clear a;go_wp2;go_meet;exact⟨rfl,0,rfl⟩|false=>
        have A:z=false:=by rw[a,hn];simp
        subst A;clear a;go_wp2;go_meet;exact⟨rfl,0,rfl⟩
      have g3:((j.d.kind:Int)==4)=false:=l8 C;have A:z=false:=by rw[a];simp[C]
      subst A;clear a;go_wp2;go_meet;exact⟨rfl,0,rfl⟩
     .have a:z=(j.d.kind==4&&decide (x.af<=m)&&(decide (x.to<0)||decide ((m:Int)<x.to))):=by rw[t.o];simp[bn,s]
      have k1:((x.sort:Int)==1)=false:=by simp[s]
      have k2:((x.sort:Int)==2)=false:=by simp[s]
      have k3:((x.sort:Int)==3)=false:=by simp[s]
      have k4:((x.sort:Int)==4)=true:=by simp[s]
      clear t B;by_cases C:j.d.kind=4;focus
       rw[C]at y0;by_cases W:x.af<=(m:Int);focus
        by_cases h2:x.to<0;focus
         have A:z=true:=by rw[a];simp[C,W,h2]
         subst A;have d1:decide (x.af<=(m:Int))=true:=decide_eq_true W;have d2:decide (x.to<0)=true:=decide_eq_true h2
        rotate_left;focus
         by_cases h3:(m:Int)<x.to;focus
          have A:z=true:=by rw[a];simp[C,W,h3]
          subst A;have d1:decide (x.af<=(m:Int))=true:=decide_eq_true W;have d2:decide (x.to<0)=false:=decide_eq_false h2;have d3:decide ((m:Int)<x.to)=true:=decide_eq_true h3
         rotate_left;focus
          have A:z=false:=by rw[a];simp[h2,h3]
          subst A;have d1:decide (x.af<=(m:Int))=true:=decide_eq_true W;have d2:decide (x.to<0)=false:=decide_eq_false h2;have d3:decide ((m:Int)<x.to)=false:=decide_eq_false h3
       rotate_left 3;focus
        have A:z=false:=by rw[a];simp[W]
        subst A;have d1:decide (x.af<=(m:Int))=false:=decide_eq_false W
      rotate_left 4;focus
       have g3:((j.d.kind:Int)==4)=false:=l8 C;have A:z=false:=by rw[a];simp[C]
       subst A
      all_goals
       clear a;go_wp2;try(go_quiet(fail);go_wp2)
       go_meet;exact⟨rfl,by first|exact⟨0,rfl⟩|exact⟨_,rfl⟩⟩
     have a:z=x.wh c:=by rw[t.o];simp[bn,s]
     have k1:((x.sort:Int)==1)=false:=by simp[s]
     have k2:((x.sort:Int)==2)=false:=by simp[s]
     have k3:((x.sort:Int)==3)=false:=by simp[s]
     have k4:((x.sort:Int)==4)=false:=by simp[s]
     obtain⟨gm,rfl,M⟩:=HMC.o s;rw[<-a]at M;unfold ko at M;have HMH:=Z M;clear t B M HMC;go_wp2_with fail;refine(HMH.o 0).mono ?_;rintro r w1⟨rfl,q1,rfl⟩;go_wp2;go_meet;exact⟨by first|rfl|rw[a],q1,rfl⟩
    case rest=>
     obtain⟨rfl,q,K⟩:=hcut;rw[K];clear K y8 y0 z3 x0 x1 x3 x4 x5 R HMC t;cases z with
     |true=>
      have D:=HOK.o q;have F4:=Z (S.o.f.drewN q);generalize wr.drewN q=w4 at*;have hsz:v.heap.size<=w4.heap.size:=F4.o.size;go_wp2_with(at_builtin;refine wpList_append_own _ rfl _ _ 191 rfl v.heap.size 159 i0 _ 1 8 underlying191 HI.o iK.o iz.o ja.o rfl de _ _ _ rfl (D.alloc _) (aD w4.heap.size 0) 1 1 [(pT (d c.d.af))] rfl rfl λf u hj=>by match f,hj with|0,hj=>(simp at hj;subst hj;simp[Addr.add]) λu hu=>by simp at hu;subst hu;rfl (by unfold maxLen;omega) om (by simp;omega) ?_);intro v' w5 F G _;have S5:Hid (lI v d (kS x j (m+1)) v' w5):=by rw[B.o];simp only[if_true];rw[<-tq.o];refine⟨(F4.o.alloc _).grown G λq hq=>Y (by have:=(D.lt q hq).1;omega),?_⟩;rw[fC,cG,<-Il.o];exact F
      obtain⟨b5,k5,rfl⟩:=X F;clear F G D;go_wp2;go_roundw;case rel=>exact⟨m+1,om,by go_num,S5.o⟩
      case measure=>simp[intOf];omega|false=>
      have S3:Hid (lI v d (kS x j (m+1)) (.slice o0 ol o1) (wr.drewN q)):=by rw[B.o];simp only[Bool.false_eq_true,if_false,List.append_nil];rw[<-tq.o];exact S.o.drewN q
      go_wp2;go_roundw;case rel=>exact⟨m+1,om,by go_num,S3.o⟩
      case measure=>simp[intOf];omega
   have Hw:¬(m:Int)<(j.ws.length:Int):=om;have hml:m=j.ws.length:=om;have hE:lI w d (cq x j) (.slice o0 ol o1) wr:=END.o _ _ (by rw[tq.o]at S;rw[<-hml];exact S.o);have HE:=Z hE;clear hE hml N hV;go_wp2;go_ret;exact⟨_,rfl,HE.o⟩
theorem jw{b:Type}(f:b->List Value)(c:Nat)(d:∀a,(f a).length=c)(l:List b):∀(k i:Nat)(h:k<l.length),i<c->(l.flatMap f)[k*c+i]?=(f l[k])[i]?:=by induction l with|nil=>intro k i h;simp at h|cons a r j=>intro k i h e;rw[kD];have g:=d a;cases k with|zero=>rw[List.getElem?_append_left om];simp|succ k=>grind
theorem RT.up:∀{a:Nat}{t:Tv},RT w d o n a t->RT w d o n (a+1) t|0,_,h=>absurd h id|_+1,_,⟨b,e,f,g⟩=>⟨b,e,f,λc i=>RT.up (g c i)⟩
theorem RT.ups(h:RT w d o n k j)(a:k<=i):RT w d o n i j:=by induction a with|refl=>exact h|step _ b=>exact b.up
variable{H:dz}
theorem ab6(h:A∈cq H j):A∈j.ws:=by grind[cq]
structure RX(w:World)(A:Nat->Nat)(D:Nat->Prop)(hi:Nat)(S:Tv->Prop):Prop where
 Bt:∀u,S u->∀c∈u.ws,S c
 rt:∀u,S u->RT w A D hi 10 u
 len:∀u,S u->(ai 10 u).length<=4000000
variable{g:Tv->Prop}
theorem sX(a:∀u,g u->∀c∈u.ws,g c):∀(n:Nat)(u v:Tv),g u->v∈ai n u->g v
 |0,_,_,_,h=>by simp[ai]at h|n+1,u,v,b,h=>by
  simp only[ai,List.mem_cons,List.mem_flatMap]at h;rcases h with rfl|⟨c,d,e⟩;.exact b
  exact sX a n c v (a u b c d) e
variable{p:List dz}
theorem M7(a:∀j,g j->∀c∈j.ws,g c)(b:g j)(h:A∈fM p j):g A:=by grind(splits:=30)[fM,cq,bn]
theorem Xc(b:∀j,g j->∀c∈j.ws,g c){a:Sg}(d:g j)(h:A∈dB a j):g A:=by
 unfold dB at h;split at h;.obtain⟨y,hy,e⟩:=fE.1 h;exact M7 b (sX b 10 j y d hy) e
 exact M7 b d h
theorem mb(d:∀u,g u->∀c∈u.ws,g c):∀(e:List Sg)(l:List Tv),(∀u∈l,g u)->∀v∈aq e l,g v|[],_,h,v,b=>h v b|a::r,l,h,v,b=>mb d r _ (λu f=>by obtain⟨y,hy,i⟩:=fE.1 f;exact Xc d (h y hy) i) v b
theorem mH{a b:Type}(f:a->List b)(l:List a)(h:n<l.length):((l.take n).flatMap f).length+(f l[n]).length<=(l.flatMap f).length:=by
 have e:l.flatMap f=(l.take (n+1)++l.drop (n+1)).flatMap f:=by rw[iU]
 rw[e,iy,cG,eC h,iy,cG];simp
def ni(p:dz×Value):List Value:=[.int .i64 (p.1.sort:Nat),.string (sb p.1.name),.int .i64 p.1.n,.int .i64 p.1.af,.int .i64 p.1.to,p.2]
def tH(p:Sg×Value×ByteArray):List Value:=[.bool p.1.deep,p.2.1,.string p.2.2]
structure X'(w:World)(x:dz)(b:Value):Prop where
 so:1<=x.sort/\x.sort<=5
 n:-1000<x.n/\x.n<1000
 m:x.sort=5->∃g,b=pT g/\∀w',Q w w'->∀(A:Nat->Nat)(D:Nat->Prop)(hi n:Nat)(t:Tv),RT w' A D hi n t->ko w' A g t (x.wh t)p:∃a,b=.pointer a
theorem X'.keep{w w':World}(h:X' w H a)(k:Q w w'):X' w' H a:=⟨h.so,h.n,λe=>by obtain⟨g,b,c⟩:=h.m e;exact⟨g,b,λf d=>c f (k.trans d)⟩,h.p⟩
def sJ(w:World)(b:Value)(l:List dz):Prop:=∃a:List (dz×Value),a.map (·.1)=l/\w.ownsRow 0 189 6 b l.length (a.flatMap ni)/\∀p∈a,X' w p.1 p.2
def iX(w:World)(c:Value)(b:List Sg):Prop:=∃a:List (Sg×Value×ByteArray),a.map (·.1)=b/\w.ownsRow 0 152 3 c b.length (a.flatMap tH)/\∀p∈a,sJ w p.2.1 p.1.l
theorem sJ.keep{w w':World}(h:sJ w a p)(k:Q w w'):sJ w' a p:=by obtain⟨g,c,d,e⟩:=h;exact⟨g,c,aS d k λ_ _ x=>x,λb f=>(e b f).keep k⟩
variable{l:List Sg}
theorem iX.keep{w w':World}(h:iX w a l)(k:Q w w'):iX w' a l:=by obtain⟨f,b,c,d⟩:=h;exact⟨f,b,aS c k λ_ _ x=>x,λp e=>(d p e).keep k⟩
theorem sJ.form(h:sJ w a p):∃b c,a=.slice b p.length c:=by obtain⟨e,_,d,_⟩:=h;exact X d
theorem iX.form(h:iX w a l):∃b c,a=.slice b l.length c:=by obtain⟨e,_,d,_⟩:=h;exact X d
theorem iX.at_(h:iX w a l){k:Nat}(f:k<l.length):∃g b sv,a=.slice (sA g) l.length b/\w.cell? (aD g (k*3+0))=some (.bool l[k].deep)/\w.cell? (aD g (k*3+1))=some sv/\sJ w sv l[k].l:=by
 obtain⟨e,rfl,d,j⟩:=h;have c:k<e.length:=by simpa using f
 obtain⟨g,b,i,_,_⟩:=d.form om;rw[i]at d;have c0:=(d.cellAt (k*3+0) om).trans (jw tH 3 (λ_=>rfl) e k 0 c om);have c1:=(d.cellAt (k*3+1) om).trans (jw tH 3 (λ_=>rfl) e k 1 c om);grind[tH]
theorem sJ.at_(h:sJ w a p){k:Nat}(m:k<p.length):∃g c b,a=.slice (sA g) p.length c/\(∀i,i<6->w.cell? (aD g (k*6+i))=(ni (p[k],b))[i]?)/\X' w p[k] b:=by
 obtain⟨f,rfl,d,n⟩:=h;have e:k<f.length:=by simpa using m
 obtain⟨g,c,j,_,_⟩:=d.form om;rw[j]at d;refine⟨g,c,f[k].2,j,λi l=>?_,?_⟩;.rw[List.getElem_map];exact(d.cellAt (k*6+i) om).trans (jw ni 6 (λ_=>rfl) f k i e l)
 grind
theorem Hx(h:w.ownsRow k 159 1 a n F)(j:TypeId)(b:Option Addr)(c:Nat):(Builtin.append_ #[191,191] j #[a,.slice b 0 c]).run prog w=.ok a w:=by
 obtain⟨l,e,_,_,_⟩:=info_parts pJ;rcases h.2 with⟨rfl,rfl⟩|⟨g,f,i,rfl,_,_,d,_⟩;.cases b<;>simp[Builtin.append_,run_underlying underlying191,sizeOf,typeInfo,e,Builtin.lenOf,Builtin.firstCells,loadCells,loadCellsFrom]
 cases b<;>simp[Builtin.append_,run_underlying underlying191,sizeOf,typeInfo,e,Builtin.lenOf,Builtin.firstCells,d,storeCells,loadCells,loadCellsFrom]
theorem ae4(b:Nat)(v:Value)(n:Nat)(r:List Value)(d:w.ownsRow b 159 1 v n r)(t:Nat)(s:Value)(m:Nat)(i:List Value)(f:w.ownsRow t 159 1 s m i)(x:∀u∈i,u.oneCell'=true)(G:n+m<=2000000000000)(e:b<=w.heap.size)(q:TypeId):∃h j,(Builtin.append_ #[191,191] q #[v,s]).run prog w=.ok h j/\j.ownsRow b 159 1 h (n+m) (r++i)/\w.grownBy j v.ownBlock/\(h.ownBlock=v.ownBlock\/h.ownBlock=some w.heap.size):=by
 obtain⟨A,y,l,o,p⟩:=info_parts pJ;by_cases z:m=0;.subst z;obtain⟨a,c,rfl⟩:=X f;have hy:i=[]:=CG (by have:=f.1;simpa using this);subst hy;exact⟨v,w,Hx d q a c,by simpa using d,⟨rfl,rfl,rfl,aP _,λ_ _ _=>rfl⟩,Y rfl⟩
 obtain⟨g,k,rfl,_,_⟩:=f.form om;obtain⟨h,j,B,C,D,_,F⟩:=run_append_own_at (P:=prog) w b 191 q 159 A _ 1 8 underlying191 y l o p rfl de v n r d (aD g 0) m k i f.1 (f.cells (g:=g) rfl) x (by unfold maxLen;omega) om e;grind
theorem Hy{i:Array Oper}{o:Oper}{a:Act}{K:Act->World->Prop}{c:Exit->Act->World->Prop}{b:Prop}(l:o.guard=none)(s x:Operand)(D:o.op=.call {callee:=.builtin .append,args:=#[s,x],argTypes:=#[191,191]})(d:Nat)(v:Value)(n:Nat)(q:List Value)(G:a.eval s=v)(g:w.ownsRow d 159 1 v n q)(t:Nat)(r:Value)(m:Nat)(k:List Value)(J:a.eval x=r)(p:w.ownsRow t 159 1 r m k)(y:∀u∈k,u.oneCell'=true)(C:n+m<=2000000000000)(e:d<=w.heap.size)(h:∀f j,j.ownsRow d 159 1 f (n+m) (q++k)->w.grownBy j v.ownBlock->(f.ownBlock=v.ownBlock\/f.ownBlock=some w.heap.size)->K (a.put o.dst f) j):if Region.wanted o (yielded i a.tmps)=true then Oper.wp prog o a w K c else b:=by
 have H:Region.wanted o (yielded i a.tmps)=true:=by simp[Region.wanted,l]
 rw[ae H];obtain⟨f,j,F,z,A,B⟩:=ae4 d v n q g t r m k p y C e o.type;unfold Oper.wp execOp;simp only[D,resolve,invoke,builtin,Sem.run_bind,Sem.run_pure,Result.andThen_ok,List.map_toArray,List.map_cons,List.map_nil,G,J,F];exact h f j z A B
structure NX(W:World)(A:Nat->Nat)(l:List Tv)(nx:Value)(F:List Tv)(fv:Value)(w':World):Prop where
 v:lI W A l nx w'
 o:w'.ownsRow 0 159 1 fv F.length (F.map (cj A))n:∀k,nx.ownBlock=some k->fv.ownBlock≠some k
theorem RY(A:Nat->Nat)(l:List Tv):∀u∈l.map (cj A),u.oneCell'=true:=λu a=>by obtain⟨c,_,rfl⟩:=List.mem_map.1 a;rfl
theorem lI.keep{W w w':World}(h:lI W d m a w)(k:Q w w'):lI W d m a w':=⟨h.f.trans k,aS h.o k λ_ _ x=>x⟩
theorem NX.keep{W w w':World}(h:NX W d m a D B w)(k:Q w w'):NX W d m a D B w':=⟨h.v.keep k,aS h.o k λ_ _ x=>x,h.n⟩
theorem NX.app(h:NX w d m a L B v)(j:u.ownsRow w.heap.size 159 1 K (m.length+D.length) (m.map (cj d)++D.map (cj d)))(f:v.grownBy u a.ownBlock)(g:K.ownBlock=a.ownBlock\/K.ownBlock=some v.heap.size):NX w d (m++D) K L B u:=by
 refine⟨⟨h.v.f.grown f λq i=>Y (h.v.o.lt q i).1,?_⟩,?_,λk b c=>?_⟩;.grind
 .exact aV h.o λk b=>f.block k (h.o.lt k b).2 λe=>h.n k e.symm b
 rcases g with y|y;.exact h.n k (y▸b) c
 have e:v.heap.size=k:=cI (y.symm.trans b);have:=(h.o.lt k c).2;omega
theorem RX.keep{w w':World}{D:Nat->Prop}(h:RX w d D n g)(a:∀k,D k->k<w.heap.size)(k:Q w w'):RX w' d D n g:=⟨h.Bt,λu c=>RT.keep (λq b=>k.block q (a q b) id) _ _ (h.rt u c),h.len⟩
theorem RX.ws(h:RX w d o n g)(a:g j):j.ws.length<=4000000:=by have e:=pL 9 j.ws λc b=>(RT.kids (n:=9) (h.rt j a) b).one;have f:=h.len j a;grind[ai]
structure NE(w:World)(A:Nat->Nat)(D:Nat->Prop)(hi:Nat)(S:Tv->Prop)(sl:Value)(gs:List Sg):Prop where
 tr:RX w A D hi S
 sg:iX w sl gs
 dl:∀k,D k->k<w.heap.size
theorem NE.keep{w w':World}{D:Nat->Prop}(h:NE w d D n g a l)(k:Q w w'):NE w' d D n g a l:=⟨h.tr.keep h.dl k,h.sg.keep k,λq b=>aI (h.dl q b) k.size⟩
def qu(g:Sg)(u:Tv):List Tv:=if g.deep=true then ai 10 u else[u]
theorem M8(g:Sg)(u:Tv):dB g u=(qu g u).flatMap (fM g.l):=by grind[qu,dB]
theorem qh:∀(a:List Sg)(g:Sg)(l:List Tv),aq (a++[g]) l=(aq a l).flatMap (dB g)|[],_,_=>rfl|x::r,g,l=>qh r g (l.flatMap (dB x))
theorem qi(a:List Sg)(l:List Tv)(h:n<a.length):aq (a.take (n+1)) l=(aq (a.take n) l).flatMap (dB a[n]):=by rw[eC h,qh]
theorem wQ{a b:Type}(f:a->List b)(l:List a)(h:n<l.length):(l.take (n+1)).flatMap f=(l.take n).flatMap f++f l[n]:=by rw[eC h,iy];simp
theorem gF{p:Addr}(h:w.cell? p=some a):p.block<w.heap.size:=by unfold World.cell? at h;grind
structure B3(w:World)(a b c:Nat)(w':World):Prop where
 a:w'.heap[a]?=w.heap[a]?
 b:w'.heap[b]?=w.heap[b]?
 c:w'.heap[c]?=w.heap[c]?
theorem B3.cell{w a:World}(h:B3 w n k i a)(p:Addr)(b:p.block=n\/p.block=k\/p.block=i):a.cell? p=w.cell? p:=by
 refine World.cell?_of_block (w:=w) ?_;rcases b with e|e|e<;>rw[e];.exact h.a
 .exact h.b
 exact h.c
structure TKP(w0 w:World)(A:Nat->Nat)(l tk F:List Tv)(nx fv sv:Value)(a b c:Nat)(w':World):Prop where
 x:NX w0 A l nx F fv w'
 o:w'.ownsRow 0 159 1 sv tk.length (tk.map (cj A))b:B3 w a b c w'
theorem wR(h:NE w d o n g a l)(ht:g j)(nP:l.length<=1000)(XB:∀f∈l,f.l.length<=1000)(hlim:∀i,i<=l.length->(aq (l.take i) [j]).length<=1048576000000):Calls prog 95 #[a,(pT (d j.d.af))] w λr w'=>∃sv,r=.returned sv/\lI w d (aq l [j]) sv w':=by
 obtain⟨sa,scp,rfl⟩:=h.sg.form;have HN:=Z h;have HT:=Z ht;have HLI:=Z hlim;have HSL:=Z XB;have S0:Hid (lI w d (aq (l.take 0) [j]) (.slice (sA w.heap.size) 1 1) (w.alloc (.cells #[(pT (d j.d.af))] 159))):=⟨(Fr.refl _ w).alloc _,sV w w.heap.size (pT (d j.d.af)) lr⟩;clear h ht hlim XB;go_enter func95,ntmps95;go_wp2;go_loopw[5,6]λz i wr=>∃m:Nat,m<=l.length/\i=.int .i64 m/\lI w d (aq (l.take m) [j]) z wrλ_ i _=>l.length-(intOf i).toNat;case atStart=>exact⟨0,aT _,rfl,S0.o⟩
 case round=>
  clear S0;obtain⟨m,hj,rfl,hS⟩:=hrel;obtain⟨L,hL⟩:∃L,L=aq (l.take m) [j]:=⟨_,rfl⟩;rw[<-hL]at hS;obtain⟨o0,ocp,M9⟩:=X hS.o;obtain⟨ol,hol⟩:∃ol,ol=L.length:=⟨_,rfl⟩;rw[<-hol]at M9;subst M9;by_cases hjl:m<l.length
  .have hji:(m:Int)<(l.length:Int):=om;have NT:=Z (qi l [j] hjl);have LIM:Hid ((L.flatMap (dB l[m])).length<=1048576000000):=by have:=HLI.o (m+1) hjl;grind[qi]
   have ae8:ol<=1048576000000:=by rw[hol,hL];exact HLI.o m hj
   have R_:Hid (∀v∈L,g v):=by rw[hL];exact mb HN.o.tr.Bt _ _ λu hu=>by rw[dy.1 hu];exact HT.o
   have ae9:(l[m]).l.length<=1000:=HSL.o _ (bP hjl);have NE0:=HN.o.keep hS.f;obtain⟨S,cpa,sv,hsa,hc0,Oj,Ih⟩:=NE0.sg.at_ hjl;simp only[Value.slice.injEq,true_and]at hsa;obtain⟨rfl,rfl⟩:=hsa;rw[Nat.add_zero]at hc0;generalize hgg:l[m]=A at*;obtain⟨b0,bcp,rfl⟩:=Ih.form;obtain⟨sn,Qq⟩:∃sn,sn=A.l.length:=⟨_,rfl⟩;rw[<-Qq]at Oj Ih ae9;have XY:=Z Qq;have CC0:Hid (∀W,Q wr W->W.cell? (aD S (m*3))=some (.bool A.deep)):=λW k=>(k.cell (p:=(aD S (m*3))) (gF hc0) id).trans hc0;have CC1:Hid (∀W,Q wr W->W.cell? (aD S (m*3+1))=some (.slice b0 sn bcp)):=λW k=>(k.cell (p:=(aD S (m*3+1))) (gF Oj) id).trans Oj;have gaw:S<wr.heap.size:=gF Oj;have P8:=Z Ih;have NEr:=Z NE0;have NOW:Hid (wr.ownsRow 0 159 1 (.slice o0 ol ocp) L.length (L.map (cj d))):=fR hS.o;have HS:=Z hS;have HL:=Z hL;have Il:=Z hol;have ST0:Hid (lI wr d ((L.take 0).flatMap (dB A)) (.slice none 0 0) wr):=⟨Fr.refl _ _,⟨rfl,Y ⟨rfl,rfl⟩⟩⟩;clear hS hL hol Qq Ih NE0 hc0 Oj;have HGG:=Z hgg;clear hgg;go_wp2;generalize wr=M at*;go_loopw[7,8]λz i wr=>∃k:Nat,k<=ol/\i=.int .i64 k/\lI M d ((L.take k).flatMap (dB A)) z wrλ_ i _=>ol-(intOf i).toNat;case atStart=>exact⟨0,aT _,rfl,ST0.o⟩
   case round=>
    clear ST0;obtain⟨k,hk,rfl,G⟩:=hrel;obtain⟨P2,Yj⟩:∃P2,P2=(L.take k).flatMap (dB A):=⟨_,rfl⟩;rw[<-Yj]at G;obtain⟨n0,ncp,K'⟩:=X G.o;obtain⟨pl,hpl⟩:∃pl,pl=P2.length:=⟨_,rfl⟩;rw[<-hpl]at K';subst K';by_cases hkl:k<ol
    .have hki:(k:Int)<(ol:Int):=om;have wS:k<L.length:=by rw[<-Il.o];exact hkl
     have NR:wr.ownsRow 0 159 1 (.slice o0 ol ocp) L.length (L.map (cj d)):=aS NOW.o G.f λ_ _ x=>x;obtain⟨g0,gcp,R',_,afa⟩:=NR.form om;rw[<-Il.o]at R';simp only[Value.slice.injEq,true_and]at R';obtain⟨rfl,rfl⟩:=R';have hcell:wr.cell? (aD g0 k)=some (.pointer (some ⟨d (L[k]).d.af,0,none⟩)):=by rw[Il.o]at NR;rw[NR.cellAt k om];simp[cj,wS]
     have HU:=Z (R_.o _ (bP wS));have FT:=Z (wQ (dB A) L wS);have FL:=Z (mH (dB A) L wS);rw[<-Yj]at FT FL;generalize L[k]=u at*;obtain⟨W1,mQ⟩:∃W1,W1=wr.alloc (.cells #[(pT (d u.d.af))] 159):=⟨_,rfl⟩;obtain⟨fb,Df⟩:∃fb,fb=wr.heap.size:=⟨_,rfl⟩;have K1:Q wr W1:=by rw[mQ];exact(Fr.refl _ wr).alloc _
     have d0:=CC0.o W1 (G.f.trans K1);have d2:W1.cell? (aD g0 k)=some (pT (d u.d.af)):=(K1.cell (p:=aD g0 k) afa id).trans hcell;have NXF:Hid (A.deep=false->NX M d P2 (.slice n0 pl ncp) (qu A u) (.slice (sA fb) 1 1) W1):=λhd=>by
      refine⟨G.keep K1,?_,λb hb he=>?_⟩
      .have e:qu A u=[u]:=by unfold qu;rw[hd];rfl
       rw[e,mQ,Df];exact sV wr 0 _ zl
      have e1:fb=b:=cI he;have:=(G.o.lt b hb).2;omega
     have ALC:Hid (A.deep=true->Calls prog 122 #[(pT (d u.d.af))] W1 λr w'=>∃sv,r=.returned sv/\NX M d P2 (.slice n0 pl ncp) (qu A u) sv w'):=λhd=>by
      have n1:=NEr.o.keep (G.f.trans K1);refine(Uh lr 10 u W1 (n1.tr.rt u HU.o) n1.dl (n1.tr.len u HU.o)).mono ?_;rintro r w'⟨sv,rfl,hv⟩;have e:qu A u=ai 10 u:=by unfold qu;rw[ae hd]
      refine⟨sv,rfl,(G.keep K1).keep hv.f,by rw[e];exact fR hv.o,λb hb he=>?_⟩;have h1:=(G.o.lt b hb).2;have h2:=(hv.o.lt b he).1;have h3:=K1.size;omega
     have me:=Z mQ;have HFB:=Z Df;have HP2:=Z Yj;have Ob:=Z hpl;clear G NR mQ Df Yj hpl K1;go_upto_region 10 with fail;rw[<-me.o,<-HFB.o];go_upto_if 35 with fail;go_cut[9]from 20 to 71λs9 wc=>NX M d P2 (.slice n0 pl ncp) (qu A u) s9 wc;case first=>cases hd:A.deep with|false=>rw[hd]at d0;have N1:=Z (NXF.o hd);go_wp2;go_meet;exact N1.o|true=>rw[hd]at d0;have N1:=Z (ALC.o hd);go_wp2_with fail;refine(N1.o).mono ?_;rintro r w2⟨R,rfl,h2⟩;have H2:=Z h2;clear h2;go_wp2;go_meet;exact H2.o
     case rest=>
      have YX:=Z (M8 A u);obtain⟨F,hF⟩:∃F,F=qu A u:=⟨_,rfl⟩;have HIF:Hid (∀x∈F,g x):=by
       rw[hF];intro x hx;unfold qu at hx;split at hx;.exact sX NEr.o.tr.Bt 10 u x HU.o hx
       rw[dy.1 hx];exact HU.o
      rw[<-hF]at hcut YX;obtain⟨f0,H,hfv⟩:=X hcut.o;obtain⟨K,hfl⟩:∃K,K=F.length:=⟨_,rfl⟩;rw[<-hfl]at hfv;subst hfv;have TZ:=Z hfl;have flb:K<=4000000:=by
       rw[hfl,hF];unfold qu;split;.exact NEr.o.tr.len u HU.o
       simp
      have HX0:Hid (NX M d (P2++(F.take 0).flatMap (fM A.l)) (.slice n0 pl ncp) F (.slice f0 K H) wc):=Z (by simpa using hcut);have LB:Hid (P2.length+(F.flatMap (fM A.l)).length<=1048576000000):=by rw[<-YX.o];exact az FL.o LIM.o
      clear hcut hF hfl d0 d2 hcell NXF ALC;go_wp2;go_loopw[7,10]λz i wr=>∃y:Nat,y<=K/\i=.int .i64 y/\NX M d (P2++(F.take y).flatMap (fM A.l)) z F (.slice f0 K H) wrλ_ i _=>K-(intOf i).toNat;case atStart=>exact⟨0,aT _,rfl,HX0.o⟩
      case round=>
       clear HX0;obtain⟨y,hn,rfl,N⟩:=hrel;obtain⟨P3,Yk⟩:∃P3,P3=P2++(F.take y).flatMap (fM A.l):=⟨_,rfl⟩;rw[<-Yk]at N;obtain⟨m0,mcp,hmv⟩:=X N.v.o;obtain⟨ql,Xy⟩:∃ql,ql=P3.length:=⟨_,rfl⟩;rw[<-Xy]at hmv;subst hmv;by_cases hnl:y<K
       .have hni:(y:Int)<(K:Int):=om;have Sa:y<F.length:=by rw[<-TZ.o];exact hnl
        obtain⟨J,amB,hfo,_,_⟩:=N.o.form om;rw[<-TZ.o]at hfo;simp only[Value.slice.injEq,true_and]at hfo;obtain⟨rfl,rfl⟩:=hfo;have HX:=Z (HIF.o _ (bP Sa));have FT3:=Z (wQ (fM A.l) F Sa);have FL3:=Z (mH (fM A.l) F Sa);have FC:Hid (∀W t nx,NX M d t nx F (.slice (sA J) K H) W->W.cell? (aD J y)=some (.pointer (some ⟨d (F[y]).d.af,0,none⟩))/\J<W.heap.size):=λW t nx hW=>by have h1:=hW.o;rw[TZ.o]at h1;have h2:=h1.cellAt y om;refine⟨?_,(h1.lt J rfl).2⟩;rw[h2];simp[cj,Sa]
        have HX0:Hid (NX M d (P3++(A.l.take 0).flatMap λs=>cq s F[y]) (.slice m0 ql mcp) F (.slice (sA J) K H) wr):=Z (by simpa using N);have LB4:Hid (P3.length+(fM A.l F[y]).length<=1048576000000):=by
         have h1:=LB.o;have h2:=FL3.o;have h3:P3.length=P2.length+((F.take y).flatMap (fM A.l)).length:=by rw[Yk,cG]
         exact Z om
        generalize F[y]=x at*;have cL:=CC1.o wr N.v.f;have HP3:=Z Yk;clear N Yk Xy;go_wp2;go_loopw[7,11]λz i wr=>∃p:Nat,p<=sn/\i=.int .i64 p/\NX M d (P3++(A.l.take p).flatMap λs=>cq s x) z F (.slice (sA J) K H) wrλ_ i _=>sn-(intOf i).toNat;case atStart=>exact⟨0,aT _,rfl,HX0.o⟩
        case round=>
         clear HX0 cL;obtain⟨p,hp,rfl,D⟩:=hrel;obtain⟨P4,Oa⟩:∃P4,P4=P3++(A.l.take p).flatMap λs=>cq s x:=⟨_,rfl⟩;rw[<-Oa]at D;obtain⟨r0,P,hrv⟩:=X D.v.o;obtain⟨rl,U⟩:∃rl,rl=P4.length:=⟨_,rfl⟩;rw[<-U]at hrv;subst hrv;have cL:=CC1.o wr D.v.f;by_cases afb:p<sn
         .have hpi:(p:Int)<(sn:Int):=om;have Xd:p<A.l.length:=by rw[<-XY.o];exact afb
          obtain⟨B,amF,wb,hsv,hcs,hwh⟩:=P8.o.at_ Xd;rw[<-XY.o]at hsv;simp only[Value.slice.injEq,true_and]at hsv;obtain⟨rfl,rfl⟩:=hsv;have Z4:=Z (wQ (λs=>cq s x) A.l Xd);have FL4:=Z (mH (λs=>cq s x) A.l Xd);generalize A.l[p]=C at*;have aba:B<M.heap.size:=gF (hcs 0 om);have T:∀i v,i<6->(ni (C,wb))[i]?=some v->wr.cell? (aD B (p*6+i))=some v:=λi v n e=>(D.v.f.cell (p:=(aD B (p*6+i))) aba id).trans ((hcs i n).trans e);have s0:wr.cell? (aD B (p*6))=some (.int .i64 (C.sort:Nat)):=T 0 _ om rfl;have s1:wr.cell? (aD B (p*6+1))=some (.string (sb C.name)):=T 1 _ om rfl;have s2:wr.cell? (aD B (p*6+2))=some (.int .i64 C.n):=T 2 _ om rfl;have s3:wr.cell? (aD B (p*6+3))=some (.int .i64 C.af):=T 3 _ om rfl;have s4:wr.cell? (aD B (p*6+4))=some (.int .i64 C.to):=T 4 _ om rfl;have s5:wr.cell? (aD B (p*6+5))=some wb:=T 5 _ om rfl;obtain⟨cF,afc⟩:=FC.o wr _ _ D;have KS:Hid (∀W,B3 wr S B J W->W.cell? (aD S (m*3+1))=some (.slice (sA B) sn bcp)/\W.cell? (aD B (p*6))=some (.int .i64 (C.sort:Nat))/\W.cell? (aD B (p*6+1))=some (.string (sb C.name))/\W.cell? (aD B (p*6+2))=some (.int .i64 C.n)/\W.cell? (aD B (p*6+3))=some (.int .i64 C.af)/\W.cell? (aD B (p*6+4))=some (.int .i64 C.to)/\W.cell? (aD B (p*6+5))=some wb/\W.cell? (aD J y)=some (pT (d x.d.af))):=λW b3=>⟨(b3.cell _ (Y rfl)).trans cL,(b3.cell _ (I (Y rfl))).trans s0,(b3.cell _ (I (Y rfl))).trans s1,(b3.cell _ (I (Y rfl))).trans s2,(b3.cell _ (I (Y rfl))).trans s3,(b3.cell _ (I (Y rfl))).trans s4,(b3.cell _ (I (Y rfl))).trans s5,(b3.cell _ (I (I rfl))).trans cF⟩;have gar:S<wr.heap.size:=aI gaw D.v.f.size;have sgr:B<wr.heap.size:=aI aba D.v.f.size;have TK:Hid (Calls prog 123 #[.agg #[.int .i64 (C.sort:Nat),.string (sb C.name),.int .i64 C.n,.int .i64 C.af,.int .i64 C.to,wb],(pT (d x.d.af))] wr.drew λr w'=>∃sv,r=.returned sv/\TKP M wr d P4 (cq C x) F (.slice r0 rl P) (.slice (sA J) K H) sv S B J w'):=by
           have kd:Q wr wr.drew:=(Fr.refl _ wr).drew;have n1:=NEr.o.keep (D.v.f.trans kd);refine(RU (n:=9) (x:=C) (b:=wb) (n1.tr.rt x HX.o) n1.dl (n1.tr.ws HX.o) hwh.so hwh.n λe=>?_).mono ?_;.obtain⟨f,e1,e2⟩:=hwh.m e;exact⟨f,e1,λw' k c hc=>e2 w' ((D.v.f.trans kd).trans k) d o n 9 c (RT.keep (λq hq=>k.block q (n1.dl q hq) id) _ _ (RT.kids (n:=9) (n1.tr.rt x HX.o) hc))⟩
           rintro r w'⟨sv,rfl,hv⟩;have k2:=kd.trans hv.f;exact⟨sv,rfl,D.keep k2,fR hv.o,k2.block _ gar id,k2.block _ sgr id,k2.block _ afc id⟩
          have Zu:Hid (∀w2 R,TKP M wr d P4 (cq C x) F (.slice r0 rl P) (.slice (sA J) K H) R S B J w2->∀v' w3,w3.ownsRow M.heap.size 159 1 v' (rl+(cq C x).length) (P4.map (cj d)++(cq C x).map (cj d))->w2.grownBy w3 (Value.slice r0 rl P).ownBlock->(v'.ownBlock=(Value.slice r0 rl P).ownBlock\/v'.ownBlock=some w2.heap.size)->B3 wr S B J w3/\NX M d (P3++(A.l.take (p+1)).flatMap λs=>cq s x) v' F (.slice (sA J) K H) w3):=λw2 R tk v' w3 ho hg ha=>by
           rw[U]at ho;refine⟨⟨?_,?_,?_⟩,?_⟩;.rw[hg.block S (by have:=tk.x.v.f.size;omega) λe=>by have:=(tk.x.v.o.lt S e.symm).1;omega];exact tk.b.a
           .rw[hg.block B (by have:=tk.x.v.f.size;omega) λe=>by have:=(tk.x.v.o.lt B e.symm).1;omega];exact tk.b.b
           .rw[hg.block J (by have:=(tk.x.o.lt J rfl).2;omega) λe=>tk.x.n J e.symm rfl];exact tk.b.c
           have e1:P3++(A.l.take (p+1)).flatMap (λs=>cq s x)=P4++cq C x:=by rw[Z4.o,Oa,gh]
           rw[e1];exact tk.x.app ho hg ha
          have abb:rl+(cq C x).length<=2000000000000:=by have h1:=LB4.o;have h2:=FL4.o;have h3:(fM A.l x).length=(A.l.flatMap λs=>cq s x).length:=rfl;rw[U,Oa,cG];omega
          have HRL:=Z U;have PO:Hid (∀u∈(cq C x).map (cj d),u.oneCell'=true):=RY d _;have OW:Hid (∀w2 R,TKP M wr d P4 (cq C x) F (.slice r0 rl P) (.slice (sA J) K H) R S B J w2->w2.ownsRow M.heap.size 159 1 (.slice r0 rl P) rl (P4.map (cj d))):=λw2 R tk=>by have:=tk.x.v.o;rw[<-U]at this;exact this
          clear D hcs T hwh Oa U;generalize cq C x=TT at*;go_upto_region 18 with fail;go_region_held_lawλW=>W.cell? (aD S (m*3+1))=some (.slice (sA B) sn bcp)/\W.cell? (aD B (p*6))=some (.int .i64 (C.sort:Nat))/\W.cell? (aD B (p*6+1))=some (.string (sb C.name))/\W.cell? (aD B (p*6+2))=some (.int .i64 C.n)/\W.cell? (aD B (p*6+3))=some (.int .i64 C.af)/\W.cell? (aD B (p*6+4))=some (.int .i64 C.to)/\W.cell? (aD B (p*6+5))=some wb/\W.cell? (aD J y)=some (pT (d x.d.af))(first|exact KS.o _ ⟨rfl,rfl,rfl⟩|exact KS.o _ (by assumption))(first|(refine Hy rfl (.tmp 57) (.tmp 70) rfl M.heap.size (.slice r0 rl P) rl _ rfl (OW.o _ _ TP.o) 0 R _ _ rfl TP.o.o PO.o abb (az TP.o.x.v.f.size lr) ?_;intro v' w3 ho hg ha;obtain⟨Aw,hx3⟩:=Zu.o _ _ TP.o v' w3 ho hg ha;have Yi:=Z hx3;clear ho hg ha hx3)|(go_at_call 123;refine TK.o.mono ?_;rintro r w2⟨R,rfl,tp⟩;have TP:=Z tp;have zY:=tp.b;clear tp));go_wp2;go_roundw;case rel=>exact⟨p+1,om,by go_num,Yi.o⟩
          case measure=>simp[intOf];omega
         have hpe:p=sn:=om;have hpi:¬(p:Int)<(sn:Int):=om;have R3:Hid (NX M d (P2++(F.take (y+1)).flatMap (fM A.l)) (.slice r0 rl P) F (.slice (sA J) K H) wr):=by
          have e:P2++(F.take (y+1)).flatMap (fM A.l)=P4:=by rw[FT3.o,Oa,HP3.o,hpe,XY.o,bX,gh];rfl
          rw[e];exact D
         clear D Oa U;go_wp2;go_roundw;case rel=>exact⟨y+1,om,by go_num,R3.o⟩
         case measure=>simp[intOf];omega
       have hne:y=K:=om;have hni:¬(y:Int)<(K:Int):=om;have R2:Hid (lI M d ((L.take (k+1)).flatMap (dB A)) (.slice m0 ql mcp) wr):=by
        have e:(L.take (k+1)).flatMap (dB A)=P3:=by rw[FT.o,YX.o,Yk,hne,TZ.o,bX]
        rw[e];exact N.v
       clear N Yk Xy;go_wp2;go_roundw;case rel=>exact⟨k+1,om,by go_num,R2.o⟩
       case measure=>simp[intOf];omega
    have Pk:k=ol:=om;have hki:¬(k:Int)<(ol:Int):=om;have R1:Hid (lI w d (aq (l.take (m+1)) [j]) (.slice n0 pl ncp) wr):=by
     have e:aq (l.take (m+1)) [j]=P2:=by rw[NT.o,<-HL.o,Yj,Pk,Il.o,bX]
     rw[e];exact G.low HS.o.f
    clear G Yj hpl;go_wp2;go_roundw;case rel=>exact⟨m+1,om,by go_num,R1.o⟩
    case measure=>simp[intOf];omega
  have hjg:m=l.length:=om;have hji:¬(m:Int)<(l.length:Int):=om;have tu:Hid (lI w d (aq l [j]) (.slice o0 ol ocp) wr):=by rw[hL,hjg,bX]at hS;exact hS
  clear hS hL hol;go_wp2;go_ret;exact⟨_,rfl,tu.o⟩
theorem Sb(s:List UInt8)(p:Nat):∀k,dv s p k=i_ s p k|0=>rfl|k+1=>by rw[dv,i_,Sb s p k]
variable{b f:List UInt8}
theorem EM:∀j,(∀i,i<j->O (bt b (n+i))=true)->i_ b n j<10^j|0,_=>by simp[i_]|j+1,h=>by have:=EM j λi a=>h i om;grind[i_,O]
theorem sY(a:k<=3)(h:∀i,i<k->O (bt b (n+i))=true):i_ b n k<1000:=by have c:=EM k h;have d:10^k<=10^3:=Nat.pow_le_pow_right om a;omega
theorem Hz(s:List UInt8)(t:St)(a:Bool):(bu s t a).p<=t.p+3:=by grind[iD,wv,aH,bu,O,eF]
variable{c z:St}
theorem M_{d:Bool}(i:(bu b c d).e=0)(a:O (bt b (bu b c d).p)=false):∃m,bu b c d=tP c m/\0<m/\m<=3/\GX O b c.p m:=by obtain⟨_,m,e,g,h⟩:=MS i;have f:=Hz b c d;rw[e]at f a;exact⟨m,e,g,by simp only at f;omega,h,a⟩
theorem Ei(g:(countP b c true).e=0)(o:c.e=0)(f:O (bt b (countP b c true).p)=false):∃(m:Nat)(v:Int),countP b c true=tP c m/\0<m/\fy b c true=v/\(-1000<v/\v<1000)/\((bt b c.p=45/\bV O b (c.p+1)=c.p+m/\v=-(b_ b (c.p+1) (c.p+m):Int))\/(bt b c.p≠45/\bV O b c.p=c.p+m/\v=(b_ b c.p (c.p+m):Int))):=by
 have d:fy b c true=oB b (countP b c true) (d_ b c true) (ar b c 45):=by unfold fy;simp
 unfold oB at d;rw[ae g]at d;unfold countP at g f d⊢;have j:d_ b c true=if bt b c.p=45 then aH c else c:=by grind[aL,bt,has,d_]
 by_cases a:bt b c.p=45
 .rw[ae a]at j;rw[j]at g f d⊢;obtain⟨m,h,n,l,i⟩:=M_ g f;have e:ar b c 45=true:=by rw[aL o];simpa using a
  rw[h,e]at d;have k:(aH c).p+m-(aH c).p=m:=om;rw[ae rfl,Sb,k]at d;have p:=sY l i.all;refine⟨1+m,_,?_,om,d,⟨om,om⟩,Y ⟨a,?_,?_⟩⟩;.rw[h];show St.mk (c.p+1+m) c.e c.n=St.mk (c.p+(1+m)) c.e c.n;rw[Nat.add_assoc]
  .have:=i.ag wB (Ag.self b (c.p+1) m);rw[this];omega
  unfold b_;rw[show c.p+(1+m)-(c.p+1)=m by omega];rfl
 rw[aa a]at j;rw[j]at g f d⊢;obtain⟨m,h,n,l,i⟩:=M_ g f;have e:ar b c 45=false:=by rw[aL o];simpa using a
 rw[h,e]at d;have k:c.p+m-c.p=m:=om;rw[aa si,Sb,k]at d;have p:=sY l i.all;refine⟨m,_,h,n,d,⟨om,om⟩,I ⟨a,i.ag wB (Ag.self b c.p m),?_⟩⟩;grind[b_]
theorem WB(e:(countP b c false).e=0)(d:O (bt b (countP b c false).p)=false):∃m:Nat,countP b c false=tP c m/\0<m/\m<=3/\bV O b c.p=c.p+m/\fy b c false=(b_ b c.p (c.p+m):Int)/\b_ b c.p (c.p+m)<1000:=by
 have a:fy b c false=oB b (countP b c false) c false:=by unfold fy d_;simp
 unfold oB at a;rw[ae e,aa si]at a;have k:countP b c false=bu b c false:=by unfold countP d_;simp
 rw[k]at e d a⊢;obtain⟨m,h,l,i,j⟩:=M_ e d;rw[h]at a;have f:c.p+m-c.p=m:=om;rw[Sb,f]at a;have g:b_ b c.p (c.p+m)=i_ b c.p m:=by unfold b_;rw[f]
 refine⟨m,h,l,i,j.ag wB (Ag.self b c.p m),?_,?_⟩;.rw[g];exact a
 rw[g];exact sY i j.all
theorem Sd(j:bF b)(h:Live b n k 11 f i c)(d:ar b c 46=true):∃m,bH b (aH c)=tP c (1+m)/\Live b n k 11 f i (tP c (1+m))/\∀N a,bE b (N+1) c.p a=bE b N (c.p+(1+m)) (a++[⟨true,sub b (c.p+1) (c.p+(1+m)),0⟩]):=by
 obtain⟨q,r⟩:=aF d;have L:=au j (AU (Y h) d);have p:=L.e0;have o:bH b (aH c)={aH c with p:=run isLet b 8 (aH c).p}:=by grind[aH,bH]
 have l:=ui j L;rw[o]at l;obtain⟨m,e,R⟩:=Mj (ok:=isLet) (s:=b) (K:=8) (a:=(aH c).p) l;have g:bH b (aH c)=tP c (1+m):=by rw[o,e];show St.mk (c.p+1+m) c.e c.n=St.mk (c.p+(1+m)) c.e c.n;rw[Nat.add_assoc]
 refine⟨m,g,by rw[<-g];exact L,λN a=>?_⟩;have s:bV isLet b (c.p+1)=c.p+1+m:=R.ag Ml (Ag.self b (c.p+1) m);grind[bE]
theorem Xe(t:bF b)(h:Live b n k 11 f i c)(d:ar b c 91=true):∃m,aK b (countP b (aH c) true) 93=tP c (1+m)/\Live b n k 11 f i (tP c (1+m))/\(-1000<fy b (aH c) true/\fy b (aH c) true<1000)/\∀N a,bE b (N+1) c.p a=bE b N (c.p+(1+m)) (a++[⟨false,[],fy b (aH c) true⟩]):=by
 obtain⟨p,x⟩:=aF d;have L:=au t (AR (Y h) d);obtain⟨j,g⟩:=jZ L.e0;obtain⟨o,e⟩:=aF j;obtain⟨m,v,q,u,r,s,w⟩:=Ei o (show(aH c).e=0 from p) (by rw[e];rfl);have l:aK b (countP b (aH c) true) 93=tP c (1+(m+1)):=by rw[g,q];show St.mk (c.p+1+m+1) c.e c.n=St.mk (c.p+(1+(m+1))) c.e c.n;congr 1;omega
 refine⟨m+1,l,by rw[<-l];exact L,by rw[r];exact s,λN a=>?_⟩;grind[aH,bE]
theorem Xf(c:bt b n≠46)(d:bt b n≠91)(N:Nat)(a:List gI):bE b (N+1) n a=⟨a,n⟩:=by rw[bE,aa c,aa d]
def ktc(k:Kt):Array Value:=#[.int .i64 (k.k:Nat),.int .i64 k.n,.string (sb k.t),.string ⟨#[]⟩,.string ⟨#[]⟩,.int .i64 0,.int .i64 0,.int .i64 0,.slice none 0 0]
theorem Se(q:bF b)(h:Live b n k 17 f i c)(g:ar b c 39=true):Live b n k 18 f i (fh b c)/\∃m,fh b c=tP c m/\0<m/\bA b c.p=⟨⟨2,0,sub b (aK b c 39).p (eF aR b 8 (aK b c 39)).p⟩,c.p+m⟩:=by
 have L:=au q (oO (Y h) g);obtain⟨l,d⟩:=aF g;obtain⟨_,m,a,t,p⟩:=Eh l L.e0;refine⟨L,m+2,a,om,?_⟩;have j:aK b c 39=aH c:=by unfold aK;rw[ae g]
 have s:bV aR b (c.p+1)=c.p+1+m:=p.ag Me (Ag.self b (c.p+1) m);have r:(eF aR b 8 (aH c)).p=c.p+1+m:=by
  have e:=L.e0;unfold fh at e a;rw[j]at e a;obtain⟨_,o⟩:=jZ e;rw[o]at a;have:(aH (eF aR b 8 (aH c))).p=(tP c (m+2)).p:=by rw[a]
  grind[aH]
 rw[j,r];unfold bA;rw[aa om,aa om,aa om,ae d,s];show PS.mk _ (c.p+1+m+1)=PS.mk _ (c.p+(m+2));rw[show c.p+1+m+1=c.p+(m+2)by omega];rfl
theorem Si(g:bF b)(x a:UInt8)(l:List UInt8)(h:Live b n k 17 f i c)(d:ar b c x.toNat=true)(j:nx (cS 17 f) x.toNat=⟨24,18,0,a::l,f⟩):Live b n k 18 f i (aO b c ((x::a::l).map UInt8.toNat))/\aO b c ((x::a::l).map UInt8.toNat)=tP c (l.length+2):=by have L:=au g (ry x a l (Y h) d j);obtain⟨_,_,e⟩:=iE L.e0;refine⟨L,?_⟩;rw[e];simp
theorem abc(j:bF b)(h:Live b n k 17 f i c)(a:ar b c 39=false)(d:ar b c 116=false)(e:ar b c 102=false)(g:ar b c 110=false):Live b n k 18 f i (countP b c true)/\∃m,countP b c true=tP c m/\0<m/\bA b c.p=⟨⟨1,fy b c true,[]⟩,c.p+m⟩:=by have L:=au j (oP (Y h) a d e g);obtain⟨m,v,l,o,p,q,r⟩:=Ei L.e0 h.e0 (kG j L om);refine⟨L,m,l,o,?_⟩;rw[aL h.e0]at a d e g;grind[bA]
theorem oG(l:List gI)(x:gI):eJ (l++[x])=eJ l++RO x:=by simp[eJ]
def Oc(s:List UInt8)(t u:St)(l:List gI):Prop:=∃m,u=tP t m/\l.length<=m/\(∀x∈l,-1000<x.n/\x.n<1000)/\∀N,bE s (N+l.length) t.p []=bE s N u.p l
theorem kR(t:St)(m k:Nat):tP (tP t m) k=tP t (m+k):=by grind
variable{t:List gI}
theorem Oc.add(h:Oc b c z t){x:gI}(i:-1000<x.n/\x.n<1000)(g:∀N a,bE b (N+1) z.p a=bE b N (z.p+(1+n)) (a++[x])):Oc b c (tP z (1+n)) (t++[x]):=by
 obtain⟨m,rfl,d,e,f⟩:=h;refine⟨m+(1+n),kR _ _ _,by rw[cG];show _+1<=_;omega,λy hy=>?_,λN=>?_⟩;.grind
 grind
theorem Oc.word(h:Oc b c z t)(a:bF b)(g:Ok b n k 11 f i z)(e:ar b z 46=true):Oc b c (bH b (aH z)) (t++[⟨true,sub b (aH z).p (bH b (aH z)).p,0⟩]):=by obtain⟨j,d,_,l⟩:=Sd a (au a g) e;rw[d];exact h.add ⟨si,si⟩ l
theorem Oc.idx(h:Oc b c z t)(a:bF b)(g:Ok b n k 11 f i z)(e:ar b z 91=true):Oc b c (aK b (countP b (aH z) true) 93) (t++[⟨false,[],fy b (aH z) true⟩]):=by obtain⟨j,d,_,m,l⟩:=Xe a (au a g) e;rw[d];exact h.add m l
theorem al3:∀j u,[a,B,K][j]?=some u->(w.alloc (.cells #[a,B,K] J)).cell? (Addr.add (aD w.heap.size 0) j)=some u:=by intro j u b;match j,b with|0,b=>simp at b;subst b;simp[Addr.add]|1,b=>simp at b;subst b;simp[Addr.add]|2,b=>simp at b;subst b;simp[Addr.add]
variable{q:ByteArray}
theorem BJ(a:ar (E q) c n=true)(b:n<256:=by decide):(aH c).p<=q.size:=by have a:=(aF a).2;have:=cQ (s:=E q) (p:=c.p) om;rw[ak]at this;exact this
theorem BM(s:ByteArray)(a b:Nat):sb (sub (E s) a b)=s.extract a b:=by rw[<-dD,zt]
theorem abd(s:ByteArray)(a b:Nat):[Value.string (s.extract a b),.int .i64 0,.bool true]=RO ⟨true,sub (E s) a b,0⟩:=by unfold RO;rw[BM]
def afd(b:Nat)(s:ByteArray)(q c:Nat)(o:List UInt8)(n:Nat)(t:St)(w:World)(r:Ending)(f:World):Prop:=∃a k e d l,r=.returned (.slice a k e)/\Rd b s w d f/\Ok (E s) q c 11 o n d/\(d.e=0->bt (E s) d.p≠46/\bt (E s) d.p≠91)/\f.ownsRow w.heap.size 292 3 (.slice a k e) l.length (eJ l)/\(bF (E s)->∃m,d=tP t m/\(l.length<=120/\∀x∈l,-1000<x.n/\x.n<1000)/\∀N,m<N->bE (E s) N t.p []=⟨l,t.p+m⟩)
theorem QX(h:bB w n q c)(hs:q.size<=120)(hok:Ok (E q) k i 11 b r c):Calls prog 258 #[pT n] w (afd n q k i b r c w):=by
 obtain⟨i0,hi,hz0,hz1,eE⟩:=info_parts Tryz.LZ;have HI:=Z hi;have T:=Z hz0;have U:=Z hz1;have W:=Z eE;clear hi hz0 hz1 eE;have o:=h.lt;have A:=Z (Rd.same h);have t:=Z hok;clear h hok;go_enter func258,ntmps258;go_wp2;go_loopw[3,4,5,6,7]λv _ _ _ _ wr=>∃(u:St)(d:Nat)(l:List gI),d=l.length/\wr.ownsRow w.heap.size 292 3 v d (eJ l)/\d<=u.p/\Rd n q w u wr/\Ok (E q) k i 11 b r u/\(bF (E q)->Oc (E q) c u l)λ_ _ _ _ _ wr=>q.size+1-mP n wr;case atStart=>exact⟨c,0,[],rfl,World.ownsRow_nil _ _ _ _,aT _,A.o,t.o,λ_=>⟨0,rfl,aP _,λx z=>(by cases z),λ_=>rfl⟩⟩
 case round=>
  clear A t;obtain⟨u,d,l,hkl,H,hk,hr,ho,hI⟩:=hrel;have hle:=ho.le;rw[ak]at hle;have q2:=hr.m.c2;have A:=Z hr;have t:=Z ho;have S:=Z H;have HS:=Z hI;have p:=Z hkl;clear hr ho H hI hkl;by_cases L:u.e=0
  .have X_:((u.e:Int)==0)=true:=by rw[L];rfl
   have HE:=Z L;clear L;go_wp2_with fail;refine(kM A.o.m 46 46 rfl om hs).mono ?_;clear q2;rintro e v1⟨rfl,C⟩;cases G:ar (E q) u 46
   .have HD:=Z G;rw[show has (E q) u 46=u by simp[has,G]]at C;have K:=Z (A.o.trans C);have W1:=Z (gM S.o C o);clear C G;go_wp2_with fail;refine mo (kM K.o.m 91 91 rfl om hs) λv2 D=>?_;cases z:ar (E q) u 91;.rw[show has (E q) u 91=u by simp[has,z]]at D;have G2:=Z (K.o.trans D);have W2:=Z (gM W1.o D o);have HX:=Z z;clear D z;obtain⟨a,cp,rfl⟩:=X S.o;go_wp2;go_ret;have h1:=HD.o;have h2:=HX.o;rw[aL HE.o]at h1 h2;simp only[beq_eq_false_iff_ne]at h1 h2;refine⟨a,d,cp,u,l,rfl,G2.o,t.o,λ_=>⟨h1,h2⟩,by rw[<-p.o];exact W2.o,λB=>?_⟩;obtain⟨m,rfl,x1,x2,x3⟩:=HS.o B;refine⟨m,rfl,⟨by rw[<-p.o];omega,x2⟩,λN hN=>?_⟩;have y:=x3 (N-l.length);rw[show N-l.length+l.length=N by omega]at y;rw[y,show N-l.length=(N-l.length-1)+1 by omega];exact Xf h1 h2 _ _
    rw[show has (E q) u 91=aH u by simp[has,z]]at D;have G2:=Z (K.o.trans D);have W2:=Z (gM W1.o D o);have s:=Z (AR t.o z);have I2:=Z λB=>(HS.o B).idx B t.o z;have J:=BJ z;clear D z;go_wp2_with fail;refine mo (qO G2.o.m true hs J) λv3 g3=>?_;have G3:=Z (G2.o.trans g3);have W3:=Z (gM W2.o g3 o);clear g3;go_wp2_with fail;refine mo (eH G3.o.m ⟨#[93]⟩ de hs) λv4 F=>?_;rw[QQ]at F;have M:=Z (G3.o.trans F);have W4:=Z (gM W3.o F o);clear F;have R:Hid (u.p+1<=(aK (E q) (countP (E q) (aH u) true) 93).p):=az (GK (E q) (aH u) true) (zq _ _ _);generalize aK (E q) (countP (E q) (aH u) true) 93=u2 at*;generalize fy (E q) (aH u) true=cv at*;have f:=W4.o;have hsz:=M.o.f.size;go_wp2_with(at_builtin;refine wpList_append_own _ rfl _ _ 247 rfl w.heap.size 292 i0 _ 3 32 underlying247 HI.o T.o U.o W.o rfl de _ _ _ rfl (f.alloc _) (aD v4.heap.size 0) 1 1 [.string ⟨#[]⟩,.int .i64 cv,.bool false] rfl rfl al3 (by intro u hu;simp at hu;rcases hu with rfl|rfl|rfl<;>rfl) (by unfold maxLen;omega) om (by simp;omega) ?_);intro v' w5 j g _;have P:=Z ((M.o.alloc _).grown g o λd hk=>(f.lt d hk).1);have W5:=Z j;clear g j f;obtain⟨a5,c5,rfl⟩:=X W5.o;go_wp2;go_roundw;case rel=>exact⟨u2,d+1,_,by rw[cG,p.o];rfl,by rw[oG];exact W5.o,by have:=R.o;omega,P.o,s.o,I2.o⟩
    case measure=>rw[A.o.m.mP,P.o.m.mP];have:=R.o;have:=s.o.le;rw[ak]at this;omega
   rw[show has (E q) u 46=aH u by simp[has,G]]at C;have K:=Z (A.o.trans C);have W1:=Z (gM S.o C o);have s:=Z (AU t.o G);have I2:=Z λB=>(HS.o B).word B t.o G;have J:=BJ G;clear C G;go_wp2_with fail;refine mo (La K.o.m hs J) λv4 F=>?_;have M:=Z (K.o.trans F);have W4:=Z (gM W1.o F o);clear F;have R:Hid (u.p+1<=(bH (E q) (aH u)).p):=zp (E q) (aH u);have SX:=Z (abd q (aH u).p (bH (E q) (aH u)).p);generalize q.extract (aH u).p (bH (E q) (aH u)).p=str at*;generalize bH (E q) (aH u)=u2 at*;have f:=W4.o;have hsz:=M.o.f.size;go_wp2_with(at_builtin;refine wpList_append_own _ rfl _ _ 247 rfl w.heap.size 292 i0 _ 3 32 underlying247 HI.o T.o U.o W.o rfl de _ _ _ rfl (f.alloc _) (aD v4.heap.size 0) 1 1 [.string str,.int .i64 0,.bool true] rfl rfl al3 (by intro u hu;simp at hu;rcases hu with rfl|rfl|rfl<;>rfl) (by unfold maxLen;omega) om (by simp;omega) ?_);intro v' w5 j g _;have P:=Z ((M.o.alloc _).grown g o λd hk=>(f.lt d hk).1);have W5:=Z j;clear g j f;obtain⟨a5,c5,rfl⟩:=X W5.o;go_wp2;go_roundw;case rel=>exact⟨u2,d+1,_,by rw[cG,p.o];rfl,by rw[oG,<-SX.o];exact W5.o,by have:=R.o;omega,P.o,s.o,I2.o⟩
   case measure=>rw[A.o.m.mP,P.o.m.mP];have:=R.o;have:=s.o.le;rw[ak]at this;omega
  have X_:=qp L;obtain⟨a,cp,rfl⟩:=X S.o;go_wp2;go_ret;exact⟨a,d,cp,u,l,rfl,A.o,t.o,λh=>absurd h L,by rw[<-p.o];exact S.o,λB=>absurd (au B t.o).e0 L⟩
def abe(b:Nat)(s:ByteArray)(q c:Nat)(o:List UInt8)(n:Nat)(t:St)(w:World)(r:Ending)(e:World):Prop:=∃g d,r=.returned (pT g)/\Rd b s w d e/\Ok (E s) q c 18 o n d/\(bF (E s)->∃a m,d=tP t m/\0<m/\bA (E s) t.p=⟨a,t.p+m⟩/\w.heap.size<=g/\V e g (ktc a) 195/\(1<=a.k/\a.k<=3))
theorem sZ(x a:UInt8)(l:List UInt8)(g:Ok (E q) k i 17 b r c)(d:ar (E q) c x.toNat=true)(j:nx (cS 17 b) x.toNat=⟨24,18,0,a::l,b⟩)(h:Rd n q w (aO (E q) c ((x::a::l).map UInt8.toNat)) v)(m:bA (E q) c.p=⟨⟨3,0,f⟩,c.p+(l.length+2)⟩):abe n q k i b r c w (.returned (pT v.heap.size)) (v.alloc (.cells (ktc ⟨3,0,f⟩) 195)):=⟨_,_,rfl,h.alloc _,ry x a l g d j,λe=>⟨_,_,(Si e x a l (au e g) d j).2,om,m,h.f.size,V.new _ _ _,si,si⟩⟩
theorem BE(h:bB w n q c)(v:q.size<=120)(s:Ok (E q) k i 17 b r c):Calls prog 259 #[pT n] w (abe n q k i b r c w):=by
 have p:=s.le;rw[ak]at p;have F:=Z (Rd.same h);have l:=Z s;clear h s;go_enter func259,ntmps259;go_wp2_with fail;refine mo (eI F.o.m 39 39 rfl om) λG g=>?_;have B:=Z (F.o.trans g);clear g;go_wp2_with fail;refine mo (eI B.o.m 116 116 rfl om) λJ g=>?_;have C:=Z (B.o.trans g);clear g;go_wp2_with fail;refine mo (eI C.o.m 102 102 rfl om) λK g=>?_;have D:=Z (C.o.trans g);clear g;go_wp2_with fail;refine mo (eI D.o.m 110 110 rfl om) λL g=>?_;have d:=Z (D.o.trans g);clear g;cases e:ar (E q) c 39
 .cases f:ar (E q) c 116
  .cases j:ar (E q) c 102
   .cases o:ar (E q) c 110;.have H:=Z (db e (db f (db j o)));clear e f j o;go_wp2_with fail;refine mo (qO d.o.m true v p) λx g=>?_;have a:=Z (d.o.trans g);clear g;go_wp2;go_ret;obtain⟨e,f,j,o⟩:=H.o;refine⟨_,_,rfl,a.o.alloc _,oP l.o e f j o,λu=>?_⟩;obtain⟨_,m,y,z,A⟩:=abc u (au u l.o) e f j o;exact⟨_,m,y,z,A,a.o.f.size,V.new _ _ _,si,si⟩
    have H:=Z o;clear e f j o;go_wp2_with fail;refine mo (eH d.o.m ⟨#[110,117,108,108]⟩ de v) λx g=>?_;rw[QS]at g;have a:=Z (d.o.trans g);clear g;go_wp2;go_ret;have t:=(aF H.o).2;exact sZ 110 117 [108,108] l.o H.o rfl a.o (by unfold bA;rw[aa om,aa om,ae t];rfl)
   have H:=Z j;clear e f j;go_wp2_with fail;refine mo (eH d.o.m ⟨#[102,97,108,115,101]⟩ de v) λx g=>?_;rw[L6]at g;have a:=Z (d.o.trans g);clear g;go_wp2;go_ret;have t:=(aF H.o).2;exact sZ 102 97 [108,115,101] l.o H.o rfl a.o (by unfold bA;rw[aa om,ae t];rfl)
  have H:=Z f;clear e f;go_wp2_with fail;refine mo (eH d.o.m ⟨#[116,114,117,101]⟩ de v) λx g=>?_;rw[QR]at g;have a:=Z (d.o.trans g);clear g;go_wp2;go_ret;have t:=(aF H.o).2;exact sZ 116 114 [117,101] l.o H.o rfl a.o (by unfold bA;rw[ae t];rfl)
 have H:=Z e;clear e;go_wp2_with fail;refine mo (DJ d.o.m v p) λx g=>?_;have a:=Z (d.o.trans g);clear g;go_wp2;go_ret;refine⟨_,_,rfl,a.o.alloc _,oO l.o H.o,λu=>?_⟩;obtain⟨_,m,y,z,A⟩:=Se u (au u l.o) H.o;refine⟨_,m,y,z,A,a.o.f.size,?_,si,si⟩;grind[V.new,BM,ktc]
