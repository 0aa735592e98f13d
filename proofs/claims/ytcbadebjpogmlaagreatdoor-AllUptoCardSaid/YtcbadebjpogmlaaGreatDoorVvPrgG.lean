import Derived.Test.YtcbadebjpogmlaaGreatDoorVvPrgA
import Derived.Test.YtcbadebjpogmlaaGreatDoorVvRefF
import Derived.Lib.Strings
import Derived.Shelf.RegionOpenPlain
set_option maxHeartbeats 2000000
set_option maxRecDepth 100000
namespace Go.Proofs.YtcbadebjpogmlaaGreatDoor
open Go.RowKit Tr Go.Proofs.Tryz
variable{w v:World}{n k i:Nat}{a:G}
theorem We(h:bG w n a.st a)(f:jP a)(c:Nat)(l:c<256):Calls prog 82 #[pT n,.int .u8 (c:Int)] w (Bh n w (dc a c)):=by
 have c0:=h.c0;have k:=Z h;have HK:=Z f;clear h;by_cases b:21<=a.st/\a.st<=25
 .have e:dc a c=aU a c:=by unfold dc;rw[ae b]
  rw[e];have o:=Z b;have i:a.st=21\/a.st=22\/a.st=23\/a.st=24\/a.st=25:=om;clear e b f;rcases i with d|d|d|d|d;all_goals rw[d]at c0;clear d;go_enter func82,ntmps82;go_wp2_with fail;refine(Lo k.o HK.o c l o.o).mono ?_;rintro r q⟨x,rfl,m⟩;have g:=Z m;clear m;generalize aU a c=p at*;go_wp2;go_ret;exact⟨x,rfl,g.o⟩
 have e:dc a c=aJ a c:=by unfold dc;rw[aa b]
 rw[e];have j:=f.op;have d1:((a.st:Int)==21)=false:=dH;have d2:((a.st:Int)==22)=false:=dH;have d3:((a.st:Int)==23)=false:=dH;have d4:((a.st:Int)==24)=false:=dH;have d5:((a.st:Int)==25)=false:=dH;clear e b f;go_enter func82,ntmps82;go_wp2_with fail;refine mh (uF k.o j c l) λq g=>?_;generalize aJ a c=p at*;go_wp2;go_ret;exact⟨_,rfl,g.o⟩
theorem yT(h:bG w n a.st a):Calls prog 83 #[pT n] w λr f=>r=.returned (.bool (dR a))/\∃b,f=w.drewN b:=by
 have c0:=h.c0;have c1:=h.c1;clear h;by_cases d:a.st=3
 .have e:dR a=true:=by simp[dR,d]
  rw[e];have d1:((a.st:Int)==3)=true:=DH;clear e d;go_enter func83,ntmps83;go_wp2;go_ret;exact⟨rfl,0,rfl⟩
 have d1:((a.st:Int)==3)=false:=dH;by_cases c:a.st=21
 .have e:dR a=((a.bh:Int)==3):=by grind[dR]
  rw[e];have d2:((a.st:Int)==21)=true:=DH;clear e d c;go_enter func83,ntmps83;go_wp2;go_ret;exact⟨rfl,0,rfl⟩
 have e:dR a=false:=by simp[dR,d,c]
 rw[e];have d2:((a.st:Int)==21)=false:=dH;clear e d c;go_enter func83,ntmps83;go_wp2;go_ret;exact⟨rfl,0,rfl⟩
theorem jP.st(h:jP a)(k:Nat)(b:k≠24):jP {a with st:=k}:=⟨h.bh,h.op,h.sz,λe=>absurd e b,h.rl⟩
theorem yU(h:jP a)(b k:Nat)(c:k<=20):jP (iW a b k):=by
 unfold iW;split;.exact⟨c,h.op,si,λe=>by simp at e,h.rl⟩
 exact h.st 0 om
theorem uG(h:jP a)(k:Nat)(b:k<=20):jP (jg a k):=⟨b,h.op,by simp[jg],λe=>by simp[jg]at e,h.rl⟩
theorem uH(h:jP a)(k:Nat)(b:k<=20):jP (iH a k):=⟨b,h.op,h.sz,λe=>by simp[iH]at e,h.rl⟩
theorem uI(h:jP a)(l:List UInt8)(d:l.length<=4)(k:Nat)(c:k<=20):jP (dQ a l k):=by
 unfold dQ;split;.exact h.st k om
 rename_i b;exact⟨c,h.op,h.sz,λ_=>b,d⟩
theorem mB(h:jP a)(b k:Nat)(c:k<=20):jP (bJ a b k):=by
 unfold bJ;split;.exact h.st k om
 split;.exact⟨c,h.op,si,λe=>by simp at e,h.rl⟩
 exact h.st 0 om
theorem sE(h:jP a)(b k:Nat)(c:k<=20):jP (dM a b k):=by grind[mB,uH,dM]
theorem Gy(h:jP a)(b:Nat):jP (fj a b):=by
 unfold fj;repeat' split
 all_goals first|exact h.st _ om|exact uG h _ om|exact uI h _ si _ om|exact sE h _ _ om
theorem Bm(h:jP a)(b:Nat):jP (dh a b):=by
 unfold dh;repeat' split
 all_goals first|exact h.st _ om|exact yU h _ _ om|exact sE h _ _ om
theorem sF(h:jP a)(b:Nat):jP (bN a b):=by
 unfold bN;repeat' split
 all_goals first|exact h.st _ om|exact mB h _ _ om
theorem Gz(l:List UInt8):(iA l).length<=l.length:=by grind[iA]
theorem qa(h:jP a)(d:a.st≠24)(b:Nat):jP (bw a b):=by
 have c:jP {a with op:=bI a.op}:=⟨h.bh,az (uD _) h.op,h.sz,λe=>absurd e d,h.rl⟩;unfold bw;simp only;repeat' split
 .exact c.st _ om
 .exact c.st _ om
 .exact⟨h.bh,az (Gz _) c.op,h.sz,λe=>by simp at e,h.rl⟩
 .exact sF c b
 exact c.st _ om
theorem yV(h:jP a)(c:a.st≠24)(b:Nat):jP (eo a b):=by
 unfold eo;repeat' split
 all_goals first|exact h.st _ om|exact qa h c b
theorem Lp(h:jP a)(b:Nat):jP (gA a b):=by
 unfold gA;repeat' split
 .exact h.st _ om
 .exact h.st _ om
 .exact h.st _ om
 refine⟨h.bh,?_,h.sz,λe=>by simp at e,h.rl⟩;have:=h.op;grind
theorem wi(h:jP a)(b:Nat):jP (cE a b):=by
 unfold cE;repeat' split
 all_goals first|exact h.st _ om|exact uG h _ om|exact uH h _ om|exact mB h _ _ om
theorem yW(h:jP a)(b:Nat):jP (cC a b):=by
 unfold cC l5;repeat' split
 all_goals first|exact h.st _ om|exact yU h _ _ om
theorem qb(h:jP a)(c:a.st≠24)(b:Nat):jP (aJ a b):=by grind[Gy,Lp,qa,yW,sF,wi,yV,Bm,aJ]
theorem Lq(h:jP a)(b:Nat):jP (dc a b):=by
 unfold dc;split
 .unfold aU;split
  .rename_i d;refine⟨h.bh,h.op,?_,?_,h.rl⟩;.grind[cd]
   intro e;exact h.rs e
  split;.exact h.st _ (by have:=h.bh;omega)
  split;.refine uI h _ ?_ _ h.bh;have:=h.rl;grind
  split;.exact mB h _ _ h.bh
  split;.have c:jP {a with st:=a.bh}:=h.st _ (by have:=h.bh;omega);exact qb c (by have:=h.bh;simp only;omega) b
  exact h.st _ om
 grind[qb]
def Gi(s:List UInt8):Nat->G|0=>⟨2,0,0,[],[]⟩|i+1=>dc (Gi s i) (bt s i)
theorem Lr(s:List UInt8):∀i,jP (Gi s i)|0=>⟨by simp[Gi],by simp[Gi],by simp[Gi],λe=>by simp[Gi]at e,by simp[Gi]⟩|i+1=>Lq (Lr s i) _
theorem Wf(s:List UInt8):∀i,i<=s.length->(∀j,j<=i->2<=(M s j).st\/j=i)->norm (Gi s i)=M s i
 |0,_,_=>rfl|i+1,d,h=>by
  have a:=Wf s i om (λj e=>by grind);have b:2<=(M s i).st:=by grind
  have c:bt s i≠256:=by have:=rk (s:=s) (p:=i) om;omega
  show norm (dc (Gi s i) (bt s i))=nx (M s i) (bt s i);rw[Ge _ _ (Lr s i).bh,a];grind[nx]
def Wg(s:ByteArray)(w:World)(r:Ending)(a:World):Prop:=Q w a/\((∃e p,Ig (E s) e p/\r=.returned (.tuple #[.int .i64 (e:Nat),.int .i64 (p:Nat)]))\/(Fin (E s)/\r=.returned (.tuple #[.int .i64 0,.int .i64 0])))
variable{q s:ByteArray}
theorem Qs(hs:q.size<=120):Calls prog 61 #[.string q] w (Wg q w):=by
 have K:Hid (bG (w.alloc (.cells #[.int .i64 2,.int .i64 0,.int .i64 0,.string ⟨#[]⟩,.string ⟨#[]⟩] 176)) w.heap.size (Gi (E q) 0).st (Gi (E q) 0)):=heap_alloc_new w _;have J:=Z ((Fr.refl (λ_=>False) w).alloc (.cells #[.int .i64 2,.int .i64 0,.int .i64 0,.string ⟨#[]⟩,.string ⟨#[]⟩] 176));go_enter func61,ntmps61;go_wp2;go_loopw[5,9]λ_ i wr=>∃k:Nat,k<=q.size/\i=.int .i64 k/\bG wr w.heap.size (Gi (E q) k).st (Gi (E q) k)/\Q w wr/\(∀j,j<=k->2<=(M (E q) j).st)λ_ i _=>q.size-(intOf i).toNat;case atStart=>refine⟨0,aT _,rfl,K.o,J.o,λj v=>?_⟩;have C:j=0:=om;subst C;simp[M,g0]
 case round=>
  obtain⟨k,hk,rfl,L,hF,s⟩:=hrel;have B:=Z L;have z:=Z hF;have c:=Z s;clear L hF s K J;by_cases F:k<q.size
  .have p:=dY F;have o:norm (dc (Gi (E q) k) (bt (E q) k))=M (E q) (k+1):=Wf (E q) (k+1) (by rw[ak];omega) (λj v=>by
    by_cases e:j=k+1;.exact I e
    exact Y (c.o j om));have a:Hid ((dc (Gi (E q) k) (bt (E q) k)).st=(M (E q) (k+1)).st):=by unfold Hid;rw[<-o];rfl
   have g:=Z p;clear o p;go_wp2_with fail;refine(We B.o (Lr (E q) k) q[k].toNat (UInt8.toNat_lt _)).mono ?_;rintro r H⟨x,rfl,b⟩;rw[<-g.o];rw[<-g.o]at b;have W:=Z b;have z0:=b.m.fz 0;have q0:=b.m.c0;have P:Hid (bG (H.setCell (aD w.heap.size 0) (.int .i64 (dc (Gi (E q) k) (bt (E q) k)).st)) w.heap.size (Gi (E q) (k+1)).st (Gi (E q) (k+1))):=b.m.Li _;have f:=Z ((z.o.new b.f λi hi e=>by unfold PB at e;omega).setCell (aD w.heap.size 0) (I lr) (.int .i64 (dc (Gi (E q) k) (bt (E q) k)).st));have T:=b.m.lt;clear b;by_cases d:(M (E q) (k+1)).st=0;.have A:Hid (Ig (E q) 2 k):=⟨c.o k lr,by rw[d],by rw[ak];omega,om⟩;rw[a.o,d];rw[a.o,d]at f;clear d;go_wp2;go_ret2;exact⟨f.o,Y ⟨2,k,A.o,rfl⟩⟩
   by_cases n:(M (E q) (k+1)).st=1;.have A:Hid (Ig (E q) 3 k):=⟨c.o k lr,by rw[n],by rw[ak];omega,om⟩;rw[a.o,n];rw[a.o,n]at f;clear d n;go_wp2;go_ret2;exact⟨f.o,Y ⟨3,k,A.o,rfl⟩⟩
   have d0:(((dc (Gi (E q) k) (bt (E q) k)).st:Int)==0)=false:=by rw[iw,a.o];omega
   have d1:(((dc (Gi (E q) k) (bt (E q) k)).st:Int)==1)=false:=by rw[iw,a.o];omega
   have N:Hid (∀j,j<=k+1->2<=(M (E q) j).st):=λj v=>by
    by_cases e:j=k+1;.subst e;omega
    exact c.o j om
   have U:Hid (Gi (E q) (k+1)=dc (Gi (E q) k) (bt (E q) k)):=rfl;generalize(dc (Gi (E q) k) (bt (E q) k)).st=R at*;clear d n;go_wp2;go_roundw;case rel=>exact⟨k+1,om,by go_num,P.o,f.o,N.o⟩
   case measure=>simp[intOf];omega
  have D:k=q.size:=om;subst D;have S:norm (Gi (E q) q.size)=M (E q) q.size:=Wf (E q) q.size (by rw[ak];exact aP _) λj v=>Y (c.o j v);have t:dR (Gi (E q) q.size)=dR (M (E q) q.size):=by grind[Gi,E,dR,Tr.norm]
  have u:M (E q) (q.size+1)=if dR (M (E q) q.size)=true then⟨26,0,0,[],[]⟩else⟨0,0,0,[],[]⟩:=by show nx (M (E q) q.size) (bt (E q) q.size)=_;rw[jC (by rw[ak];exact aP _)];have:=c.o q.size lr;exact j5 _ om
  have l:=Z t;have m:=Z u;clear S t u;cases y:dR (M (E q) q.size);.have h:=Z y;clear y;go_wp2_with fail;refine(yT B.o).mono ?_;rintro r H⟨rfl,G,rfl⟩;rw[l.o,h.o];go_wp2;go_ret2;refine⟨z.o.drewN G,Y ⟨2,q.size,⟨c.o _ lr,?_,by rw[ak];exact aP _,om⟩,rfl⟩⟩;rw[m.o,h.o];rfl
  have h:=Z y;clear y;go_wp2_with fail;refine(yT B.o).mono ?_;rintro r H⟨rfl,G,rfl⟩;rw[l.o,h.o];go_wp2;go_ret2;refine⟨z.o.drewN G,I ⟨?_,rfl⟩⟩;unfold Fin;rw[ak,m.o,h.o];rfl
theorem qq(s p:ByteArray):Calls prog 157 #[.string s,.string p] w λr a=>r=.returned (.bool ((E p).isPrefixOf (E s)))/\a=w:=by
 have e:(decide (p.size<=s.size)&&((E s).take p.size==E p))=(E p).isPrefixOf (E s):=by rw[<-ak p,<-ak s];exact Lib.hasPrefix_of_take (E s) (E p)
 rw[<-e];clear e;go_enter func157,ntmps157;go_wp2;.rename_i h;go_ret;refine⟨?_,rfl⟩;show Ending.returned (Value.bool ((s.extract 0 p.size).toList==p.toList))=_;rw[Lib.extract_toList,Lib.toList_data];simp[h,E]
 rename_i h;go_ret;refine⟨?_,rfl⟩;show Ending.returned (Value.bool false)=_;simp[h]
theorem iV(s p:ByteArray):Calls prog 113 #[.string s,.string p] w λr a=>r=.returned (.bool ((E p).isPrefixOf (E s)))/\a=w:=by go_enter func113,ntmps113;go_wp2_with fail;refine(qq _ _).mono ?_;rintro r a⟨rfl,rfl⟩;go_wp2;go_ret;exact⟨rfl,rfl⟩
def Qr(q:ByteArray)(a:Nat)(p v:Value)(n:Nat):Array Value:=#[.string q,.int .i64 (a:Nat),p,v,.int .i64 (n:Nat)]
def tk(q:ByteArray)(a:Nat)(b:ByteArray):Bool:=(E b).isPrefixOf ((E q).drop a)
theorem aac(h:tk q n s=true)(a:n<=q.size):n+s.size<=q.size:=by grind[ak,tk]
theorem rW(q:ByteArray)(a:Nat)(b:ByteArray):(E b).isPrefixOf (E (q.extract a q.size))=tk q a b:=by
 unfold tk;have:E (q.extract a q.size)=(E q).drop a:=by have e:=Lib.extract_toList q a q.size;rw[Lib.toList_data]at e;unfold E;rw[e,gv si]
 rw[this]
structure Qt(g:Nat)(q:ByteArray)(p v:Value)(n:Nat)(w:World)(a:Nat)(w':World):Prop where
 b:V w' g (Qr q a p v n) 141
 f:Fr (λk=>k=g) w w'
 le:a<=q.size
variable{b c t z:Value}
theorem Qt.drewN(h:Qt n q b c k w i v)(a:Nat):Qt n q b c k w i (v.drewN a):=⟨h.b,h.f.drewN a,h.le⟩
theorem Qt.at_{a:Nat}{k:Nat}(h:Qt n q b c a w i v)(d:k<=q.size):Qt n q b c a w k (v.setCell (aD n 1) (.int .i64 (k:Nat))):=⟨h.b.set 1 _,h.f.setCell _ (Y rfl) _,d⟩
theorem mq(h:Qt n q b c i w k v)(o:q.size<=1000)(a:ByteArray):Calls prog 85 #[pT n,.string a] v λr j=>r=.returned (.bool (tk q k a))/\Qt n q b c i w (if tk q k a then k+a.size else k) j:=by
 have H:=Z h;have c0:v.cell? (aD n 0)=some (.string q):=h.b.cell 0;have c1:v.cell? (aD n 1)=some (.int .i64 (k:Nat)):=h.b.cell 1;have f1:=h.b.fz 1;have m:(k:Int)<=(q.size:Int):=by have:=h.le;omega
 have e:Hid (tk q k a=true->k+a.size<=q.size):=λx=>aac x h.le;clear h;by_cases d:tk q k a=true;.have g:k+a.size<=q.size:=e.o d;rw[d,ae rfl];clear e;go_enter func85,ntmps85;go_wp2_with fail;go_quiet((go_at_call 113;exact Calls.quiet_of_same (iV _ _)));rw[rW,d];have f:Hid (Qt n q b c i w k (v.drewN nq)):=H.o.drewN nq;clear H c0 c1 f1;generalize v.drewN nq=l at*;have c1:l.cell? (aD n 1)=some (.int .i64 (k:Nat)):=f.o.b.cell 1;have f1:=f.o.b.fz 1;go_wp2;go_ret;exact⟨rfl,f.o.at_ g⟩
 have d:tk q k a=false:=by simpa using d
 rw[d];go_enter func85,ntmps85;go_wp2_with fail;go_quiet((go_at_call 113;exact Calls.quiet_of_same (iV _ _)));rw[rW,d];go_wp2;go_ret;exact⟨rfl,H.o.b,H.o.f.drewN _,H.o.le⟩
theorem GA(c:Nat):(((bL c:Nat):Int)==1)=isLet c:=by grind[bL]
theorem GB(c:Nat):((((bL c:Nat):Int)==2)||(((bL c:Nat):Int)==3))=O c:=by grind[O,isLet,bL]
theorem GC(c:Nat):(!(((bL c:Nat):Int)==0))=aR c:=by grind(splits:=30)[O,isLet,aR,bL]
theorem Bn(c:Nat)(b:c<256):Calls prog 193 #[.int .u8 (c:Int)] w λr a=>r=.returned (.bool (isLet c))/\a=w:=by rw[<-GA];go_enter func193,ntmps193;go_wp2_with fail;refine(dN c b).mono ?_;rintro r a⟨rfl,rfl⟩;go_wp2;go_ret;exact⟨rfl,rfl⟩
theorem Bo(c:Nat)(b:c<256):Calls prog 195 #[.int .u8 (c:Int)] w λr a=>r=.returned (.bool (aR c))/\a=w:=by rw[<-GC];go_enter func195,ntmps195;go_wp2_with fail;refine(dN c b).mono ?_;rintro r a⟨rfl,rfl⟩;go_wp2;go_ret;exact⟨rfl,rfl⟩
theorem Bq(c k:Nat)(b:∀w:World,Calls prog 147 #[.int .u8 (c:Int)] w λr a=>r=.returned (.int .i64 (k:Nat))/\a=w)(d:k≠2):Calls prog 194 #[.int .u8 (c:Int)] w λr a=>r=.returned (.bool ((((k:Nat):Int)==2)||(((k:Nat):Int)==3)))/\a=w:=by have H:=Z b;have e:¬((k:Nat):Int)=2:=om;clear b d;go_enter func194,ntmps194;go_wp2_with fail;refine(H.o _).mono ?_;rintro r a⟨rfl,rfl⟩;go_wp2_with fail;refine(H.o _).mono ?_;rintro r a⟨rfl,rfl⟩;go_wp2;go_ret;exact⟨rfl,rfl⟩
theorem Br(c:Nat)(b:∀w:World,Calls prog 147 #[.int .u8 (c:Int)] w λr a=>r=.returned (.int .i64 2)/\a=w):Calls prog 194 #[.int .u8 (c:Int)] w λr a=>r=.returned (.bool true)/\a=w:=by have H:=Z b;clear b;go_enter func194,ntmps194;go_wp2_with fail;refine(H.o _).mono ?_;rintro r a⟨rfl,rfl⟩;go_wp2;go_ret;exact⟨rfl,rfl⟩
theorem GG(c:Nat)(a:c<256):Calls prog 194 #[.int .u8 (c:Int)] w λr b=>r=.returned (.bool (O c))/\b=w:=by
 rw[<-GB];by_cases h:bL c=2;.rw[h];grind[dN,Br]
 exact Bq c (bL c) (λw=>dN c a) h
def mA(g:Nat)(w:World):Nat:=match w.cell? ⟨g,1,none⟩with|some (.int _ n)=>n.toNat|_=>0
theorem Qt.mA(h:Qt n q b c k w i v):mA n v=i:=by have c1:v.cell? ⟨n,1,none⟩=some (.int .i64 (i:Nat)):=h.b.cell 1;simp[Go.Proofs.YtcbadebjpogmlaaGreatDoor.mA,c1]
theorem vi(h:n<q.size):bt (E q) n=(q[n]).toNat:=by
 have e:(E q)[n]?=some q[n]:=by unfold E;rw[fB (by simpa using h)];rfl
 unfold bt;rw[e]
structure dU(ok:Nat->Bool)(q:ByteArray)(a k:Nat):Prop where
 ge:a<=k
 le:k<=q.size
 all:∀i,a<=i->i<k->ok (bt (E q) i)=true
 stop:k<q.size->ok (bt (E q) k)=false
theorem C_{l:Nat->Bool}{N:FuncId}(u:(N=193/\l=isLet)\/(N=194/\l=O)\/(N=195/\l=aR))(h:Qt n q b c i w k v)(W:q.size<=1000):Calls prog 204 #[.pointer (some ⟨n,0,none⟩),.func (.func N) #[] #[]] v λr t=>∃f,dU l q k f/\r=.returned (.string (q.extract k f))/\Qt n q b c i w f t:=by
 have S:Hid (∀(a:Nat),a<256->∀t:World,Calls prog N #[.int .u8 (a:Int)] t λr U=>r=.returned (.bool (l a))/\U=t):=λa A t=>by rcases u with⟨rfl,rfl⟩|⟨rfl,rfl⟩|⟨rfl,rfl⟩<;>first|exact Bn _ A|exact GG _ A|exact Bo _ A
 replace u:N=193\/N=194\/N=195:=by rcases u with y|y|y<;>simp[y.1]
 rcases u with rfl|rfl|rfl;all_goals
  have H:=Z h;have c0:v.cell? ⟨n,0,none⟩=some (.string q):=h.b.cell 0;have c1:v.cell? ⟨n,1,none⟩=some (.int .i64 (k:Nat)):=h.b.cell 1;have B:=h.le;clear h;go_enter func204,ntmps204;go_wp2;go_loopw[10]λ_ wr=>∃f:Nat,k<=f/\f<=q.size/\(∀d,k<=d->d<f->l (bt (E q) d)=true)/\Qt n q b c i w f wrλ_ wr=>q.size-mA n wr;case atStart=>exact⟨k,aP _,B,λd J R=>by omega,H.o⟩
  case round=>
   obtain⟨f,p,s,g,K⟩:=hrel;have x:=Z g;have m:=Z K;clear g K c0 c1 H;have c0:wr.cell? ⟨n,0,none⟩=some (.string q):=m.o.b.cell 0;have c1:wr.cell? ⟨n,1,none⟩=some (.int .i64 (f:Nat)):=m.o.b.cell 1;have f1:=m.o.b.fz 1;by_cases C:f<q.size
   .have F:=Z (S.o _ (q[f]).toNat_lt);have G:=vi C;go_wp2_with fail;go_quiet(((first|go_at_call 193|go_at_call 194|go_at_call 195);exact Calls.quiet_of_same (F.o _)));have o:Hid (Qt n q b c i w f (wr.drewN nq)):=m.o.drewN nq;rw[<-G];have L:=Z m.o.mA;clear m c0 c1 f1 G F;generalize wr.drewN nq=D at*;have c0:D.cell? ⟨n,0,none⟩=some (.string q):=o.o.b.cell 0;have c1:D.cell? ⟨n,1,none⟩=some (.int .i64 (f:Nat)):=o.o.b.cell 1;have f1:=o.o.b.fz 1;by_cases j:l (bt (E q) f)=true
    .have z:=Z j;rw[j];clear j;go_wp2;go_roundw;case rel=>
      exact⟨f+1,om,om,λd J R=>by
       by_cases e:d=f;.subst e;exact z.o
       exact x.o d J om,o.o.at_ (k:=f+1) om⟩
     case measure=>have M:mA n wr=f:=L.o;have P:mA n (D.setCell ⟨n,1,none⟩ (.int .i64 ((f+1:Nat):Int)))=f+1:=(o.o.at_ (k:=f+1) om).mA;rw[M];simp at P⊢;omega
    have j:l (bt (E q) f)=false:=by simpa using j
    have z:=Z j;rw[j];clear j;go_wp2;go_quiet(fail);go_wp2;go_ret;exact⟨f,⟨p,s,x.o,λ_=>z.o⟩,rfl,o.o.drewN _⟩
   have T:f=q.size:=om;subst T;go_wp2_with fail;go_quiet(fail);go_wp2;go_quiet(fail);go_wp2;go_ret;exact⟨q.size,⟨p,s,x.o,λh=>absurd h (tY _)⟩,rfl,(m.o.drewN _).drewN _⟩
theorem xP(h:Qt n q b c i w k v)(j:q.size<=1000):Calls prog 241 #[pT n] v λr m=>∃a,dU aR q k a/\r=.returned (.string (q.extract k a))/\Qt n q b c i w (if tk q a ⟨#[39]⟩then a+1 else a) m:=by have H:=Z h;clear h;go_enter func241,ntmps241;go_wp2_with fail;refine(C_ (I (I ⟨rfl,rfl⟩)) H.o j).mono ?_;rintro r o⟨a,g,rfl,e⟩;have d:=Z e;have HK:=Z g;clear e g H;go_wp2_with fail;refine(mq d.o j _).mono ?_;rintro r p⟨rfl,f⟩;have l:=Z f;clear f d;go_wp2;go_ret;exact⟨a,HK.o,rfl,l.o⟩
theorem sizeBuilder:(prog.info? 112).map (·.size)=some 2:=by kernel_rfl
theorem liesBuilder:liesAt prog prog.depth 141 (5/prog.cellsOf 141) 2 112 1=true:=by kernel_rfl
theorem infoByte:(prog.info? 5).map (λi=>(i.zero,i.size,i.bytes))=some (some (.int .u8 0),1,1):=by kernel_rfl
def Own(g:Nat)(p:Value):Prop:=p=.pointer none\/p=.pointer (some (aD g 2))
theorem pA(h:V w n (Qr q k (.pointer (some (aD n 2))) b i) 141):Calls prog 114 #[.pointer (some (aD n 2))] w λr c=>r=.returned (.tuple #[])/\c=w:=by obtain⟨j,a,_⟩:=Option.map_eq_some_iff.1 sizeBuilder;have c2:w.cell? (aD n 2)=some (.pointer (some (aD n 2))):=h.cell 2;clear h;go_enter func114,ntmps114;go_wp2;rw[Lib.run_neq_ptr_same w _ underlying109 a];go_wp2;go_end0;exact⟨rfl,rfl⟩
theorem ot(h:V w n (Qr q k (.pointer none) b i) 141):Calls prog 114 #[.pointer (some (aD n 2))] w λr e=>r=.returned (.tuple #[])/\e=w.setCell (aD n 2) (.pointer (some (aD n 2))):=by
 obtain⟨j,d,c⟩:=Option.map_eq_some_iff.1 sizeBuilder;have c2:w.cell? (aD n 2)=some (.pointer none):=h.cell 2;have f2:=h.fz 2;have a:w.shape? n=some (141,5):=by unfold V at h;simp[World.shape?,h,Qr]
 clear h;go_enter func114,ntmps114;go_wp2;rw[Lib.run_to_unsafe w (aD n 2) underlying109 underlying234 d (by rw[c];decide) a (by show 2<5;decide)];simp only[Result.andThen];rw[Oper.upon_value];go_wp2;rw[run_callFunc_extern func158 (by kernel_rfl) (by kernel_rfl) (by kernel_rfl) (e:=Extern.AbiNoEscape.same) (by kernel_rfl)];rw[Lib.run_noEscape];simp only[Result.andThen];rw[Oper.upon_value];go_wp2;rw[Lib.run_from_unsafe w (aD n 2) underlying234 underlying109 d a liesBuilder];simp only[Result.andThen];rw[Oper.upon_value];go_wp2;go_end0;exact⟨rfl,rfl⟩
theorem yX(h:V w n (Qr q k b c i) 141)(e:Own n b):Calls prog 114 #[.pointer (some (aD n 2))] w λr d=>r=.returned (.tuple #[])/\V d n (Qr q k (.pointer (some (aD n 2))) c i) 141/\Fr (λa=>a=n) w d:=by
 rcases e with rfl|rfl;.refine(ot h).mono ?_;rintro r d⟨rfl,rfl⟩;exact⟨rfl,h.set 2 _,(Fr.refl (λa=>a=n) w).setCell (aD n 2) (Y rfl) _⟩
 refine(pA h).mono ?_;grind[Fr.refl]
def KG(g:Nat)(v:Value):Nat->Prop:=λk=>k=g\/v.ownBlock=some k
structure Mk(g:Nat)(q:ByteArray)(a:Nat)(t:List UInt8)(n:Nat)(p v:Value)(w:World):Prop where
 b:V w g (Qr q a p v n) 141
 o:Own g p
 row:w.ownsRow (g+1) 5 1 v t.length (Lib.byteCells t)le:a<=q.size
variable{p:List Value}
theorem wj(h:w.ownsRow n k 1 b i p):∃d a,b=.slice d i a:=by
 rcases h.2 with⟨c,f⟩|⟨g,a,e,c,_⟩;.grind
 exact⟨_,_,c⟩
variable{o r:List UInt8}
theorem n_(h:Mk n q k o i b c w)(s:ByteArray)(F:o.length+s.size<=1000000):Calls prog 86 #[.pointer (some (aD n 2)),.string s] w λr J=>r=.returned (.tuple #[.int .i64 s.size,.nilIface])/\∃p' G,Mk n q k (o++E s) i p' G J/\Fr (KG n c) w J:=by
 obtain⟨i0,D,l,m,p⟩:=info_parts infoByte;have H:=Z h;have M:=Z D;have v:=Z l;have x:=Z m;have y:=Z p;clear h D l m p;go_enter func86,ntmps86;go_wp2_with fail;refine(yX H.o.b H.o.o).mono ?_;rintro r B⟨rfl,z,f1⟩;have hg:=H.o.b.lt;have j:∀a,c.ownBlock=some a->n+1<=a/\a<w.heap.size:=λa g=>H.o.row.lt a g;have N:Hid (B.ownsRow (n+1) 5 1 c o.length (Lib.byteCells o)):=aS H.o.row f1 (λa g e=>by omega);have C:=Z z;have K:=Z f1;have hs1:=f1.size;have c3:B.cell? (aD n 3)=some c:=z.cell 3;clear z f1;go_wp2_with(at_builtin;refine Lib.wpList_append_own_string _ rfl _ _ 110 9 rfl (n+1) 5 i0 underlying110 underlying9 M.o v.o x.o y.o _ _ _ rfl N.o s rfl ?c3 ?c4 ?c5 ?_);case c3=>unfold maxLen;omega
 case c4=>omega
 case c5=>omega
 intro G t f d _;have u:Hid (V t n (Qr q k (.pointer (some (aD n 2))) c i) 141):=(d.block n C.o.lt λe=>by have:=j n e.symm;omega).trans C.o;have T:t.cell? (aD n 3)=some c:=u.o.cell 3;have f3:=u.o.fz 3;have L:Hid (Fr (KG n c) w t):=(K.o.mono λa _ e=>Y e).trans (Fr.grown (Fr.refl (KG n c) B) d λa g=>I (I g));obtain⟨S,A,rfl⟩:=wj f;have P:=Z f;clear f d c3 j;go_wp2;go_ret2;refine⟨rfl,.pointer (some (aD n 2)),.slice S (o.length+s.size) A,⟨u.o.set 3 _,I rfl,?_,H.o.le⟩,L.o.setCell (aD n 3) (Y (Y rfl)) _⟩;have U:o.length+s.size=(o++E s).length:=by rw[cG,ak]
 have W:Lib.byteCells o++Lib.strCells s=Lib.byteCells (o++E s):=by rw[Lib.byteCells_append];rfl
 have R:=P.o;rw[W]at R;rw[U]at R⊢;exact aS R ((Fr.refl (λa=>a=n) t).setCell (aD n 3) (Y rfl) _) λa g e=>by omega
variable{j:Nat->Prop}
theorem Fr.freeze(h:Fr j w v)(p:Addr)(c:j p.block)(n:Nat):Fr j w (v.freeze p n):=by
 refine h.trans ?_;unfold World.freeze;split;.exact Fr.refl j v
 exact⟨rfl,rfl,rfl,si,λk b a=>by grind⟩
theorem cellsByte:prog.cellsOf 5=1:=by kernel_rfl
theorem K_(h:Mk n q k o i b c w)(m:o≠[]):Calls prog 88 #[.pointer (some (aD n 2))] w λr J=>r=.returned (.string ⟨o.toArray⟩)/\Fr (λd=>c.ownBlock=some d) w J:=by
 have g:=h.row;have v:o.length≠0:=by simpa using m
 obtain⟨d,e,f,rfl,C,z,D,s,t,l⟩:∃d e f,c=.slice (sA d) o.length e/\n+1<=d/\w.heap[d]?=some (.cells f 5 (0,0))/\o.length<=e/\e<=maxLen/\f.size=e*1/\f.toList.take (o.length*1)=Lib.byteCells o:=by
  rcases g.2 with⟨_,H⟩|⟨d,e,f,F,r⟩;.exact absurd H v
  exact⟨d,e,f,F,r⟩
 have c3:w.drew.cell? (aD n 3)=some (.slice (sA d) o.length e):=h.b.cell 3;have A:(Builtin.unsafeSliceData_ #[110] 209 #[.slice (sA d) o.length e]).run prog w.drew=.ok (pT d) w.drew:=Lib.run_unsafeSliceData_row _ _ _ _ _ _ om;have B:(Builtin.unsafeString_ #[209,3] 9 #[pT d,.int .i64 o.length]).run prog w.drew=.ok (.string ⟨o.toArray⟩) (w.drew.freeze (aD d 0) o.length):=by refine Lib.run_unsafeString_row w.drew 209 3 9 5 underlying209 cellsByte d f.size (by have u:w.drew.heap[d]?=some (.cells f 5 (0,0)):=z;simp[World.shape?,u]) o m om (by unfold maxLen at s;omega) ?_;intro j x G;exact g.cells (g:=d) rfl j (.int .u8 x.toNat) (by simp[Lib.byteCells,G])
 have p:Hid (Fr (λa=>(Value.slice (sA d) o.length e).ownBlock=some a) w (w.drew.freeze (aD d 0) o.length)):=(Fr.refl (λa=>(Value.slice (sA d) o.length e).ownBlock=some a) w).drew.freeze (aD d 0) rfl _;have y:prog.follows Departure.mixedOrders=true:=by kernel_rfl
 clear h g z l t m;go_enter func88,ntmps88;go_wp2;go_region_o;all_goals(go_wp2;go_ret;exact⟨rfl,p.o⟩)
def gr(d:jt):Nat:=if d.kind=1 then 3 else if d.kind=2 then 4 else if d.kind=3 then(if d.s=iS then 2 else if d.s=fP then 1 else 0)else if d.kind=4 then 5 else 6
def jX(d:jt):List UInt8:=if d.kind=2 then d.s.take 9 else[]
def bR(l:List UInt8):ByteArray:=⟨l.toArray⟩
theorem lQ(l:List UInt8):E (bR l)=l:=by simp[E,bR]
def kF(d:jt)(a:Value)(b:Nat)(c:Value):Array Value:=#[.int .i64 (gr d:Nat),.int .i64 (d.af:Nat),.int .i64 (d.to:Nat),.int .i64 d.n,.string (bR (jX d)),a,.int .i64 (b:Nat),.string (bR d.name),c]
def jf(A:Nat->Nat)(t:Tv):Value:=(pT (A t.d.af))
structure I6(d:jt):Prop where
 k:d.kind=1\/d.kind=2\/d.kind=3\/d.kind=4\/d.kind=5
 w:d.kind=3->d.s=iS\/d.s=fP\/d.s=mM
 s:d.kind=1->d.s=[]n:d.kind=2\/d.kind=3->d.n=0
def PT(w:World)(A:Nat->Nat)(D:Nat->Prop):Nat->Value->Nat->Tv->Prop|0,_,_,_=>False|n+1,a,b,t=>D (A t.d.af)/\I6 t.d/\t.ws.length<=4000000/\(∃sv,V w (A t.d.af) (kF t.d a b sv) 130/\(∀k,sv.ownBlock=some k->D k)/\w.ownsRow 0 71 1 sv t.ws.length (t.ws.map (jf A)))/\∀i(h:i<t.ws.length),PT w A D n (jf A t) i (t.ws[i])
theorem aQ{w':World}{e:TypeId}(h:w.ownsRow n e k b i p)(m:∀a,b.ownBlock=some a->w'.heap[a]?=w.heap[a]?):w'.ownsRow n e k b i p:=by
 refine⟨h.1,?_⟩;rcases h.2 with x|⟨a,c,d,f,g,j,l⟩;.exact Y x
 exact I ⟨a,c,d,f,g,(m a (by rw[f];rfl)).trans j,l⟩
variable{f:Nat->Nat}
theorem PT.keep{w w':World}{D:Nat->Prop}(b:∀k,D k->w'.heap[k]?=w.heap[k]?):∀(n:Nat)(a:Value)(e:Nat)(t:Tv),PT w f D n a e t->PT w' f D n a e t|0,_,_,_,h=>h|n+1,_,_,_,⟨c,m,q,⟨sv,g,d,j⟩,l⟩=>⟨c,m,q,⟨sv,(b _ c).trans g,d,aQ j λk p=>b k (d k p)⟩,λi o=>PT.keep b n _ i _ (l i o)⟩
structure PC(w:World)(A:Nat->Nat)(t:Tv)(par:Value)(ix:Nat)(sv:Value):Prop where
 b:V w (A t.d.af) (kF t.d par ix sv) 130
 o:w.ownsRow 0 71 1 sv t.ws.length (t.ws.map (jf A))d:I6 t.d
 l:t.ws.length<=4000000
variable{g:Tv}
theorem PT.pc(h:PT w f j n b k g):∃sv,PC w f g b k sv:=by cases n with|zero=>exact absurd h id|succ n=>obtain⟨_,d,e,⟨sv,a,_,c⟩,_⟩:=h;exact⟨sv,a,c,d,e⟩
theorem PT.Bt(h:PT w f j n b k g)(a:i<g.ws.length):PT w f j (n-1) (jf f g) i (g.ws[i]):=by cases n with|zero=>exact absurd h id|succ n=>exact h.2.2.2.2 i a
theorem PC.at_(h:PC w f g b n c){k:Nat}(l:k<g.ws.length):∃a d,c=.slice (sA a) g.ws.length d/\w.cell? (aD a k)=some (.pointer (some ⟨f (g.ws[k]).d.af,0,none⟩)):=by obtain⟨a,d,i,_,j⟩:=h.o.form om;refine⟨a,d,i,?_⟩;have e:=h.o;rw[i]at e;have:=e.cellAt k om;rw[this];simp[jf,l]
def jo(A:Nat->Nat)(o:Option Tv):Value:=match o with|none=>.pointer none|some t=>jf A t
theorem fi(w:World)(a b:Nat):(w.drewN a).drewN b=w.drewN (a+b):=by induction b with|zero=>rfl|succ b c=>first|(show((w.drewN a).drewN b).drew=(w.drewN (a+b)).drew;rw[c])|simp[World.drewN,Nat.add_assoc]
theorem yY{b:Nat}(h:n≠b):((n:Int)==(b:Int))=false:=dH
theorem Wh(h:E q≠E s):(q.toList==s.toList)=false:=by rw[iw];intro e;apply h;rw[Lib.toList_data,Lib.toList_data]at e;exact e
theorem Ls(h:E q=E s):(q.toList==s.toList)=true:=by rw[Dd,Lib.toList_data,Lib.toList_data];exact h
variable{l:jt}
theorem qo(h:I6 l):(gr l=6↔l.kind=5)/\(gr l=5↔l.kind=4)/\(gr l=4↔l.kind=2)/\(gr l=3↔l.kind=1):=by unfold gr;rcases h.k with e|e|e|e|e<;>rw[e]<;>simp;grind
theorem Lt(h:PT w f j n b k g)(l:ByteArray):Calls prog 297 #[(pT (f g.d.af)),.string l] w λr S=>r=.returned (jo f (bj g ⟨true,E l,0⟩ g.ws.length))/\∃d,S=w.drewN d:=by
 obtain⟨sv,p⟩:=h.pc;have J:=Z h;have H:=Z p;have c0:w.cell? (aD (f g.d.af) 0)=some (.int .i64 (gr g.d:Nat)):=p.b.cell 0;have T:w.cell? (aD (f g.d.af) 8)=some sv:=p.b.cell 8;have W:=p.l;have y:=(qo p.d).1;obtain⟨v0,R,rfl⟩:=X p.o;unfold bj;simp only[if_true];by_cases t:g.d.kind=5
 .rw[ae t,bX];have A:gr g.d=6:=y.2 t;rw[A]at c0;have K:w.cell? (aD (f g.d.af) 0)=some (.int .i64 6):=c0;clear c0 A y t h p;go_enter func297,ntmps297;go_wp2;go_loopw[6,17]λ_ i wr=>∃d q:Nat,d<=g.ws.length/\i=.int .i64 d/\(g.ws.take d).find? λc=>c.d.name==E l=none/\wr=w.drewN qλ_ i _=>g.ws.length-(intOf i).toNat;case atStart=>exact⟨0,0,aT _,rfl,rfl,rfl⟩
  case round=>
   obtain⟨d,q,y,rfl,F,rfl⟩:=hrel;have z:=Z F;clear F;by_cases o:d<g.ws.length
   .have C:(d:Int)<(g.ws.length:Int):=om;obtain⟨a,L,G,B⟩:=H.o.at_ o;simp only[Value.slice.injEq,true_and]at G;obtain⟨rfl,rfl⟩:=G;have s:=J.o.Bt o;obtain⟨P,x⟩:=s.pc;have d7:w.cell? ⟨f (g.ws[d]).d.af,7,none⟩=some (.string (bR (g.ws[d]).d.name)):=x.b.cell 7;have D:Hid (∀c,c=g.ws[d]->(c.d.name≠E l->(g.ws.take (d+1)).find? λc=>c.d.name==E l=none)/\(c.d.name=E l->g.ws.find? λc=>c.d.name==E l=some c)):=by
     rintro c rfl;refine⟨λe=>?_,λe=>?_⟩;.rw[eC o,List.find?_append,z.o];simp[e]
     have M:=gV (List.find? λc:Tv=>c.d.name==E l) (iU d g.ws).symm;rw[M,List.find?_append,z.o,List.drop_eq_getElem_cons o,List.find?_cons_of_pos (by simp[e])];rfl
    have m:=Z (D.o _ rfl);clear D s x;generalize g.ws[d]=c at*;by_cases u:c.d.name=E l;.have N:((bR c.d.name).toList==l.toList)=true:=Ls (by rw[lQ];exact u);have v:=Z (m.o.2 u);clear u m;go_wp2;go_ret;exact⟨by rw[v.o];rfl,q,rfl⟩
    have N:((bR c.d.name).toList==l.toList)=false:=Wh (by rw[lQ];exact u);have v:=Z (m.o.1 u);clear u m;go_wp2;go_roundw;case rel=>exact⟨d+1,q,om,by go_num,v.o,rfl⟩
    case measure=>simp[intOf];omega
   have C:¬(d:Int)<(g.ws.length:Int):=om;have e:g.ws.take d=g.ws:=gv om;have v:Hid (g.ws.find? λc=>c.d.name==E l=none):=by rw[<-e];exact z.o
   clear z e;go_wp2;go_ret;exact⟨by rw[v.o];rfl,q,rfl⟩
 rw[aa t];have A:gr g.d≠6:=λe=>t (y.1 e);have U:((gr g.d:Int)!=6)=true:=by rw[bne_iff_ne];omega
 clear y t h p A;generalize gr g.d=kk at*;go_enter func297,ntmps297;go_wp2;go_ret;exact⟨rfl,0,rfl⟩
theorem uJ(h:PT w f j n b k g)(i:Int):Calls prog 301 #[(pT (f g.d.af)),.int .i64 i] w λr D=>r=.returned (jo f (if g.d.kind=4 then idx g.ws i else none))/\∃d,D=w.drewN d:=by
 obtain⟨sv,l⟩:=h.pc;have z:=Z l;have c0:w.cell? (aD (f g.d.af) 0)=some (.int .i64 (gr g.d:Nat)):=l.b.cell 0;have F:w.cell? (aD (f g.d.af) 8)=some sv:=l.b.cell 8;have H:=l.l;have s:=(qo l.d).2.1;obtain⟨K,C,rfl⟩:=X l.o;by_cases m:g.d.kind=4;focus
  rw[ae m];have q:gr g.d=5:=s.2 m;rw[q]at c0;have A:w.cell? (aD (f g.d.af) 0)=some (.int .i64 5):=c0;clear c0 q s m h l;unfold idx;by_cases v:i<0;focus rw[ae v]
  rotate_left;focus
   rw[aa v];obtain⟨d,rfl⟩:∃d:Nat,i=d:=⟨i.toNat,om⟩;have o:((d:Int).toNat)=d:=om;rw[o];by_cases p:d<g.ws.length;focus have u:(d:Int)<(g.ws.length:Int):=om;obtain⟨a,B,y,t⟩:=z.o.at_ p;simp only[Value.slice.injEq,true_and]at y;obtain⟨rfl,rfl⟩:=y;rw[fB p];generalize g.ws[d]=c at*
   rotate_left;focus have u:¬(d:Int)<(g.ws.length:Int):=om;have x:(g.ws.length:Int)<=(d:Int):=om;rw[List.getElem?_eq_none om]
   all_goals clear o
 rotate_left 3;focus
  rw[aa m];have q:gr g.d≠5:=λe=>m (s.1 e);have G:((gr g.d:Int)!=5)=true:=by rw[bne_iff_ne];omega
  clear s m h l q;generalize gr g.d=J at*
 all_goals go_enter func301,ntmps301;go_wp2;go_ret;exact⟨rfl,0,rfl⟩
def dw(c:Kt):jt:=⟨c.k,c.n,c.t,[],[],0,0,-1⟩
structure ru(c:Kt):Prop where
 k:c.k=1\/c.k=2\/c.k=3
 w:c.k=3->c.t=iS\/c.t=fP\/c.t=mM
 s:c.k=1->c.t=[]n:c.k=2\/c.k=3->c.n=0
 l:c.t.length<=8
variable{m:Kt}
theorem ru.d(h:ru m):I6 (dw m):=⟨by rcases h.k with e|e|e<;>simp[dw,e],h.w,h.s,h.n⟩
theorem GH(h:r.length<=8):(o.take 9=r.take 9)↔o=r:=by
 rw[gv (l:=r) om];constructor
 .intro e;by_cases a:o.length<=9;.rwa[gv a]at e
  grind
 intro e;rw[e,gv om]
theorem uK:∀(n:Nat)(s c:List UInt8),c.length<n->ij (s.take n) c=ij s c|0,_,_,h=>absurd h (Nat.not_lt_zero _)|_+1,_,[],_=>by simp[ij]|_+1,[],_::_,_=>rfl|n+1,a::x,b::y,h=>by simp only[List.take_succ_cons,ij];rw[uK n x y (by simpa using h)]
theorem ou:∀(x y:List UInt8),Go.Op.bytesLess x y=ij x y|_,[]=>by simp[Go.Op.bytesLess,ij]|[],_::_=>rfl|a::x,b::y=>by simp[Go.Op.bytesLess,ij,ou x y]
theorem QA(c:I6 l)(a:ru m):(decide (l.kind<4)&&l.kind==m.k&&l.n==m.n&&l.s==m.t)=(if gr l=gr (dw m)then(if gr l=3 then l.n==m.n else if gr l=4 then decide (jX l=jX (dw m))else true)else false):=by
 have i:=qo c;have g:=qo a.d;have f:(dw m).kind=m.k:=rfl;rw[f]at g;rcases a.k with e|e|e
 .have d:gr (dw m)=3:=g.2.2.2.2 e;rw[d];by_cases h:l.kind=1;.have b:gr l=3:=i.2.2.2.2 h;rw[ae b,ae b];simp[h,e,c.s h,a.s e]
  grind
 .have d:gr (dw m)=4:=g.2.2.1.2 e;rw[d];by_cases h:l.kind=2
  .have b:gr l=4:=i.2.2.1.2 h;rw[ae b,aa om,ae b];have j:jX l=l.s.take 9:=by simp[jX,h]
   have k:jX (dw m)=m.t.take 9:=by simp[jX,dw,e]
   rw[j,k];rw[Bool.eq_iff_iff];simp[h,e,c.n (Or.inl h),a.n (Or.inl e),GH a.l]
  grind
 have d:gr (dw m)<3:=by grind(splits:=30)[dw,gr,jX,fP,iS]
 by_cases h:l.kind=3
 .have b:gr l<3:=by unfold gr;rw[h];simp;split<;>(try simp)<;>split<;>simp
  rw[aa (c:=gr l=3) om,aa (c:=gr l=4) om];have f1:gr l=if l.s=iS then 2 else if l.s=fP then 1 else 0:=by unfold gr;rw[h];simp
  have f2:gr (dw m)=if m.t=iS then 2 else if m.t=fP then 1 else 0:=by unfold gr;simp only[dw,e];rfl
  rw[f1,f2];rcases c.w h with x|x|x<;>rcases a.w e with y|y|y<;>rw[x,y]<;>simp[h,e,c.n (Or.inr h),a.n (Or.inr e)]<;>decide
 grind[dw,gr]
theorem QB(g:I6 l)(b:ru m):(l.kind==m.k&&((l.kind==1&&decide (l.n<m.n))||(l.kind==2&&ij l.s m.t)))=(if gr l=gr (dw m)then(if gr l=3 then decide (l.n<m.n)else if gr l=4 then ij (jX l) (jX (dw m))else false)else false):=by
 have i:=qo g;have d:=qo b.d;have c:(dw m).kind=m.k:=rfl;rw[c]at d;by_cases k:l.kind=1;.grind
 by_cases a:l.kind=2
 .have j:gr l=4:=i.2.2.1.2 a;rw[j];by_cases h:m.k=2
  .rw[d.2.2.1.2 h];have e:jX l=l.s.take 9:=by simp[jX,a]
   have f:jX (dw m)=m.t:=by simp[jX,dw,h];exact gv (by have:=b.l;omega)
   rw[e,f,uK 9 l.s m.t (by have:=b.l;omega)];simp[a,h]
  grind
 grind
theorem QC{o:Value}{v:Value}(h:PC w f g o n v){b:Nat}{c:Kt}(i:V w b (kF (dw c) z 0 t) 130)(p:ru c):Calls prog 292 #[(pT (f g.d.af)),pT b] w λr x=>r=.returned (.bool (ei c (some g)))/\∃k,x=w.drewN k:=by
 have a:ei c (some g)=_:=QA h.d p;rw[a];have c0:w.cell? (aD (f g.d.af) 0)=some (.int .i64 (gr g.d:Nat)):=h.b.cell 0;have c3:w.cell? (aD (f g.d.af) 3)=some (.int .i64 g.d.n):=h.b.cell 3;have c4:w.cell? (aD (f g.d.af) 4)=some (.string (bR (jX g.d))):=h.b.cell 4;have d0:w.cell? (aD b 0)=some (.int .i64 (gr (dw c):Nat)):=i.cell 0;have d3:w.cell? (aD b 3)=some (.int .i64 c.n):=i.cell 3;have d4:w.cell? (aD b 4)=some (.string (bR (jX (dw c)))):=i.cell 4;have d:Hid (((bR (jX g.d)).toList==(bR (jX (dw c))).toList)=decide (jX g.d=jX (dw c))):=by show _=_;grind[Wh,Ls,lQ,dw,jX]
 clear h i p a;generalize gr g.d=j at*;generalize gr (dw c)=q at*;generalize u:decide (jX g.d=jX (dw c))=y at*;generalize jX g.d=F at*;generalize jX (dw c)=G at*;generalize g.d.n=C at*;generalize c.n=D at*;clear u;by_cases e:j=q
 .subst e;rw[ae rfl];by_cases l:j=3;.subst l;clear d c4 d4;rw[ae rfl];go_enter func292,ntmps292;go_wp2;go_quiet(fail);go_wp2;go_quiet(fail);go_wp2;go_ret;exact⟨rfl,_,by rw[fi]⟩
  rw[aa l];have A:=yY l;by_cases m:j=4;.subst m;rw[ae rfl,<-d.o];clear d;go_enter func292,ntmps292;go_wp2;go_quiet(fail);go_wp2;go_quiet(fail);go_wp2;go_ret;exact⟨rfl,_,by rw[fi]⟩
  rw[aa m];have B:=yY m;clear d c4 d4 c3 d3;go_enter func292,ntmps292;go_wp2;go_quiet(fail);go_wp2;go_ret;exact⟨rfl,_,rfl⟩
 rw[aa e];have s:((j:Int)!=(q:Int))=true:=by rw[bne_iff_ne];omega
 clear d c4 d4 c3 d3;go_enter func292,ntmps292;go_wp2;go_quiet(fail);go_wp2;go_ret;exact⟨rfl,_,rfl⟩
