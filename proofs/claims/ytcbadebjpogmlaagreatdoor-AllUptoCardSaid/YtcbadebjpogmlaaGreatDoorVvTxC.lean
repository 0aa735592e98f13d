import Derived.Test.YtcbadebjpogmlaaGreatDoorVvHk
import Derived.Test.YtcbadebjpogmlaaGreatDoorVvRefF
import Derived.Test.YtcbadebjpogmlaaGreatDoorVvTxI
set_option maxHeartbeats 4000000
set_option maxRecDepth 100000
namespace Go.Proofs.YtcbadebjpogmlaaGreatDoor
open Go.RowKit Tr Go.Proofs.Tryz
abbrev sb(l:List UInt8):ByteArray:=⟨l.toArray⟩
theorem zE(l:List UInt8):E (sb l)=l:=by simp[E]
theorem zt(s:ByteArray):sb (E s)=s:=by simp[E]
theorem iN(l:List UInt8):(sb l).size=l.length:=by rw[<-ak,zE]
theorem ez(a b:List UInt8):sb a++sb b=sb (a++b):=by
 have:E (sb a++sb b)=E (sb (a++b)):=by rw[dI,zE,zE,zE]
 rw[<-zt (sb a++sb b),this,zt]
theorem uU(k:Nat)(h:k<10):(⟨#[48,49,50,51,52,53,54,55,56,57]⟩:ByteArray).extract k (k+1)=sb [UInt8.ofNat (48+k)]:=by rcases k with _|_|_|_|_|_|_|_|_|_|k;all_goals first|rfl|omega
theorem Hg:∀(n:Nat),n<=4000000->∀w:World,Calls prog 217 #[.int .i64 (n:Nat)] w λr d=>r=.returned (.string (sb (dec n)))/\∃k,d=w.drewN k:=by
 intro n;induction n using Nat.strongRecOn with|_ n a=>
  intro f w;by_cases h:n<10;.rw[oW h,<-uU n h];have c:(n:Int)<10:=om;go_enter func217,ntmps217;go_wp2;go_ret;exact⟨rfl,0,rfl⟩
  have c:¬(n:Int)<10:=om;rw[oV h,<-ez,<-uU (n%10) om];have b:=Z (a (n/10) om om);clear a;have e:=nU (n/10);have g:(sb (dec (n/10))).size<=400002:=by rw[iN];omega
  go_enter func217,ntmps217;go_wp2;go_quiet((go_at_call 217;exact Calls.quiet_of (b.o _)));go_wp2;go_ret;exact⟨rfl,_,rfl⟩
theorem sR(l:List UInt8):(l.flatMap hJ).length<=2*l.length:=by induction l with|nil=>simp|cons a l b=>grind[hJ]
theorem Ue(w:World)(c:Nat):(convert 110 9 (.slice (sA w.heap.size) 1 1)).run prog (w.alloc (.cells #[.int .u8 (c:Int)] 5))=.ok (.string (sb [UInt8.ofNat c])) (w.alloc (.cells #[.int .u8 (c:Int)] 5)):=by rw[run_convert_bytes_string _ _ _ _ _ _ _ underlying110 underlying5 underlying9];have a:(w.alloc (.cells #[.int .u8 (c:Int)] 5)).cell? (aD w.heap.size 0)=some (.int .u8 (c:Int)):=(V.new w #[.int .u8 (c:Int)] 5).cell 0;rw[run_bytesToString _ _ 1 1 [(c:Int)] (by simp[loadCells,a,go_sem])];simp;rfl
theorem ME(s:ByteArray)(k:Nat)(h:k<s.size):(E s)[k]?=some (s[k]'h):=by simp[E,ByteArray.getElem_eq_getElem_data]
theorem aeC(s:ByteArray)(k:Nat)(h:k<s.size):s.extract k (k+1)=sb [s[k]'h]:=by
 have b:E (s.extract k (k+1))=[s[k]'h]:=by rw[dD];unfold sub;have a:=ME s k h;rw[Nat.add_sub_cancel_left,List.take_one,List.head?_drop,a];rfl
 grind[zt]
theorem MG(s:ByteArray)(k:Nat)(h:k<s.size):((E s).take (k+1)).flatMap hJ=((E s).take k).flatMap hJ++hJ (s[k]'h):=by rw[List.take_add_one,ME s k h,iy];simp
theorem MH{w:World}{s:ByteArray}(F:s.size<=4000000):Calls prog 218 #[.string s] w λr C=>r=.returned (.string (sb (h_ (E s))))/\Below w.heap.size w C:=by
 go_enter func218,ntmps218;go_wp2;go_loopw[3,4]λo i wr=>∃k:Nat,k<=s.size/\i=.int .i64 k/\o=.string (sb (((E s).take k).flatMap hJ))/\Below w.heap.size w wrλ_ i _=>s.size-(intOf i).toNat;case atStart=>exact⟨0,aT _,rfl,rfl,(Fr.refl (λ_=>False) w).below⟩
 case round=>
  obtain⟨k,D,rfl,rfl,y⟩:=hrel;have p:=Z y;clear y;by_cases l:k<s.size
  .have q:=Z (MG s k l);have n:(sb (((E s).take k).flatMap hJ)).size<=8000000:=by grind[ak,sR,iN,E]
   have G:(convert 110 9 (.slice (sA wr.heap.size) 1 1)).run prog (wr.alloc (.cells #[.int .u8 92] 5))=.ok (.string (sb [92])) (wr.alloc (.cells #[.int .u8 92] 5)):=Ue wr 92;have f:=aeC s k l;have t:=Z f;have h:=Z (Fr.below (((Fr.aN p.o:Fr (λ_=>False) w wr)).alloc (.cells #[.int .u8 92] 5)));have A:(s.extract k (k+1)).size<=1:=by rw[f,iN];simp
   clear f;obtain⟨a,g⟩:∃a,a=sb (((E s).take k).flatMap hJ):=⟨_,rfl⟩;rw[<-g]at n⊢;have d:=Z g;clear g;have H:(sb [92]).size=1:=rfl;have m:(a++sb [92]).size<=8000001:=by rw[lR];omega
   by_cases b:s[k]=39
   .have u:(s[k].toNat:Int)=39:=by rw[b];rfl
    have j:Hid (hJ s[k]=[92]++[s[k]]):=by rw[b];rfl
    clear b;go_wp2;go_roundw;case rel=>exact⟨k+1,om,by go_num,by rw[t.o,q.o,j.o,d.o,ez,ez,gh],h.o⟩
    case measure=>simp[intOf];omega
   have u:((s[k].toNat:Int)==39)=false:=iw.2 λe=>b (UInt8.toNat_inj.1 (by simpa using(show s[k].toNat=39 by omega)));by_cases c:s[k]=92
   .have v:(s[k].toNat:Int)=92:=by rw[c];rfl
    have j:Hid (hJ s[k]=[92]++[s[k]]):=by rw[c];rfl
    clear c b;go_wp2;go_roundw;case rel=>exact⟨k+1,om,by go_num,by rw[t.o,q.o,j.o,d.o,ez,ez,gh],h.o⟩
    case measure=>simp[intOf];omega
   have v:((s[k].toNat:Int)==92)=false:=iw.2 λe=>c (UInt8.toNat_inj.1 (by simpa using(show s[k].toNat=92 by omega)));have j:Hid (hJ s[k]=[s[k]]):=by show hJ s[k]=[s[k]];simp[hJ,b,c]
   clear c b;go_wp2;go_roundw;case rel=>exact⟨k+1,om,by go_num,by rw[t.o,q.o,j.o,d.o,ez],p.o⟩
   case measure=>simp[intOf];omega
  have x:k=s.size:=om;subst x;have z:(E s).take s.size=E s:=by rw[<-ak s];exact bX
  rw[z];have n:=sR (E s);rw[ak]at n;have m:(sb ((E s).flatMap hJ)).size<=8000000:=by rw[iN];omega
  obtain⟨a,g⟩:∃a,a=sb ((E s).flatMap hJ):=⟨_,rfl⟩;rw[<-g]at m⊢;have d:=Z g;clear g z n;have B:(⟨#[39]⟩++a).size<=8000001:=by rw[lR];show 1+a.size<=_;omega
  go_wp2;go_ret;refine⟨?_,p.o⟩;have e:sb (h_ (E s))=⟨#[39]⟩++a++⟨#[39]⟩:=by rw[d.o];grind[ez,h_]
  rw[e];rfl
theorem Uf(w:World)(c:UInt8):(convert 110 9 (.slice (sA w.heap.size) 1 1)).run prog (w.alloc (.cells #[.int .u8 (c.toNat:Int)] 5))=.ok (.string (sb [c])) (w.alloc (.cells #[.int .u8 (c.toNat:Int)] 5)):=by have:=Ue w c.toNat;rw[UInt8.ofNat_toNat]at this;exact this
structure StI(b:Nat)(s:ByteArray)(w0:World)(rt:Value)(R:Sr)(n j:Nat)(acc:List UInt8)(wr:World):Prop where
 rr:RR b s w0 j 0 rt wr
 eq:dP (E s) n j acc=R
 en:(E s).length<n+j
 le:acc.length<=j
 jl:j<=s.size
variable{w v u:World}{n k i j m g z B:Nat}{q:ByteArray}{a c F:Value}
theorem Rr(h:RR n q w k 0 a v)(hs:q.size<=4000000)(c:bt (E q) k=34):Calls prog 126 #[pT n] v λr w'=>r=.returned (.string (sb (aM (E q) k).t))/\RR n q w (aM (E q) k).p (aM (E q) k).e a w':=by
 have hp:k<q.size:=Vf c de;have e1:aM (E q) k=dP (E q) ((E q).length+1) (k+1) []:=by unfold aM;rw[ae c]
 obtain⟨R,hR⟩:∃R,R=aM (E q) k:=⟨_,rfl⟩;rw[<-hR];have H:=Z h;have HE:=Z (e1.symm.trans hR.symm);have em:eU (E q) k 0 34=k+1:=by simp[eU,c]
 have ee:eW (E q) k 0 34=0:=by simp[eW,c]
 have HM:=Z em;have HN:=Z ee;clear h e1 hR em ee;go_enter func126,ntmps126;go_wp2_with fail;refine mo (kj H.o hs 34 _ rfl de) λw1 N=>?_;rw[HM.o,HN.o]at N;have S:Hid (StI n q w a R ((E q).length+1) (k+1) [] w1):=⟨N,HE.o,om,si,om⟩;clear N H;go_wp2;go_loopw[3]λsv wr=>∃b j f,sv=.string (sb f)/\StI n q w a R b j f wrλ_ wr=>q.size+1-rP n wr;case atStart=>exact⟨_,_,[],rfl,S.o⟩
 case round=>
  clear S;obtain⟨b,j,f,rfl,G⟩:=hrel;have S:=Z G;have HP:=Z G.rr.rP;have hjl:=G.jl;obtain⟨m,rfl⟩:∃m,b=m+1:=⟨b-1,by have:=G.en;rw[ak]at this;omega⟩;have hacc:(sb f).size<=4000000:=by have:=G.le;rw[iN];omega
  have C:=Z G.eq;clear G;by_cases i:j<q.size
  .have J:=Z (show(decide (0=0)&&decide (j<q.size))=true by simp[i]);have o:=dY i;go_wp2_with fail;refine mo (xV S.o.rr _ J.o) λw2 P=>?_;have R2:=Z P;have c0:=P.c0;have c1:=P.c1;have kz:=P.k.fz 1;have hji:(j:Int)<(q.size:Int):=om;clear P;go_wp2;go_quiet(fail);have x:=Z (R2.o.drewN nq);clear R2 c0 c1 kz;generalize w2.drewN nq=w3 at*;have c0:=x.o.c0;have c1:=x.o.c1;have kz:=x.o.k.fz 1;have A:=Z (x.o.kI (j+1));have e1:((j+1:Nat):Int)=(j:Int)+1:=om;rw[e1]at A;by_cases c:bt (E q) j=34
   .have hq:((q[j]'i).toNat:Int)=34:=om;have d:R=⟨0,j+1,f⟩:=by rw[<-C.o];unfold dP;rw[ae c]
    subst d;clear o c;go_wp2;go_ret;exact⟨rfl,A.o⟩
   have hq:(((q[j]'i).toNat:Int)==34)=false:=iw.2 om;by_cases e:bt (E q) j=92
   .have hq2:((q[j]'i).toNat:Int)=92:=om;obtain⟨L,s⟩:∃L,(decide (0=0)&&decide (bt (E q) (j+1)=34))=L:=⟨_,rfl⟩;obtain⟨U,t⟩:∃U,(decide (0=0)&&decide (bt (E q) (j+1)=92))=U:=⟨_,rfl⟩;have X1:=Z s;have X2:=Z t;by_cases hx:L=false/\U=false
    .have d:R=⟨2,j+1,[]⟩:=by obtain⟨rfl,rfl⟩:=hx;simp at s t;rw[<-C.o];unfold dP;rw[aa c,ae e,aa om]
     subst d;obtain⟨rfl,rfl⟩:=hx;clear o c e s t;go_wp2_with fail;refine mh (lG A.o 34 _ rfl de _ X1.o) λw4 y=>?_;go_wp2_with fail;refine mh (lG y.o 92 _ rfl de _ X2.o) λw5 D=>?_;clear y;go_wp2_with fail;refine mo (iL D.o 2 _ rfl) λw6 h6=>?_;rw[ae rfl]at h6;have K:=Z h6;clear h6 D;go_wp2;go_ret;exact⟨rfl,K.o⟩
    have u:bt (E q) (j+1)=34\/bt (E q) (j+1)=92:=by
     by_cases N:bt (E q) (j+1)=34;.exact Y N
     simp_all
    obtain⟨g,p⟩:∃g,g=j+1:=⟨_,rfl⟩;rw[<-p]at u s t;have l:g<q.size:=by rcases u with h|h<;>exact Vf h de
    have z:=dY l;have T:UInt8.ofNat (bt (E q) g)=q[g]'l:=by rw[z,UInt8.ofNat_toNat]
    have d:dP (E q) m (g+1) (f++[q[g]'l])=R:=by
     rw[<-C.o,<-T,p]
     conv=>rhs;unfold dP
     rw[aa c,ae e,ae (by rw[p]at u;exact u)]
    have HR:=Z d;have H1':=Z A.o;have X1':=Z s;have X2':=Z t;have HJ:=Z p;have hx':L=true\/(L=false/\U=true):=by cases L<;>cases U<;>simp_all
    have hHJ:Hid (∀W,RR n q w (j+1) 0 a W->RR n q w g 0 a W):=λW h=>by rw[p];exact h
    clear o c e d T s t hx u z X1 X2 p;go_wp2_with fail;refine mh (lG (hHJ.o _ A.o) 34 _ rfl de _ X1'.o) λw4 y=>?_;go_wp2_with fail;refine mh (lG y.o 92 _ rfl de _ X2'.o) λw5 D=>?_;clear y c0 c1 kz A H1';have c0:=D.o.c0;have c1:=D.o.c1;have alP:(g:Int)<(q.size:Int):=om;have s1:(sb [q[g]'l]).size=1:=rfl;rcases hx' with rfl|⟨rfl,rfl⟩;all_goals
     go_wp2;go_quiet(fail);have K:=Z (D.o.drewN nq);clear D c0 c1;generalize w5.drewN nq=w6 at*;have kc:=Uf w6 (q[g]'l);have c1:=K.o.c1;have kz:=K.o.k.fz 1;have hbw:n<w6.heap.size:=K.o.k.lt;have h7:=(K.o.kI (g+1)).alloc (.cells #[.int .u8 ((q[g]'l).toNat:Int)] 5);rw[show((g+1:Nat):Int)=(g:Int)+1 by omega]at h7;have M:Hid (StI n q w a R m (g+1) (f++[q[g]'l]) ((w6.setCell (aD n 1) (.int .i64 ((g:Int)+1))).alloc (.cells #[.int .u8 ((q[g]'l).toNat:Int)] 5))):=⟨h7,HR.o,by have:=S.o.en;have:=HJ.o;omega,by have:=S.o.le;have:=HJ.o;simp;omega,om⟩;have B:=Z M.o.rr.rP;clear h7;go_wp2;go_roundw;case rel=>exact⟨_,_,_,by rw[ez],M.o⟩
     case measure=>rw[HP.o,B.o];have:=HJ.o;omega
   have hq2:(((q[j]'i).toNat:Int)==92)=false:=iw.2 om;by_cases hlo:bt (E q) j<32
   .have hq3:((q[j]'i).toNat:Int)<32:=om;have d:R=⟨2,j,[]⟩:=by rw[<-C.o];unfold dP;rw[aa c,aa e,ae (Y hlo)]
    subst d;clear o c e;go_wp2_with fail;refine mo (iL x.o 2 _ rfl) λw4 F=>?_;rw[ae rfl]at F;have y:=Z F;clear F;go_wp2;go_ret;exact⟨rfl,y.o⟩
   have hq3:¬((q[j]'i).toNat:Int)<32:=om;by_cases hhi:126<bt (E q) j
   .have hq4:(126:Int)<((q[j]'i).toNat:Int):=om;have d:R=⟨2,j,[]⟩:=by rw[<-C.o];unfold dP;rw[aa c,aa e,ae (I hhi)]
    subst d;clear o c e;go_wp2_with fail;refine mo (iL x.o 2 _ rfl) λw4 F=>?_;rw[ae rfl]at F;have y:=Z F;clear F;go_wp2;go_ret;exact⟨rfl,y.o⟩
   have hq4:¬(126:Int)<((q[j]'i).toNat:Int):=om;have T:UInt8.ofNat (bt (E q) j)=q[j]'i:=by rw[o,UInt8.ofNat_toNat]
   have d:dP (E q) m (j+1) (f++[q[j]'i])=R:=by
    rw[<-C.o,<-T]
    conv=>rhs;unfold dP
    rw[aa c,aa e,aa om]
   have HR:=Z d;clear o c e d T;have kc:=Uf w3 (q[j]'i);have M:Hid (StI n q w a R m (j+1) (f++[q[j]'i]) ((w3.setCell (aD n 1) (.int .i64 ((j:Int)+1))).alloc (.cells #[.int .u8 ((q[j]'i).toNat:Int)] 5))):=⟨A.o.alloc _,HR.o,by have:=S.o.en;omega,by have:=S.o.le;simp;omega,om⟩;have B:=Z M.o.rr.rP;have hbw:n<w3.heap.size:=x.o.k.lt;have s1:(sb [q[j]'i]).size=1:=rfl;go_wp2;go_roundw;case rel=>exact⟨_,_,_,by rw[ez],M.o⟩
   case measure=>rw[HP.o,B.o];omega
  have J:=Z (show(decide (0=0)&&decide (j<q.size))=false by simp[i]);have d:R=⟨2,j,[]⟩:=by rw[<-C.o];grind[iF,E,bt,dP]
  subst d;go_wp2_with fail;refine mh (xV S.o.rr _ J.o) λw2 R2=>?_;go_wp2_with fail;refine mo (iL R2.o 2 _ rfl) λw3 h3=>?_;rw[ae rfl]at h3;have x:=Z h3;clear h3;go_wp2;go_ret;exact⟨rfl,x.o⟩
theorem Rt(h:RR n q w k 0 a v)(o:q.size<=4000000)(b:bt (E q) k≠34):Calls prog 126 #[pT n] v λr p=>r=.returned (.string (sb []))/\RR n q w k 2 a p:=by
 have H:=Z h;have f:eU (E q) k 0 34=k:=by simp[eU,b]
 have e:eW (E q) k 0 34=2:=by simp[eW,b]
 have g:=Z f;have i:=Z e;clear h f e b;go_enter func126,ntmps126;go_wp2_with fail;refine mo (kj H.o o 34 _ rfl de) λs c=>?_;rw[g.o,i.o]at c;have S:=Z c;clear c H;go_wp2;go_loopw[3]λ_ wr=>RR n q w k 2 a wrλ_ _=>0;case atStart=>exact S.o
 case round=>have j:=Z hrel;clear hrel S;go_wp2_with fail;refine mh (xV j.o false si) λt l=>?_;go_wp2_with fail;refine mo (iL l.o 2 _ rfl) λu d=>?_;rw[aa de]at d;have m:=Z d;clear d;go_wp2;go_ret;exact⟨rfl,m.o⟩
theorem MI(h:RR n q w k 0 a v)(c:q.size<=4000000):Calls prog 126 #[pT n] v λr b=>r=.returned (.string (sb (aM (E q) k).t))/\RR n q w (aM (E q) k).p (aM (E q) k).e a b:=by grind[Rr,Rt,E,bt,aM]
theorem Ru(q:ByteArray)(k:Nat)(h:k<q.size):((E q).map UInt8.toNat).drop k=(q[k]'h).toNat::((E q).map UInt8.toNat).drop (k+1):=by
 have a:k<((E q).map UInt8.toNat).length:=by rw[eY,ak];exact h
 rw[List.drop_eq_getElem_cons a];congr 1;have:=ME q k h;grind
def WdI(b:Nat)(s:ByteArray)(c:World)(a:Value)(q:ByteArray)(p k:Nat)(d:World):Prop:=(RR b s c (p+k) 0 a d/\dC (E s) ((E q).map UInt8.toNat) p=dC (E s) (((E q).map UInt8.toNat).drop k) (p+k))\/(RR b s c (dC (E s) ((E q).map UInt8.toNat) p) 2 a d/\dC (E s) ((E q).map UInt8.toNat) p≠p+q.size)
theorem BZ(h:RR n q w k 0 a v)(G:q.size<=4000000)(c:ByteArray)(K:c.size<=5):Calls prog 127 #[pT n,.string c] v λr H=>r=.returned (.string c)/\RR n q w (dC (E q) ((E c).map UInt8.toNat) k) (if dC (E q) ((E c).map UInt8.toNat) k=k+c.size then 0 else 2) a H:=by
 have S:Hid (WdI n q w a c k 0 v):=Y ⟨h,si⟩;obtain⟨s,g⟩:∃s,s=(if dC (E q) ((E c).map UInt8.toNat) k=k+c.size then 0 else 2):=⟨_,rfl⟩;rw[<-g];have j:=Z g;clear h g;go_enter func127,ntmps127;go_wp2;go_loopw[5]λi wr=>∃b:Nat,b<=c.size/\i=.int .i64 b/\WdI n q w a c k b wrλi _=>c.size-(intOf i).toNat;case atStart=>exact⟨0,aT _,rfl,S.o⟩
 case round=>
  clear S;obtain⟨b,J,rfl,F⟩:=hrel;rcases F with⟨f,m⟩|⟨f,m⟩
  .have l:=Z f;have t:=Z m;have c2:wr.cell? (aD n 2)=some (.int .i64 0):=f.c2;clear f m;by_cases d:b<c.size
   .have o:(b:Int)<(c.size:Int):=om;have B:=Ru c b d;have z:=Z B;clear B;go_wp2_with fail;refine mo (kj l.o G (c[b]'d).toNat _ rfl (c[b]'d).toNat_lt) λC A=>?_;by_cases x:bt (E q) (k+b)=(c[b]'d).toNat
    .have u:Hid (WdI n q w a c k (b+1) C):=by
      refine Y ⟨?_,?_⟩;.grind[E,eW,eU]
      rw[t.o,z.o];grind[dC]
     clear A x;go_wp2;go_roundw;case rel=>exact⟨b+1,om,by go_num,u.o⟩
     case measure=>simp[intOf];omega
    have p:dC (E q) ((E c).map UInt8.toNat) k=k+b:=by rw[t.o,z.o];unfold dC;rw[aa x]
    have u:Hid (WdI n q w a c k (b+1) C):=by refine I ⟨?_,om⟩;grind[E,eW,eU]
    clear A x p;go_wp2;go_roundw;case rel=>exact⟨b+1,om,by go_num,u.o⟩
    case measure=>simp[intOf];omega
   have y:b=c.size:=om;subst y;have p:dC (E q) ((E c).map UInt8.toNat) k=k+c.size:=by rw[t.o,List.drop_of_length_le (by rw[eY,ak];omega)];rfl
   have e:s=0:=by rw[j.o,ae p]
   subst e;have D:=Z p;clear p;go_wp2;go_ret;exact⟨rfl,by rw[D.o];exact l.o⟩
  have l:=Z f;have c2:wr.cell? (aD n 2)=some (.int .i64 2):=f.c2;have e:s=2:=by rw[j.o,aa m]
  subst e;clear f m;by_cases d:b<c.size;.have o:(b:Int)<(c.size:Int):=om;go_wp2;go_ret;exact⟨rfl,l.o⟩
  have o:¬(b:Int)<(c.size:Int):=om;go_wp2;go_ret;exact⟨rfl,l.o⟩
def qR(d:jt)(a:Value):Array Value:=#[.int .i64 (d.kind:Nat),.int .i64 d.n,.string (sb d.s),.string (sb d.name),.string (sb d.path),.int .i64 (d.af:Nat),.int .i64 (d.to:Nat),.int .i64 d.cl,a]
structure RV(rb bv:Nat)(s:ByteArray)(w:World)(p e:Nat)(rt:Value)(d:jt)(sv:Value)(w':World):Prop where
 r:V w' rb (qJ s p e rt) 161
 v:V w' bv (qR d sv) 195
 f:Fr (λk=>k=rb\/k=bv) w w'
variable{b:jt}
theorem RV.rr(h:RV n k q w i j a b c v):RR n q v i j a v:=⟨h.r,Fr.refl _ _⟩
theorem RV.step(h:RV n k q w i j a b F v)(d:RR n q v m g c u)(e:k≠n):RV n k q w m g c b F u:=⟨d.k,h.v.fr d.f e,h.f.trans (d.f.mono λ_ _ j=>Y j)⟩
theorem RV.drewN(h:RV n k q w i j a b c v)(d:Nat):RV n k q w i j a b c (v.drewN d):=⟨h.r,h.v,h.f.drewN d⟩
theorem RV.jQ{d':jt}{Iv:Value}(h:RV n k q w i j a b c v)(e:k≠n)(d:Nat)(x:Value)(f:(qR b c).setIfInBounds d x=qR d' Iv):RV n k q w i j a d' Iv (v.setCell (aD k d) x):=⟨h.r.other (λj=>e j.symm) d x,by rw[<-f];exact h.v.set d x,h.f.setCell (aD k d) (Y (I rfl)) x⟩
variable{l:List UInt8}
theorem B_:∀k,run O l k n=n+k->i_ l n k+1<=10^k
 |0,_=>by simp[i_]|k+1,h=>by
  have a:run O l k n=n+k:=by grind[iD,jJ,O]
  have b:O (bt l (n+k))=true:=gL O l (k+1) n (n+k) om om;have:=B_ k a;grind[i_,O]
theorem aaS(b:k<=9)(h:run O l k n=n+k):i_ l n k<1000000000:=by have a:=B_ k h;have:10^k<=10^9:=Nat.pow_le_pow_right om om;omega
theorem Hh(h:run O l n k=k+n)(a:O (bt l (k+n))=true):run O l (n+1) k=k+(n+1):=by rw[jJ,ae ⟨h,a⟩];omega
theorem wK:∀K,k<=K->run O l k n=n+k->(k=K\/O (bt l (n+k))=false)->run O l K n=n+k
 |0,h,c,_=>by grind|K+1,h,c,d=>by
  rcases Nat.lt_or_ge K k with b|b;.grind
  have a:O (bt l (n+k))=false:=d.resolve_left om;rw[jJ];have e:=wK K b c (I a);grind
structure NuI(rb bv:Nat)(s:ByteArray)(w:World)(rt:Value)(d:jt)(sv:Value)(p0 j:Nat)(wr:World):Prop where
 rv:RV rb bv s w (p0+j) 0 rt d sv wr
 run:run O (E s) j p0=p0+j
 le:j<=9
 lq:p0+j<=s.size
theorem MJ(h:RV n k q w i 0 a b c w)(p:k≠n)(hs:q.size<=4000000)(hpl:i<=q.size):Calls prog 128 #[pT n,pT k] w λr w'=>r=.returned (.tuple #[])/\((qF (E q) i=true/\RV n k q w (lJ (E q) i) 0 a ⟨1,lO (E q) i,b.s,b.name,b.path,b.af,lJ (E q) i,b.cl⟩ c w')\/(qF (E q) i=false/\RV n k q w (dF (E q) i) 2 a b c w')):=by
 obtain⟨s,hp0⟩:∃s,s=dF (E q) i:=⟨_,rfl⟩;obtain⟨D,hng⟩:∃D,decide (bt (E q) i=45)=D:=⟨_,rfl⟩;obtain⟨U,WQ⟩:∃U,O (bt (E q) s)=U:=⟨_,rfl⟩;obtain⟨u,hxz⟩:∃u,decide (bt (E q) s=48)=u:=⟨_,rfl⟩;obtain⟨y,hnt⟩:∃y,y=lJ (E q) i:=⟨_,rfl⟩;obtain⟨A,K'⟩:∃A,A=lO (E q) i:=⟨_,rfl⟩;have J:Hid (qF (E q) i=!(!U||(D&&u))):=by unfold Hid qF;grind
 have HP:Hid (s=if D=true then i+1 else i):=by unfold Hid;grind[dF]
 have alR:s<=q.size:=by
  rw[HP.o];cases D;.exact hpl
  have:=Vf (of_decide_eq_true hng) de;simp;omega
 have HNV:Hid (∀j,y=s+j->A=if D=true then-((i_ (E q) s j:Nat):Int)else((i_ (E q) s j:Nat):Int)):=λj e=>by grind[E,dF,lJ,lO]
 have G:Hid (y=if u=true then s+1 else run O (E q) 9 s):=by unfold Hid;grind[lJ]
 rw[<-hp0,<-hnt,<-K'];have HM:Hid ((decide (0=0)&&decide (bt (E q) i=45))=D):=by unfold Hid;simpa using hng
 have HD:Hid ((decide (0=0)&&O (bt (E q) s))=U):=by unfold Hid;simpa using WQ
 have HZ:Hid ((decide (0=0)&&decide (bt (E q) s=48))=u):=by unfold Hid;simpa using hxz
 have N:=Z WQ;have M0:=Z h;clear h hp0 hng WQ hxz hnt K';go_enter func128,ntmps128;go_wp2_with fail;refine mo (lG M0.o.rr 45 _ rfl de D HM.o) λw1 h1=>?_;have M1:=Z (M0.o.step h1 p);have k1:=h1.c1;have kz:=h1.k.fz 1;have K1:=Z h1;clear h1;go_upto_if 12 with fail;go_cut[]from 13λwc=>RV n k q w s 0 a b c wc;case first=>
  cases D;.have e:s=i:=HP.o;have d:=Z e;clear e;go_wp2;go_meet;rw[d.o];exact M1.o
  have e:s=i+1:=HP.o;have d:=Z e;clear e;have h1':=K1.o.kI (i+1);rw[show((i+1:Nat):Int)=(i:Int)+1 by omega]at h1';have H1:=Z (M0.o.step h1' p);clear h1';go_wp2;go_meet;rw[d.o];exact H1.o
 case rest=>
 have M:=Z hcut;clear hcut M0 M1 K1 k1 kz HM HP;go_wp2_with fail;refine mo (JK M.o.rr _ HD.o) λw2 h2=>?_;have M2:=Z (M.o.step h2 p);clear h2 M;go_wp2_with fail;refine mo (lG M2.o.rr 48 _ rfl de _ HZ.o) λw3 h3=>?_;have M3:=Z (M2.o.step h3 p);clear h3 M2 HD HZ;go_upto_region 5 with fail;go_cut[31]from 24λx wc=>x=.bool (!U||(D&&u))/\wc=w3;case first=>cases U<;>cases u<;>cases D<;>(go_wp2;go_meet;exact⟨rfl,rfl⟩)
 case rest=>
 obtain⟨rfl,hw⟩:=hcut;have hw:=hw.symm;subst hw;obtain⟨B,hB⟩:∃B,(!U||(D&&u))=B:=⟨_,rfl⟩;rw[hB]at J⊢;cases B
 .have hd:U=true:=by cases U<;>simp at hB⊢
  subst hd;clear hB;go_wp2;go_loopw[7,8]λm l wr=>∃j:Nat,l=.int .i64 j/\m=.int .i64 (i_ (E q) s j:Nat)/\NuI n k q w a b c s j wr/\(u=true->j<=1)λ_ l _=>9-(intOf l).toNat;case atStart=>exact⟨0,rfl,rfl,⟨M3.o,rfl,de,om⟩,λ_=>by decide⟩
  case round=>
   clear M3;obtain⟨j,rfl,rfl,hI,hz1⟩:=hrel;have f:=Z hI;have iz:=Z hz1;have hle:=hI.le;have hlq:=hI.lq;have hbd:(i_ (E q) s j:Int)<1000000000:=by have:=aaS hI.le hI.run;omega
   clear hI hz1;obtain⟨o,t⟩:∃o,o=s+j:=⟨_,rfl⟩;have HQE:=Z t;have P:Hid (RV n k q w o 0 a b c wr):=by rw[t];exact f.o.rv
   have hqs:o<=q.size:=om;by_cases hlt:j<9
   .have aeG:(j:Int)<9:=om;obtain⟨W,v⟩:∃W,O (bt (E q) o)=W:=⟨_,rfl⟩;have XG:Hid ((decide (0=0)&&O (bt (E q) o))=W):=by unfold Hid;simpa using v
    have C:(W=true/\(¬(0:Int)<(j:Int)\/((0:Int)<(j:Int)/\u=false)))\/(y=o/\(W=false\/((0:Int)<(j:Int)/\u=true))):=by
     cases W
     .refine I ⟨?_,Y rfl⟩;have z:u=true->0<j:=λ_=>by
       rcases Nat.eq_zero_or_pos j with h0|h0;.subst h0;rw[t,Nat.add_zero,N.o]at v;cases v
       exact h0
      rw[G.o];cases u;.simp only[Bool.false_eq_true,if_false];rw[t];exact wK 9 f.o.le f.o.run (I (by rw[<-t];exact v))
      have:=z rfl;have:=iz.o rfl;simp only[if_true];omega
     by_cases z:(0:Int)<(j:Int)
     .cases u;.grind
      refine I ⟨?_,I ⟨z,rfl⟩⟩;have:=iz.o rfl;rw[G.o];simp only[if_true];omega
     grind
    rcases C with⟨rfl,C⟩|⟨L,C⟩
    .have S:o<q.size:=by have:=cQ (eZ v);rw[ak]at this;exact this
     have alS:(o:Int)<(q.size:Int):=om;have K:=dY S;have hlo:48<=((q[o]'S).toNat:Int):=by simp[O,K]at v;omega
     have hhi:((q[o]'S).toNat:Int)<=57:=by simp[O,K]at v;omega
     have hvv:(10*(i_ (E q) s j:Int)+(((q[o]'S).toNat:Int)-48))=((i_ (E q) s (j+1):Nat):Int):=by grind[i_]
     have HVV:=Z hvv;have HRM:=Z (Hh f.o.run (by rw[<-t];exact v));have alV:(i_ (E q) s j:Int)<100000000:=by have h3:=B_ j f.o.run;have:10^j<=10^8:=Nat.pow_le_pow_right om om;omega
     have HX:Hid (u=true->j+1<=1):=λe=>by grind
     clear v K hvv t G HNV N J;generalize i_ (E q) s j=dj at*;have C3:((¬(0:Int)<(j:Int)/\j=0)/\u=false)\/((¬(0:Int)<(j:Int)/\j=0)/\u=true)\/(((0:Int)<(j:Int)/\0<j)/\u=false):=by grind
     clear C;rcases C3 with⟨⟨z,hjn⟩,rfl⟩|⟨⟨z,hjn⟩,rfl⟩|⟨⟨z,hjn⟩,rfl⟩;all_goals
      go_wp2_with fail;refine mo (JK P.o.rr _ XG.o) λT R=>?_;have M5:=Z (P.o.step R p);have c0:=R.c0;have c1:=R.c1;clear R P;go_wp2;go_quiet(fail);have M6:=Z (M5.o.drewN nq);clear M5 c0 c1;generalize T.drewN nq=w6 at*;have c1:w6.cell? (aD n 1)=some (.int .i64 (o:Nat)):=M6.o.r.cell 1;have kz:=M6.o.r.fz 1;have h7:=M6.o.step (M6.o.rr.kI (o+1)) p;rw[show((o+1:Nat):Int)=(o:Int)+1 by omega]at h7;have I2:Hid (NuI n k q w a b c s (j+1) (w6.setCell (aD n 1) (.int .i64 ((o:Int)+1)))):=⟨by
        have e:s+(j+1)=o+1:=by have:=HQE.o;omega
        rw[e];exact h7,HRM.o,om,by have:=HQE.o;omega⟩;clear h7;go_wp2;go_roundw;case rel=>exact⟨j+1,by go_num,by rw[<-HVV.o],I2.o,HX.o⟩
      case measure=>first|(simp[intOf];done)|(simp[intOf];omega)
    have HQ2:=Z t;have H:=Z (L.trans t);clear L t G N v;have C3:(W=false/\u=false)\/(W=false/\u=true)\/(W=true/\((0:Int)<(j:Int)/\0<j)/\u=true):=by grind
    clear C;rcases C3 with⟨rfl,rfl⟩|⟨rfl,rfl⟩|⟨rfl,⟨z,hjn⟩,rfl⟩;all_goals
     go_wp2_with fail;refine mo (JK P.o.rr _ XG.o) λT R=>?_;have M5:=Z (P.o.step R p);have c0:=R.c0;have c1:=R.c1;clear R P;have I2:Hid (NuI n k q w a b c s j T):=⟨by rw[<-HQ2.o];exact M5.o,f.o.run,f.o.le,f.o.lq⟩;clear c0 c1 M5 f;have hv:=HNV.o j H.o;have M:Hid (RV n k q w y 0 a b c T):=by rw[H.o];exact I2.o.rv
     clear I2;have v0:=M.o.v.fz 0;have v1:=M.o.v.fz 1;have v6:=M.o.v.fz 6;have y0:T.cell? (aD k 0)=some (.int .i64 (b.kind:Nat)):=M.o.v.cell 0;have y1:T.cell? (aD k 1)=some (.int .i64 b.n):=M.o.v.cell 1;have y6:T.cell? (aD k 6)=some (.int .i64 (b.to:Nat)):=M.o.v.cell 6;have c1:T.cell? (aD n 1)=some (.int .i64 (y:Nat)):=M.o.r.cell 1;have F:Hid (RV n k q w y 0 a ⟨1,A,b.s,b.name,b.path,b.af,y,b.cl⟩ c (((T.setCell (aD k 0) (.int .i64 1)).setCell (aD k 1) (.int .i64 A)).setCell (aD k 6) (.int .i64 (y:Nat)))):=(((M.o.jQ (d':={b with kind:=1}) p 0 (.int .i64 1) rfl).jQ (d':={b with kind:=1,n:=A}) p 1 (.int .i64 A) rfl).jQ (d':=⟨1,A,b.s,b.name,b.path,b.af,y,b.cl⟩) p 6 (.int .i64 (y:Nat)) rfl);have aaT:n≠k:=λe=>p e.symm;clear M;generalize i_ (E q) s j=dj at*;cases D;all_goals have g:A=_:=hv;simp only[Bool.false_eq_true,if_false,if_true]at g;rw[g]at F;have HV:=Z g;clear g hv;go_wp2;go_end0;exact⟨rfl,Y ⟨J.o,by rw[HV.o];exact F.o⟩⟩
   have aeG:¬(j:Int)<9:=om;have L:y=s+j:=by
    rw[G.o];cases u;.simp only[Bool.false_eq_true,if_false];exact wK 9 f.o.le f.o.run (Y om)
    have:=iz.o rfl;omega
   have H:=Z L;clear L t G N;have hv:=HNV.o j H.o;have M:Hid (RV n k q w y 0 a b c wr):=by rw[H.o];exact f.o.rv
   clear f P;have v0:=M.o.v.fz 0;have v1:=M.o.v.fz 1;have v6:=M.o.v.fz 6;have y0:wr.cell? (aD k 0)=some (.int .i64 (b.kind:Nat)):=M.o.v.cell 0;have y1:wr.cell? (aD k 1)=some (.int .i64 b.n):=M.o.v.cell 1;have y6:wr.cell? (aD k 6)=some (.int .i64 (b.to:Nat)):=M.o.v.cell 6;have c1:wr.cell? (aD n 1)=some (.int .i64 (y:Nat)):=M.o.r.cell 1;have F:Hid (RV n k q w y 0 a ⟨1,A,b.s,b.name,b.path,b.af,y,b.cl⟩ c (((wr.setCell (aD k 0) (.int .i64 1)).setCell (aD k 1) (.int .i64 A)).setCell (aD k 6) (.int .i64 (y:Nat)))):=(((M.o.jQ (d':={b with kind:=1}) p 0 (.int .i64 1) rfl).jQ (d':={b with kind:=1,n:=A}) p 1 (.int .i64 A) rfl).jQ (d':=⟨1,A,b.s,b.name,b.path,b.af,y,b.cl⟩) p 6 (.int .i64 (y:Nat)) rfl);have aaT:n≠k:=λe=>p e.symm;clear M;generalize i_ (E q) s j=dj at*;cases D;all_goals have g:A=_:=hv;simp only[Bool.false_eq_true,if_false,if_true]at g;rw[g]at F;have HV:=Z g;clear g hv;go_wp2;go_end0;exact⟨rfl,Y ⟨J.o,by rw[HV.o];exact F.o⟩⟩
 clear hB;go_wp2_with fail;refine mo (iL M3.o.rr 2 _ rfl) λw4 h4=>?_;rw[ae rfl]at h4;have P:=Z (M3.o.step h4 p);clear h4;go_wp2;(try simp only[Exit.inBlock,Exit.then]);refine bodyPost_ret (results_none rfl _ _ _) rfl ?_;exact⟨rfl,I ⟨J.o,P.o⟩⟩
theorem l8(h:n≠k):((n:Int)==(k:Int))=false:=iw.2 om
theorem tK(h:RV n k q w i 0 a b c v)(j:q.size<=i)(e:Option Addr):Calls prog 129 #[pT n,.pointer e,pT k] v λr f=>r=.returned (.tuple #[])/\RV n k q w i 0 a b c f:=by
 have H:=Z h;have c0:=h.rr.c0;have c1:=h.rr.c1;clear h;have g:decide ((q.size:Int)<=(i:Int))=true:=by simp;omega
 go_enter func129,ntmps129;go_wp2;go_quiet(fail);have d:=Z (H.o.drewN nq);clear H c0 c1;generalize v.drewN nq=l at*;go_wp2;(try simp only[Exit.inBlock,Exit.then]);refine bodyPost_ret (results_none rfl _ _ _) rfl ?_;exact⟨rfl,d.o⟩
theorem Hi{s:Option Addr}(h:RV n k q w i 0 a b c v)(G:k≠n)(hp:i<q.size)(U:(s=none/\j=0)\/∃g,s=sA g/\v.cell? (aD g 0)=some (.int .i64 (j:Nat))/\(j=4\/j=5)):Calls prog 129 #[pT n,.pointer s,pT k] v λr w'=>r=.returned (.tuple #[])/\RV n k q w i 0 a {b with cl:=if da j (bt (E q) i)=true then(i:Int)else b.cl} c w':=by
 have H:=Z h;have HK:=Z U;have c0:=h.rr.c0;have c1:=h.rr.c1;have hd:decide ((q.size:Int)<=(i:Int))=false:=by simp;omega
 have hpi:(i:Int)<(q.size:Int):=om;have C:=dY hp;have W:n≠k:=λe=>G e.symm;obtain⟨d,m⟩:∃d,(q[i]'hp).toNat=d:=⟨_,rfl⟩;rw[C,m];have u:=Z m;obtain⟨J,p⟩:∃J,da j d=J:=⟨_,rfl⟩;rw[p];have z:=Z p;clear p;clear h U C m;go_enter func129,ntmps129;go_wp2;go_quiet(fail);have K:=Z (H.o.drewN nq);have y:Hid ((s=none/\j=0)\/∃g,s=sA g/\(v.drewN nq).cell? (aD g 0)=some (.int .i64 (j:Nat))/\(j=4\/j=5)):=HK.o;clear H HK c0 c1;generalize v.drewN nq=w2 at*;have c0:=K.o.rr.c0;have c1:=K.o.rr.c1;go_wp2;go_quiet(fail);have t:=Z (K.o.drewN nq);have l:Hid ((s=none/\j=0)\/∃g,s=sA g/\(w2.drewN nq).cell? (aD g 0)=some (.int .i64 (j:Nat))/\(j=4\/j=5)):=y.o;clear K y c0 c1;generalize w2.drewN nq=P at*;rw[u.o];clear u;have D:decide (q.size<=i)=false:=by simp;omega
 rw[D];clear D;go_upto_region 2 with fail;go_cut[7]from 27λx wc=>x=.bool (d==32||d==10)/\wc=P;case first=>
  by_cases A:d=32;.subst A;go_wp2;go_meet;exact⟨rfl,rfl⟩
  have e1:((d:Int)==32)=false:=l8 A;have f1:(d==32)=false:=by simpa using A
  by_cases B:d=10;.subst B;go_wp2;go_meet;exact⟨rfl,rfl⟩
  have e2:((d:Int)==10)=false:=l8 B;have f2:(d==10)=false:=by simpa using B
  have HF:=Z (db f1 f2);clear f1 f2;go_wp2;go_meet;grind
 case rest=>
 obtain⟨rfl,o⟩:=hcut;have o:=o.symm;subst o;have f:Hid (J=((d==32||d==10)||(j !=0&&(d==44||(j==4&&d==93)||(j==5&&d==125))))):=z.o.symm;clear z;generalize(d==32||d==10)=sp at*;go_upto_if 34 with fail;go_cut[7]from 33λx wc=>x=.bool J/\wc=P;case first=>
  rcases l.o with⟨rfl,rfl⟩|⟨g,rfl,hc,hi⟩;.go_wp2;go_meet;exact⟨by rw[f.o];simp,rfl⟩
  obtain⟨L,A⟩:∃L,((d:Int)==44)=L:=⟨_,rfl⟩;obtain⟨M,B⟩:∃M,((d:Int)==93)=M:=⟨_,rfl⟩;obtain⟨N,h3⟩:∃N,((d:Int)==125)=N:=⟨_,rfl⟩;have R:(d==44)=L:=by rw[<-A,Bool.eq_iff_iff];simp;omega
  have S:(d==93)=M:=by rw[<-B,Bool.eq_iff_iff];simp;omega
  have T:(d==125)=N:=by rw[<-h3,Bool.eq_iff_iff];simp;omega
  rw[R,S,T]at f;clear R S T l;rcases hi with rfl|rfl;all_goals
   cases sp
   .cases L;.cases M<;>cases N;all_goals go_wp2;go_meet;exact⟨by rw[f.o];rfl,rfl⟩
    go_wp2;go_meet;exact⟨by rw[f.o];rfl,rfl⟩
   go_wp2;go_meet;exact⟨by rw[f.o];rfl,rfl⟩
 case rest=>
 obtain⟨rfl,o⟩:=hcut;have o:=o.symm;subst o;have c1:=t.o.rr.c1;have y7:P.cell? (aD k 7)=some (.int .i64 b.cl):=t.o.v.cell 7;have z7:=t.o.v.fz 7;have F:=Z (t.o.jQ (d':={b with cl:=(i:Int)}) (Iv:=c) G 7 (.int .i64 (i:Nat)) rfl);clear f l;cases J;.go_wp2;go_end0;exact⟨rfl,t.o⟩
 go_wp2;go_end0;exact⟨rfl,F.o⟩
theorem pJ:(prog.info? 159).map (λi=>(i.zero,i.size,i.bytes))=some (some (.pointer none),1,8):=by kernel_rfl
theorem zF(h:RV n k q w i 0 a b c v)(d:k≠n):Calls prog 124 #[pT n,.pointer none,pT k] v λr e=>r=.returned (.tuple #[])/\RV n k q w i 0 (pT k) b c e:=by have c3:v.cell? (aD n 3)=some a:=h.r.cell 3;have f:=h.r.fz 3;have F:Hid (RV n k q w i 0 (pT k) b c (v.setCell (aD n 3) (pT k))):=⟨h.r.set 3 _,h.v.other d 3 _,h.f.setCell (aD n 3) (Y (Y rfl)) _⟩;clear h;go_enter func124,ntmps124;go_wp2;(try simp only[Exit.inBlock,Exit.then]);refine bodyPost_ret (results_none rfl _ _ _) rfl ?_;exact⟨rfl,F.o⟩
structure MK(bi B0:Nat)(di:jt)(Rw:Value)(xs:List Value)(w:World):Prop where
 k:V w bi (qR di Rw) 195
 row:w.ownsRow B0 159 1 Rw xs.length xs
 lt:bi<B0
def l_(b a:Value)(w c:World):Prop:=a.ownBlock=b.ownBlock\/∃g,a.ownBlock=some g/\w.heap.size<=g/\g<c.heap.size
variable{f:List Value}
theorem B'{rb bv:Nat}(h:MK n k b a f w)(hB:k<=w.heap.size)(hx:f.length<=4000000):Calls prog 124 #[pT rb,pT n,pT bv] w λr J=>r=.returned (.tuple #[])/\∃m,MK n k b m (f++[pT bv]) J/\Fr (λc=>c=n\/a.ownBlock=some c) w J/\l_ a m w J:=by
 obtain⟨i0,K,s,t,v⟩:=info_parts pJ;have N:=Z K;have A:=Z s;have B:=Z t;have C:=Z v;obtain⟨o,c0,rfl⟩:=X h.row;have H:=Z h;have F:w.cell? (aD n 8)=some (.slice o f.length c0):=h.k.cell 8;have hbi:n<w.heap.size:=h.k.lt;clear h K s t v;go_enter func124,ntmps124;go_wp2_with(at_builtin;refine wpList_append_lies _ rfl _ _ 191 rfl k 159 i0 _ 1 8 underlying191 N.o A.o B.o C.o rfl de _ _ _ rfl (H.o.row.alloc _) (aD w.heap.size 0) 1 1 [pT bv] rfl rfl ?c1 ?c2 de ?c3 ?c4 ?c5 _ rfl ?_);case c1=>intro j u y;match j,y with|0,y=>simp at y;subst y;simp[Addr.add]
 case c2=>intro u L;simp at L;subst L;rfl
 case c3=>unfold maxLen;omega
 case c4=>omega
 case c5=>simp;omega
 intro g p x i d l q;have G:∀c,(Value.slice o f.length c0).ownBlock=some c->k<=c/\c<w.heap.size:=λc z=>H.o.row.lt c z;have D:Hid (V x n (qR b (.slice o f.length c0)) 195):=((d.block n (by simp;omega) λe=>by have:=G n e.symm;have:=H.o.lt;omega).trans (H.o.k.alloc _));have c8:x.cell? (aD n 8)=some (.slice o f.length c0):=D.o.cell 8;have z8:=D.o.fz 8;have M:Hid (Fr (λc=>c=n\/(Value.slice o f.length c0).ownBlock=some c) w x):=Fr.grown ((Fr.refl (λc=>c=n\/(Value.slice o f.length c0).ownBlock=some c) w).alloc _) d λc z=>I (I z);have R:=Z i;have P:Hid (l_ (.slice o f.length c0) (.slice (sA g) (f.length+1) p) w x):=by
  rcases l with e|e;.exact Y e.symm
  exact I ⟨g,rfl,by rw[e];simp,q⟩
 clear i d l F;go_wp2;go_end0;refine⟨rfl,.slice (sA g) (f.length+1) p,⟨D.o.set 8 _,?_,H.o.lt⟩,M.o.setCell (aD n 8) (Y (Y rfl)) _,?_⟩;.have e:(f++[pT bv]).length=f.length+1:=si;rw[e];exact aS R.o ((Fr.refl (λc=>c=n) x).setCell (aD n 8) (Y rfl) _) λc z e=>by have:=H.o.lt;omega
 rcases P.o with e|⟨W,S,T,U⟩;.exact Y e
 exact I ⟨W,S,T,by simpa[World.setCell]using U⟩
def cj(A:Nat->Nat)(t:Tv):Value:=(pT (A t.d.af))
def RT(w:World)(A:Nat->Nat)(D:Nat->Prop)(a:Nat):Nat->Tv->Prop|0,_=>False|n+1,t=>t.d.af<a/\D (A t.d.af)/\(∃sv,V w (A t.d.af) (qR t.d sv) 195/\(∀k,sv.ownBlock=some k->D k)/\w.ownsRow 0 159 1 sv t.ws.length (t.ws.map (cj A)))/\∀c∈t.ws,RT w A D a n c
variable{A:TypeId}
theorem fR(h:w.ownsRow n A k a i f):w.ownsRow 0 A k a i f:=by
 refine⟨h.1,?_⟩;rcases h.2 with x|⟨b,c,d,e,_,g⟩;.exact Y x
 grind
theorem aV{w w':World}(h:w.ownsRow n A k a i f)(m:∀b,a.ownBlock=some b->w'.heap[b]?=w.heap[b]?):w'.ownsRow n A k a i f:=by
 refine⟨h.1,?_⟩;rcases h.2 with x|⟨b,c,d,e,g,j,l⟩;.exact Y x
 exact I ⟨b,c,d,e,g,(m b (by rw[e];rfl)).trans j,l⟩
variable{d o:Nat->Nat}
theorem RT.keep{w w':World}{D:Nat->Prop}(b:∀k,D k->w'.heap[k]?=w.heap[k]?):∀(a:Nat)(t:Tv),RT w d D n a t->RT w' d D n a t|0,_,h=>h|a+1,_,⟨g,e,⟨sv,i,f,j⟩,l⟩=>⟨g,e,⟨sv,(b _ e).trans i,f,aV j λk o=>b k (f k o)⟩,λc m=>RT.keep b a c (l c m)⟩
variable{p D:Nat->Prop}
theorem RT.mono(e:∀a,p a->D a)(f:n<=k):∀(b:Nat)(t:Tv),RT w d p n b t->RT w d D k b t|0,_,h=>h|b+1,_,⟨g,i,⟨sv,j,l,m⟩,o⟩=>⟨aI g f,e _ i,⟨sv,j,λa r=>e a (l a r),m⟩,λc q=>RT.mono e f b c (o c q)⟩
theorem RT.af:∀{a:Nat}{t:Tv},RT w d p n a t->t.d.af<n|0,_,h=>absurd h id|_+1,_,h=>h.1
theorem RT.adr{A':Nat->Nat}(b:∀f,f<n->A' f=d f):∀(a:Nat)(t:Tv),RT w d p n a t->RT w A' p n a t|0,_,h=>h|a+1,t,⟨g,k,⟨sv,l,m,o⟩,j⟩=>by refine⟨g,by rw[b _ g];exact k,⟨sv,by rw[b _ g];exact l,m,?_⟩,λc i=>RT.adr b a c (j c i)⟩;have e:t.ws.map (cj A')=t.ws.map (cj d):=List.map_congr_left (λc i=>by have q:c.d.af<n:=(j c i).af;unfold cj;rw[b _ q]);rw[e];exact o
def Ug(e:Option Addr)(a f:Nat)(d:jt)(b:Value)(g:List Value)(w:World):Prop:=(e=none/\a=0)\/∃c,e=sA c/\MK c f d b g w/\d.kind=a/\(a=4\/a=5)
def HK(c:Option Addr)(a:Value)(k:Nat):Prop:=∃b,c=sA b/\(k=b\/a.ownBlock=some k)
structure ML(w:World)(rb bv:Nat)(ip:Option Addr)(Ca B0:Nat)(di:jt)(Rw:Value)(xs:List Value)(s:ByteArray)(p:Nat)(rt:Value)(A:Nat->Nat)(dp:Nat)(R:Rs)(w':World):Prop where
 r:∃rt',V w' rb (qJ s R.p R.e rt') 161/\(ip≠none->rt'=rt)/\(R.ws≠[]->ip=none->rt'=pT bv)/\(R.ws=[]->rt'=rt)f:Fr (λk=>k=rb\/k=bv\/HK ip Rw k) w w'
 h:∃WV,Ug ip Ca B0 di WV (xs++R.ws.map λ_=>(pT bv)) w'/\(ip≠none->l_ Rw WV w w')/\∀t,R.ws=[t]->∃A',(∀f,f<p->A' f=A f)/\A' t.d.af=bv/\RT w' A' (λk=>k=bv\/(w.heap.size<=k/\k<w'.heap.size/\(ip≠none->WV.ownBlock≠some k))) R.p (10-dp) t
def Cb(s:ByteArray)(n:Nat):Prop:=∀(w:World)(f d:Nat)(e:Option Addr)(b g:Nat)(j:jt)(a:Value)(i:List Value)(p:Nat)(l:Value)(A:Nat->Nat)(c:Nat)(k h:List UInt8),2*(s.size-p)+1<=n->p<=s.size->c<=9->1<=c->h.length<=c*10000000->i.length<=s.size->V w f (qJ s p 0 l) 161->V w d (qR ⟨0,0,[],k,h,0,0,-1⟩ (.slice none 0 0)) 195->Ug e b g j a i w->d≠f->¬HK e a f->¬HK e a d->g<=w.heap.size->Calls prog 97 #[pT f,.pointer e,pT d,.int .i64 (c:Nat)] w λr m=>r=.returned (.tuple #[])/\ML w f d e b g j a i s p l A c (rd (E s) n false c k h b p []) m
structure xh(w:World)(rb bv B0:Nat)(d:jt)(z_:Value)(xs:List Value)(s:ByteArray)(p:Nat)(rt:Value)(A:Nat->Nat)(dp:Nat)(R:Rs)(w':World):Prop where
 r:V w' rb (qJ s R.p R.e rt) 161
 f:Fr (λk=>k=rb\/k=bv\/z_.ownBlock=some k) w w'
 h:∃WW A',(∀f,f<p->A' f=A f)/\MK bv B0 d WW (xs++R.ws.map (cj A')) w'/\l_ z_ WW w w'/\∀t∈R.ws,RT w' A' (λk=>w.heap.size<=k/\k<w'.heap.size/\WW.ownBlock≠some k) R.p (9-dp) t
theorem zG(hV:Cb q n){w:World}{p:Nat}(A:Nat->Nat)(hn:2*(q.size-p)+1<=n)(hp:p<=q.size)(za:m<=8)(P:f.length<=q.size)(W:V w k (qJ q p 0 c) 161)(z:MK i j b a f w)(G:b.kind=4\/b.kind=5)(hne:i≠k)(N:a.ownBlock≠some k)(hB:j<=w.heap.size)(v u:List UInt8)(L:u.length<=(m+1)*10000000):Calls prog 97 #[pT k,pT i,pT w.heap.size,.int .i64 ((m:Int)+1)] (w.alloc (.cells (qR ⟨0,0,[],v,u,0,0,-1⟩ (.slice none 0 0)) 195)) λr F=>r=.returned (.tuple #[])/\xh w k i j b a f q p c A m (rd (E q) n false (m+1) v u b.kind p []) F:=by
 have Yf:i<w.heap.size:=z.k.lt;have hrb:k<w.heap.size:=W.lt;have C:∀o,a.ownBlock=some o->o<w.heap.size:=λo G=>(z.row.lt o G).2;have K:MK i j b a f (w.alloc (.cells (qR ⟨0,0,[],v,u,0,0,-1⟩ (.slice none 0 0)) 195)):=⟨z.k.alloc _,z.row.alloc _,z.lt⟩;have h:=hV (w.alloc (.cells (qR ⟨0,0,[],v,u,0,0,-1⟩ (.slice none 0 0)) 195)) k w.heap.size (sA i) b.kind j b a f p c A (m+1) v u hn hp om om L P (W.alloc _) (V.new _ _ _) (I ⟨i,rfl,K,rfl,G⟩) om (by
   rintro⟨J,e,x|x⟩;.grind
   exact N x) (by
   rintro⟨J,e,x|x⟩;.grind
   have:=C _ x;omega) (by simp;omega);refine mo h λF d=>?_;refine⟨rfl,?_⟩;obtain⟨R,B,M,_⟩:=d.r;have e0:R=c:=M si;subst e0;obtain⟨s,hH,T,hT⟩:=d.h;obtain⟨J,e,S,_,_⟩:=hH.resolve_left (λx=>by cases x.1);injection e with e;injection e with e _ _;subst e;have D:(w.alloc (.cells (qR ⟨0,0,[],v,u,0,0,-1⟩ (.slice none 0 0)) 195)).heap.size=w.heap.size+1:=si;have hle:w.heap.size+1<=F.heap.size:=by have:=d.f.size;rw[D]at this;exact this
 have y:l_ a s w F:=by
  rcases T si with x|⟨g,x1,x2,x3⟩;.exact Y x
  rw[D]at x2;exact I ⟨g,x1,om,x3⟩
 have U:∀o,s.ownBlock=some o->o≠w.heap.size:=λo G=>by
  rcases T si with x|⟨g,x1,x2,x3⟩;.grind
  grind
 have hF:Fr (λo=>o=k\/o=i\/a.ownBlock=some o) w F:=by
  have f0:=(Fr.refl (λo=>o=k\/o=i\/a.ownBlock=some o) w).alloc (.cells (qR ⟨0,0,[],v,u,0,0,-1⟩ (.slice none 0 0)) 195);refine f0.new d.f ?_;rintro l hi(x|x|⟨J,e,x|x⟩);.exact Y x
  .omega
  .grind
  exact I (I x)
 cases n with|zero=>omega|succ n=>
  rcases Cc (s:=E q) n (m+1) v u b.kind p []with hz|⟨t,H,hfr⟩;.refine⟨B,hF,s,A,λ_ _=>rfl,?_,y,λt H=>by rw[hz]at H;cases H⟩;rw[hz]at S⊢;exact S
  obtain⟨A',hA,hAt,hRT⟩:=hT t H;refine⟨B,hF,s,A',hA,?_,y,λt' ht'=>?_⟩;.grind[cj]
  grind
variable{r:Rs}
theorem xh.WX(h:xh (w.drewN n) k i j b a f q m c d g r v):xh w k i j b a f q m c d g r v:=⟨h.r,((Fr.refl _ w).drewN n).trans h.f,h.h⟩
theorem Hj(x:Cb q n)(hs:q.size<=2000000)(A:Nat->Nat)(U:2*(q.size-m)+1<=n)(W:m<=q.size)(y:g<=8)(WY:b.path.length<=g*10000000)(D:f.length<=q.size)(B:V w k (qJ q m 0 c) 161)(p:MK i j b a f w)(K:b.kind=4)(z:i≠k)(C:a.ownBlock≠some k)(R:j<=w.heap.size)(h1:1<=g):Calls prog 169 #[pT k,pT i,.int .i64 ((g+1:Nat):Int)] w λr s=>r=.returned (.tuple #[])/\xh w k i j b a f q m c A g (rd (E q) n false (g+1) [] (b.path++[91]++dec f.length++[93]) 4 m []) s:=by
 obtain⟨H,c0,rfl⟩:=X p.row;have c4:w.cell? (aD i 4)=some (.string (sb b.path)):=p.k.cell 4;have c8:w.cell? (aD i 8)=some (.slice H f.length c0):=p.k.cell 8;have HV:=Z x;have HB:=Z p;have HR:=Z B;have F:(sb b.path).size<=80000000:=by rw[iN];omega
 have G:(sb (dec f.length)).size<=2000001:=by rw[iN];have:=nU f.length;omega
 obtain⟨P,J⟩:∃P,P=sb b.path:=⟨_,rfl⟩;obtain⟨d,v⟩:∃d,d=sb (dec f.length):=⟨_,rfl⟩;have N:Hid (∀w,Calls prog 217 #[.int .i64 (f.length:Nat)] w λr s=>r=.returned (.string d)/\∃l,s=w.drewN l):=λw=>by rw[v];exact Hg f.length om w
 have u:Hid (P++⟨#[91]⟩++d++⟨#[93]⟩=sb (b.path++[91]++dec f.length++[93])):=by show P++sb [91]++d++sb [93]=_;grind[ez]
 have M:Hid (∀o,Calls prog 97 #[pT k,pT i,pT w.heap.size,.int .i64 ((g:Int)+1)] ((w.drewN o).alloc (.cells #[.int .i64 0,.int .i64 0,.string ⟨#[]⟩,.string ⟨#[]⟩,.string (P++⟨#[91]⟩++d++⟨#[93]⟩),.int .i64 0,.int .i64 0,.int .i64 (-1),.slice none 0 0] 195)) λr s=>r=.returned (.tuple #[])/\xh w k i j b (.slice H f.length c0) f q m c A g (rd (E q) n false (g+1) [] (b.path++[91]++dec f.length++[93]) 4 m []) s):=λo=>by rw[u.o];have t:=zG (w:=w.drewN o) x A U W y D B ⟨p.k,p.row,p.lt⟩ (Y K) z C R [] (b.path++[91]++dec f.length++[93]) (by have:=nU f.length;simp;omega);rw[K]at t;exact t.mono λr s⟨e,h⟩=>⟨e,h.WX⟩
 rw[<-J]at F c4;rw[<-v]at G;have S:(P++⟨#[91]⟩).size<=80000001:=by rw[lR];show P.size+1<=_;omega
 have T:(P++⟨#[91]⟩++d).size<=82000002:=by rw[lR];omega
 clear x p B J v;go_enter func169,ntmps169;go_wp2_with fail;go_region_with(go_at_call 217;refine(N.o _).mono ?_;rintro r w1⟨rfl,k1,rfl⟩);all_goals go_wp2_with fail;refine(M.o _).mono ?_;rintro r w2⟨rfl,t⟩;have L:=Z t;clear t;go_wp2;go_end0;exact⟨rfl,L.o⟩
theorem pK(h:RR n q w k i a v)(c:i≠0):Calls prog 98 #[pT n] v λr f=>r=.returned (.tuple #[])/\RR n q w k i a f:=by
 have H:=Z h;clear h;go_enter func98,ntmps98;go_wp2;go_loopw[2,3]λ_ _ wr=>RR n q w k i a wrλ_ _ _=>0;case atStart=>exact H.o
 case round=>have d:=Z hrel;clear H hrel;go_wp2_with fail;refine mh (lG d.o 32 _ rfl de false (by simp[c])) λg b=>?_;go_wp2_with fail;refine mh (lG b.o 10 _ rfl de false (by simp[c])) λj e=>?_;clear b;go_wp2;(try simp only[Exit.inBlock,Exit.then]);refine bodyPost_ret (results_none rfl _ _ _) rfl ?_;exact⟨rfl,e.o⟩
def tL(s:List UInt8)(n a:Nat)(b:List UInt8)(j:Nat):Rs:=if(aM s j).e≠0 then⟨[],(aM s j).e,(aM s j).p⟩else if bt s (sk s (aM s j).p)=58 then rd s n false (a+1) (aM s j).t (b++[91]++h_ (aM s j).t++[93]) 5 (sk s (aM s j).p+1) []else⟨[],2,sk s (aM s j).p⟩
theorem MN(l:List UInt8):(h_ l).length<=2*l.length+2:=by grind[sR,h_]
theorem xh.base(h:xh v n k i b a f q m c d g r u)(l:Fr (λp=>p=n) w v)(L:j<=m):xh w n k i b a f q j c d g r u:=by
 obtain⟨y,A,B,C,D,F⟩:=h.h;refine⟨h.r,(l.mono λ_ _ e=>Y e).trans h.f,y,A,λs M=>B s om,C,?_,λt G=>?_⟩
 .rcases D with x|⟨o,H,J,K⟩;.exact Y x
  exact I ⟨o,H,az l.size J,K⟩
 exact RT.mono (λp z=>⟨az l.size z.1,z.2⟩) lr _ _ (F t G)
theorem xh.none(h:RR n q w m g c v)(l:MK k i b a f w)(o:k≠n)(p:a.ownBlock≠some n):xh w n k i b a f q j c d z ⟨[],g,m⟩ v:=by refine⟨h.k,h.f.mono λ_ _ x=>Y x,a,d,λ_ _=>rfl,?_,Y rfl,λt s=>by cases s⟩;simp only[List.map_nil,List.append_nil];exact⟨l.k.fr h.f o,aV l.row λe r=>h.f.block e (l.row.lt e r).2 λx=>p (by unfold PB at x;rw[<-x];exact r),l.lt⟩
theorem Hk(hV:Cb q n)(hs:q.size<=2000000){p:Nat}(A:Nat->Nat)(hn:2*(q.size-p)+1<=n)(hp:p<=q.size)(za:m<=8)(WY:b.path.length<=m*10000000)(hxl:f.length<=q.size)(hr:V w k (qJ q p 0 c) 161)(z:MK i j b a f w)(hk:b.kind=5)(C:i≠k)(J:a.ownBlock≠some k)(hB:j<=w.heap.size):Calls prog 170 #[pT k,pT i,.int .i64 ((m+1:Nat):Int)] w λr U=>r=.returned (.tuple #[])/\xh w k i j b a f q p c A m (tL (E q) n m b.path p) U:=by
 obtain⟨a0,c0,rfl⟩:=X z.row;obtain⟨T,hT⟩:∃T,T=aM (E q) p:=⟨_,rfl⟩;have y:=j_ (s:=E q) (i:=p) (by rw[ak];exact hp);have H:=MO (s:=E q) (i:=p);rw[<-hT,ak]at y;rw[<-hT,ak]at H;have G:Hid (∀w0 w,RR k q w0 p 0 c w->Calls prog 126 #[pT k] w λr U=>r=.returned (.string (sb T.t))/\RR k q w0 T.p T.e c U):=λw0 w h=>by rw[hT];exact MI h om
 have D:q.size<=4000000:=om;have R0:Hid (RR k q w p 0 c w):=⟨hr,Fr.refl _ _⟩;have HB:=Z z;by_cases S:T.e=0
 .obtain⟨s,hm⟩:∃s,s=sk (E q) T.p:=⟨_,rfl⟩;have hml:s<=q.size:=by rw[hm,<-ak q];exact gB (by rw[ak];exact y.2.1)
  have hmg:T.p<=s:=by rw[hm];exact e_ _ _
  by_cases u:bt (E q) s=58
  .have hm1:s<q.size:=Vf u de;have M:tL (E q) n m b.path p=rd (E q) n false (m+1) T.t (b.path++[91]++h_ T.t++[93]) 5 (s+1) []:=by grind[tL]
   rw[M];have K:eU (E q) s 0 58=s+1:=by simp[eU,u]
   have L:eW (E q) s 0 58=0:=by simp[eW,u]
   have E1:=Z K;have E2:=Z L;have HE:=Z S;have HM:=Z hm;have Xy:=MN T.t;have hz1:(sb b.path).size<=80000000:=by rw[iN];omega
   have eE:(sb (h_ T.t)).size<=4000002:=by rw[iN];omega
   obtain⟨P,hP⟩:∃P,P=sb b.path:=⟨_,rfl⟩;obtain⟨d,hQ⟩:∃d,d=sb (h_ T.t):=⟨_,rfl⟩;obtain⟨N,hN⟩:∃N,N=sb T.t:=⟨_,rfl⟩;have HQ:Hid (∀w,Calls prog 218 #[.string N] w λr U=>r=.returned (.string d)/\Below w.heap.size w U):=λw=>by rw[hQ,hN];have:=MH (w:=w) (s:=sb T.t) (by rw[iN];omega);grind[zE]
   have HPQ:P++⟨#[91]⟩++d++⟨#[93]⟩=sb (b.path++[91]++h_ T.t++[93]):=by show P++sb [91]++d++sb [93]=_;grind[ez]
   have HC:Hid (∀v F,RR k q w (s+1) 0 c v->Below v.heap.size v F->Calls prog 97 #[pT k,pT i,pT F.heap.size,.int .i64 ((m:Int)+1)] (F.alloc (.cells #[.int .i64 0,.int .i64 0,.string ⟨#[]⟩,.string N,.string (P++⟨#[91]⟩++d++⟨#[93]⟩),.int .i64 0,.int .i64 0,.int .i64 (-1),.slice none 0 0] 195)) λr U=>r=.returned (.tuple #[])/\xh w k i j b (.slice a0 f.length c0) f q p c A m (rd (E q) n false (m+1) T.t (b.path++[91]++h_ T.t++[93]) 5 (s+1) []) U):=λv F t B=>by rw[HPQ,hN];have f4:Fr (λo=>o=k) w F:=t.f.trans (Fr.aN B);have hr4:V F k (qJ q (s+1) 0 c) 161:=t.k.fr (Fr.aN (K:=λ_=>False) B) id;have Tt:MK i j b (.slice a0 f.length c0) f F:=⟨z.k.fr f4 C,aV z.row λo hk=>f4.block o (z.row.lt o hk).2 λx=>J (by rw[<-x];exact hk),z.lt⟩;have R:=zG (w:=F) hV A (p:=s+1) om om za hxl hr4 Tt (I hk) C J (az hB f4.size) T.t (b.path++[91]++h_ T.t++[93]) (by simp;omega);rw[hk]at R;exact R.mono λr U⟨e,h⟩=>⟨e,h.base f4 om⟩
   rw[<-hP]at hz1;rw[<-hQ]at eE;rw[<-hN]at G;have Oj:(P++⟨#[91]⟩).size<=80000001:=by rw[lR];show P.size+1<=_;omega
   have hc2:(P++⟨#[91]⟩++d).size<=84000003:=by rw[lR];omega
   have HP4:Hid (∀W,Fr (λo=>o=k) w W->W.cell? (aD i 4)=some (.string P)):=λW g=>by rw[g.cell (p:=aD i 4) z.k.lt C,hP];exact z.k.cell 4
   clear M hT y H z hr K L S hm u hP hQ hN HPQ Xy hV;go_enter func170,ntmps170;go_wp2_with fail;refine mo (G.o _ _ R0.o) λw1 h1=>?_;rw[HE.o]at h1;have R1:=Z h1;clear h1;go_wp2_with fail;refine(ef R1.o D).mono ?_;rintro r w2⟨rfl,l,hj,R⟩;have Ie:l=s:=by rw[<-hj.eq,HM.o]
   subst Ie;have R2:=Z R;clear R hj;go_wp2_with fail;refine mo (kj R2.o D 58 _ rfl de) λv t=>?_;rw[E1.o,E2.o]at t;have R3:=Z t;have c2:v.cell? (aD k 2)=some (.int .i64 0):=t.c2;have c4:v.cell? (aD i 4)=some (.string P):=HP4.o _ t.f;clear t;go_wp2_with fail;go_region_with(go_at_call 218;refine(HQ.o _).mono ?_;rintro r F⟨rfl,B⟩;have c4':F.cell? (aD i 4)=some (.string P):=HP4.o _ (R3.o.f.drew.trans (Fr.aN B)));all_goals go_wp2_with fail;refine mh (HC.o v F R3.o (Fr.below (((Fr.refl (λ_=>False) v).drew).trans (Fr.aN B)))) λw5 H5=>?_;go_wp2;go_end0;exact⟨rfl,H5.o⟩
  have M:tL (E q) n m b.path p=⟨[],2,s⟩:=by grind[tL]
  rw[M];have K:eU (E q) s 0 58=s:=by simp[eU,u]
  have L:eW (E q) s 0 58=2:=by simp[eW,u]
  have E1:=Z K;have E2:=Z L;have HE:=Z S;have HM:=Z hm;clear M hT y H z hr K L S hm u;go_enter func170,ntmps170;go_wp2_with fail;refine mo (G.o _ _ R0.o) λw1 h1=>?_;rw[HE.o]at h1;have R1:=Z h1;clear h1;go_wp2_with fail;refine(ef R1.o D).mono ?_;rintro r w2⟨rfl,l,hj,R⟩;have Ie:l=s:=by rw[<-hj.eq,HM.o]
  subst Ie;have R2:=Z R;clear R hj;go_wp2_with fail;refine mo (kj R2.o D 58 _ rfl de) λv t=>?_;rw[E1.o,E2.o]at t;have R3:=Z t;have c2:v.cell? (aD k 2)=some (.int .i64 2):=t.c2;clear t;go_wp2;(try simp only[Exit.inBlock,Exit.then]);refine bodyPost_ret (results_none rfl _ _ _) rfl ?_;exact⟨rfl,xh.none R3.o HB.o C J⟩
 have M:tL (E q) n m b.path p=⟨[],T.e,T.p⟩:=by grind[tL]
 rw[M];have K:eU (E q) T.p T.e 58=T.p:=by simp[eU,S]
 have L:eW (E q) T.p T.e 58=T.e:=by simp[eW,S]
 have E1:=Z K;have E2:=Z L;have WE:((T.e:Int)!=0)=true:=by rw[bne_iff_ne];omega
 have HN:=Z S;clear M hT y H z hr K L S;go_enter func170,ntmps170;go_wp2_with fail;refine mh (G.o _ _ R0.o) λw1 R1=>?_;go_wp2_with fail;refine mh (pK R1.o HN.o) λw2 R2=>?_;go_wp2_with fail;refine mo (kj R2.o D 58 _ rfl de) λv t=>?_;rw[E1.o,E2.o]at t;have R3:=Z t;have c2:v.cell? (aD k 2)=some (.int .i64 (T.e:Nat)):=t.c2;clear t;go_wp2;(try simp only[Exit.inBlock,Exit.then]);refine bodyPost_ret (results_none rfl _ _ _) rfl ?_;exact⟨rfl,xh.none R3.o HB.o C J⟩
structure wL(w:World)(rb bv:Nat)(d:jt)(s:ByteArray)(rt:Value)(A0:Nat->Nat)(dp j:Nat)(i e:Nat)(ws:List Tv)(z_:Value)(A:Nat->Nat)(wr:World):Prop where
 r:V wr rb (qJ s i e rt) 161
 b:MK bv w.heap.size d z_ (ws.map (cj A)) wr
 f:Fr (λq=>q=rb\/q=bv) w wr
 a:∀f,f<j+1->A f=A0 f
 t:∀c∈ws,RT wr A (λq=>w.heap.size<=q/\q<wr.heap.size/\z_.ownBlock≠some q) i (9-dp) c
variable{t:List Tv}
theorem wL.step(h:wL w n k b q a d i j m g t c o v)(f:RR n q v z B a u)(r:k≠n)(D:n<w.heap.size)(F:m<=z):wL w n k b q a d i j z B t c o u:=by have s:∀l,w.heap.size<=l->l<v.heap.size->u.heap[l]?=v.heap[l]?:=λl y A=>f.f.block l A (λx=>by unfold PB at x;omega);refine⟨f.k,⟨h.b.k.fr f.f r,aV h.b.row λl p=>s l (h.b.row.lt l p).1 (h.b.row.lt l p).2,h.b.lt⟩,h.f.trans (f.f.mono λ_ _ x=>Y x),h.a,λe C=>?_⟩;have y:=RT.keep (w':=u) (λl p=>s l p.1 p.2.1) _ _ (h.t e C);grind[RT.mono]
theorem wL.item(h:wL w n k b q a d i j m 0 t c o v)(l:xh v n k w.heap.size b c (t.map (cj o)) q m a o i r u)(S:n<w.heap.size)(N:k<w.heap.size)(R:j+1<=m)(P:m<=r.p):∃A z,wL w n k b q a d i j r.p r.e (t++r.ws) A z u:=by
 obtain⟨F,z,B,T,L,M⟩:=l.h;have H:∀p,c.ownBlock=some p->w.heap.size<=p/\p<v.heap.size:=λp s=>h.b.row.lt p s;have C:Fr (λp=>p=n\/p=k) w u:=h.f.new l.f (by grind);have G:t.map (cj z)=t.map (cj o):=List.map_congr_left (λe y=>by have:=(h.t e y).af;unfold cj;rw[B _ this]);refine⟨F,z,l.r,?_,C,λf D=>(B f om).trans (h.a f D),λe y=>?_⟩;.grind
 rcases gU.1 y with y|y
 .have J:=RT.keep (w':=u) (λp s=>l.f.block p s.2.1 (by grind)) _ _ (h.t e y);have K:=RT.adr (A':=z) (λf C=>B f C) _ _ J;refine RT.mono (λp s=>⟨s.1,aI s.2.1 l.f.size,?_⟩) P _ _ K;rcases L with x|⟨g,U,W,x3⟩;.rw[x];exact s.2.2
  grind
 exact RT.mono (λp s=>⟨az h.f.size s.1,s.2⟩) lr _ _ (M e y)
def lB(d:jt)(R:Rs):jt:={d with to:=if R.e=0 then R.p else d.to,cl:=if R.e=0 then(R.p:Int)-1 else d.cl}
structure PtP(w:World)(rb bv:Nat)(d:jt)(s:ByteArray)(rt:Value)(A0:Nat->Nat)(dp j:Nat)(R:Rs)(w':World):Prop where
 r:V w' rb (qJ s R.p R.e rt) 161
 f:Fr (λq=>q=rb\/q=bv) w w'
 h:∃z_ A,(∀f,f<j+1->A f=A0 f)/\V w' bv (qR (lB d R) z_) 195/\(∀q,z_.ownBlock=some q->w.heap.size<=q/\q<w'.heap.size)/\w'.ownsRow 0 159 1 z_ R.ws.length (R.ws.map (cj A))/\∀c∈R.ws,RT w' A (λq=>w.heap.size<=q/\q<w'.heap.size) R.p (9-dp) c
theorem wL.bad{R:Rs}(h:wL w n k b q a d i j R.p R.e R.ws c o v)(l:R.e≠0):PtP w n k b q a d i j R v:=by
 have m:lB b R=b:=by unfold lB;rw[aa l,aa l]
 refine⟨h.r,h.f,c,o,h.a,by rw[m];exact h.b.k,λf g=>h.b.row.lt f g,?_,λe p=>RT.mono (λf g=>⟨g.1,g.2.1⟩) lr _ _ (h.t e p)⟩;have:=fR h.b.row;grind
theorem wL.good{R:Rs}(h:wL w n k b q a d i j R.p R.e R.ws c o v)(t:R.e=0)(p:k≠n)(z:k<w.heap.size):PtP w n k b q a d i j R ((v.setCell (aD k 6) (.int .i64 (R.p:Nat))).setCell (aD k 7) (.int .i64 ((R.p:Int)-1))):=by
 have f2:Fr (λg=>g=k) v ((v.setCell (aD k 6) (.int .i64 (R.p:Nat))).setCell (aD k 7) (.int .i64 ((R.p:Int)-1))):=((Fr.refl (λg=>g=k) v).setCell (aD k 6) (Y rfl) _).setCell (aD k 7) (Y rfl) _;have s:∀g,w.heap.size<=g->g<v.heap.size->((v.setCell (aD k 6) (.int .i64 (R.p:Nat))).setCell (aD k 7) (.int .i64 ((R.p:Int)-1))).heap[g]?=v.heap[g]?:=λg r y=>f2.block g y om;have m:((v.setCell (aD k 6) (.int .i64 (R.p:Nat))).setCell (aD k 7) (.int .i64 ((R.p:Int)-1))).heap.size=v.heap.size:=by simp[World.setCell]
 have u:lB b R={b with to:=R.p,cl:=(R.p:Int)-1}:=by unfold lB;rw[ae t,ae t]
 refine⟨h.r.fr f2 λe=>p e.symm,h.f.trans (f2.mono λ_ _ x=>I x),c,o,h.a,?_,λg l=>by rw[m];exact h.b.row.lt g l,?_,λf A=>?_⟩;.rw[u];exact(h.b.k.set 6 _).set 7 _
 .have:=fR (aV h.b.row λg l=>s g (h.b.row.lt g l).1 (h.b.row.lt g l).2);grind
 have r:=RT.keep (λg l=>s g l.1 l.2.1) _ _ (h.t f A);exact RT.mono (λg l=>⟨l.1,by rw[m];exact l.2.1⟩) lr _ _ r
