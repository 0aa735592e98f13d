import Derived.Test.YtcbadebjpogmlaaGreatDoorVvShelfB
import Derived.Test.YtcbadebjpogmlaaGreatDoorVvMkV
import Derived.Lib.AppendIntMem
import Derived.Deep.WholeRow
import Derived.Test.YtcbadebjpogmlaaGreatDoorVvAe
set_option maxHeartbeats 4000000
set_option maxRecDepth 100000
namespace Go.Proofs.YtcbadebjpogmlaaGreatDoor
open Go.RowKit Tr Go.Proofs.Tryz
theorem JA:Builder.Extra prog Tryz.pO where
 sizeBuilder:=by kernel_rfl
 liesBuilder:=by kernel_rfl
 t5:=Tryz.nR.t5
 a5:=Tryz.nR.a5
 z5:=Tryz.nR.z5
 v5:=Tryz.nR.v5
 infoByte:=by kernel_rfl
 cellsByte:=by kernel_rfl
 sizeByte:=by kernel_rfl
 neB5:=de
theorem Ax:∀n,Lib.decDigits n=dec n:=by intro n;induction n using Nat.strongRecOn with|_ n a=>rw[Lib.decDigits];grind[oV,oW]
theorem JB(n:Nat):Lib.itoa (n:Int)=dec n:=by unfold Lib.itoa;grind[Ax]
theorem nS(c:UInt8)(a:List UInt8):∀s:List UInt8,Lib.replaceK [c] a (Lib.count s [c]) s=s.flatMap λb=>if b=c then a else[b]
 |[]=>by
  have:Lib.count [] [c]=0:=by rw[Lib.count_one];rfl
  rw[this];rfl|b::l=>by
  have f:=nS c a l;by_cases h:b=c;.subst h;rw[Lib.count_cons_eq,Nat.add_comm,Lib.replaceK_hit _ _ _ _ 0 (by rw[Lib.index_one];simp[Lib.indexByte])];simp[f]
  rw[Lib.count_cons_ne b c l h,kD,aa h,<-f];cases g:Lib.count l [c]with
  |zero=>rfl|succ m=>
   obtain⟨i,e⟩:=Lib.index_of_count (s:=l) (old:=[c]) om;have d:Lib.index (b::l) [c]=((i+1:Nat):Int):=by rw[Lib.index_one]at e⊢;unfold Lib.indexByte;grind
   rw[Lib.replaceK_hit _ _ _ _ _ d,Lib.replaceK_hit _ _ _ _ _ e];simp
theorem jD(c:UInt8)(a:List UInt8)(d:[c]≠a)(s:List UInt8):Lib.replaceAll s [c] a=s.flatMap λb=>if b=c then a else[b]:=by unfold Lib.replaceAll Lib.replace Lib.replaceNum;grind[nS]
theorem Ay(s:List UInt8):Lib.replaceAll (Lib.replaceAll s [92] [92,92]) [39] [92,39]=s.flatMap hJ:=by rw[jD 92 [92,92] si,jD 39 [92,39] si,List.flatMap_assoc];apply b;grind[hJ]where b{c e:Type}{f g:c->List e}:∀{l:List c},(∀a∈l,f a=g a)->l.flatMap f=l.flatMap g|[],_=>rfl|a::l,h=>by rw[kD,kD,h a (dT),b λx d=>h x (f_ _ d)]
structure EN(w:World):Prop where
 ev:EV w
 tab:Lib.TabIs prog w "internal/strconv.uint64pow10" .u64 Lib.pow10Tab
 tl:0<w.heap.size
 ml:∃m,w.cell? (aD 1 0)=some (.int .i64 m)ll:1<w.heap.size
theorem U':prog.globalNamed "internal/strconv.uint64pow10"=some 0:=by kernel_rfl
theorem EN.keep{w w':World}(h:EN w)(f:Q w w'):EN w':=by
 refine⟨h.ev.keep f,?_,aI h.tl f.size,?_,aI h.ll f.size⟩;.have:=h.tab;unfold Lib.TabIs World.var? at this⊢;rw[U']at this⊢;simp only[Option.bind_some]at this⊢;rw[f.block _ h.tl id];exact this
 obtain⟨m,a⟩:=h.ml;exact⟨m,(f.cell (p:=aD 1 0) h.ll id).trans a⟩
variable{w:World}
theorem Va(h:EN w)(n:Nat)(f:n<=4000000):Calls prog 75 #[.int .i64 (n:Nat)] w λr a=>r=.returned (.string (bR (dec n)))/\Q w a:=(Any.strconv_Itoa Tryz.JC (n:Int) om om w h.tab).mono λe a⟨b,k,d,c⟩=>⟨by rw[b,JB];rfl,by rw[c];exact Fr.aN (Lib.below_grow _ w lr k d)⟩
theorem nT(h:EN w)(s d f:ByteArray)(n:s.size<=16000000)(g:d.size=1)(l:f.size<=2):Calls prog 104 #[.string s,.string d,.string f] w λe i=>e=.returned (.string (bR (Lib.replaceAll (E s) (E d) (E f))))/\Q w i:=by obtain⟨m,k⟩:=h.ml;refine(Any.strings_ReplaceAll Tryz.nR JA s d f m w om k om ?_).mono λe i⟨g,j⟩=>⟨g,Fr.aN j⟩;have a:=Lib.count_le s.data.toList d.data.toList;have b:s.data.toList.length=s.size:=ak s;have c:Lib.count s.data.toList d.data.toList*f.size<=16000001*2:=Nat.mul_le_mul om l;grind
theorem Fl(h:EN w)(s:ByteArray)(q:s.size<=4000000):Calls prog 76 #[.string s] w λe f=>e=.returned (.string (bR ((E s).flatMap hJ)))/\Q w f:=by
 have j:=Z (nT h s ⟨#[92]⟩ ⟨#[92,92]⟩ om rfl de);have d:(bR (Lib.replaceAll (E s) [92] [92,92])).size<=16000000:=by
  rw[jD 92 [92,92] si];show((E s).flatMap _).toArray.size<=_;have:∀l:List UInt8,(l.flatMap λb=>if b=92 then[92,92]else[b]).length<=2*l.length:=by intro l;induction l with|nil=>simp|cons a l r=>rw[kD,cG,nI];split<;>simp only[List.length_cons,List.length_nil]<;>omega
  grind[ak,E]
 have g:=Z h;have k:Hid (∀W,Q w W->Calls prog 104 #[.string (bR (Lib.replaceAll (E s) [92] [92,92])),.string ⟨#[39]⟩,.string ⟨#[92,39]⟩] W λe f=>e=.returned (.string (bR ((E s).flatMap hJ)))/\Q W f):=λW p=>by refine(nT (g.o.keep p) _ ⟨#[39]⟩ ⟨#[92,39]⟩ d rfl de).mono λe f⟨n,o⟩=>⟨?_,o⟩;rw[n,lQ,<-Ay];rfl
 clear h d g;go_enter func76,ntmps76;go_wp2_with fail;refine mh j.o λt i=>?_;go_wp2_with fail;refine mo (k.o _ i.o) λu c=>?_;have m:=Z (i.o.trans c);clear c;go_wp2;go_ret;exact⟨rfl,m.o⟩
def PH(w:World):Nat->Nat->List UInt8->Prop|0,_,_=>False|n+1,b,p=>∃d a f sv,V w b (kF d a f sv) 130/\f<=4000000/\d.name.length<=4000000/\((a=.pointer none/\p=[36])\/∃g c j h i e,a=lF g/\V w g (kF c j h i) 130/\I6 c/\(c.kind=4\/c.kind=5)/\PH w n g e/\p=ji c.kind e f d.name)
theorem PH.keep{w w':World}(f:Q w w'):∀{n b:Nat}{p:List UInt8},PH w n b p->PH w' n b p
 |0,_,_,h=>h|_+1,_,_,⟨d,a,o,sv,j,k,l,m⟩=>by
  refine⟨d,a,o,sv,j.fr f id,k,l,?_⟩;rcases m with x|⟨q,i,r,c,g,e,s,t,u,v,y,z⟩;.exact Y x
  exact I ⟨q,i,r,c,g,e,s,t.fr f id,u,v,y.keep f,z⟩
theorem Dg(a b:List UInt8):bR a++bR b=bR (a++b):=by unfold bR;apply ByteArray.ext;simp
theorem Dh(l:List UInt8):(l.flatMap hJ).length<=2*l.length:=by induction l with|nil=>simp|cons a l b=>grind[hJ]
theorem JD:∀{n b:Nat}{p:List UInt8},PH w n b p->p.length<=n*8000010
 |0,_,_,h=>h.elim|n+1,b,p,⟨d,c,q,sv,k,l,m,a⟩=>by
  rcases a with⟨_,rfl⟩|⟨r,j,s,e,g,f,_,_,_,_,i,rfl⟩;.simp;omega
  have o:=JD i;grind[nU,Dh,ji,h_]
theorem qI(l:List UInt8):(bR l).size=l.length:=by simp[bR,ByteArray.size]
theorem JE:∀(n:Nat){w:World}{b:Nat}{p:List UInt8},n<=10->EN w->PH w n b p->Calls prog 55 #[pT b] w λr c=>r=.returned (.string (bR p))/\Q w c
 |0,_,_,_,_,_,h=>h.elim|n+1,w,b,p,N,u,⟨d,par,i,sv,f,S,C,T⟩=>by
  have R:w.cell? (aD b 6)=some (.int .i64 (i:Nat)):=f.cell 6;have L:w.cell? (aD b 7)=some (.string (bR d.name)):=f.cell 7;rcases T with⟨rfl,rfl⟩|⟨m,s,pp,pix,psv,g,rfl,J,K,x4,A,rfl⟩;.have c5:w.cell? (aD b 5)=some (.pointer none):=f.cell 5;clear f u;go_enter func55,ntmps55;go_wp2;go_ret;exact⟨rfl,Fr.refl _ _⟩
  have c5:w.cell? (aD b 5)=some (pT m):=f.cell 5;have q0:w.cell? (aD m 0)=some (.int .i64 (gr s:Nat)):=J.cell 0;obtain⟨P,t⟩:∃P,P=bR g:=⟨_,rfl⟩;have U:P.size<=80000100:=by rw[t,qI];have:=JD A;have:n*8000010<=9*8000010:=Nat.mul_le_mul_right _ om;omega
  have x:Hid (∀W,Q w W->Calls prog 55 #[pT m] W λr c=>r=.returned (.string P)/\Q W c):=λW e=>by rw[t];exact JE n om (u.keep e) (A.keep e)
  rcases x4 with H|k5
  .have M:gr s=5:=((qo K).2.1).2 H;rw[M]at q0;obtain⟨a,j⟩:∃a,a=bR (dec i):=⟨_,rfl⟩;have G:a.size<=4000001:=by rw[j,qI];have:=nU i;omega
   have z:Hid (∀W,Q w W->Calls prog 75 #[.int .i64 (i:Nat)] W λr c=>r=.returned (.string a)/\Q W c):=λW e=>by rw[j];exact Va (u.keep e) i S
   have q:Hid (∀W,Q w W->W.cell? (aD b 5)=some (pT m)/\W.cell? (aD b 6)=some (.int .i64 (i:Nat))/\Q w W):=λW e=>⟨(e.cell (p:=aD b 5) f.lt id).trans c5,(e.cell (p:=aD b 6) f.lt id).trans R,e⟩;have v:Hid (bR (ji s.kind g i d.name)=P++⟨#[91]⟩++a++⟨#[93]⟩):=by unfold Hid ji;rw[ae H,t,j];show _=bR g++bR [91]++bR (dec i)++bR [93];grind[Dg]
   have D:(P++⟨#[91]⟩).size<=80000101:=by rw[lR];show P.size+1<=_;omega
   have F:(P++⟨#[91]⟩++a).size<=84000102:=by rw[lR];omega
   rw[v.o];clear f u J K A H M t j v C N;go_enter func55,ntmps55;go_wp2;go_region_heldλc=>c.cell? (aD b 5)=some (pT m)/\c.cell? (aD b 6)=some (.int .i64 (i:Nat))/\Q w c(first|exact q.o _ ((Fr.refl _ _).drewN 1)|exact q.o _ (by assumption))(first|(go_at_call 55;refine(x.o _ (by first|assumption|exact‹_/\_/\Q w _›.2.2)).mono ?_;rintro r o⟨rfl,k⟩;have l:Q w o:=Fr.trans (by first|assumption|exact‹_/\_/\Q w _›.2.2) k)|(go_at_call 75;refine(z.o _ (by first|assumption|exact‹_/\_/\Q w _›.2.2)).mono ?_;rintro r o⟨rfl,k⟩;have l:Q w o:=Fr.trans (by first|assumption|exact‹_/\_/\Q w _›.2.2) k));all_goals go_wp2;go_ret;exact⟨rfl,by first|assumption|exact‹_/\_/\Q w _›.2.2⟩
  have n5:((gr s:Int)==5)=false:=by grind[qo,gr]
  obtain⟨a,j⟩:∃a,a=bR (d.name.flatMap hJ):=⟨_,rfl⟩;have G:a.size<=8000000:=by rw[j,qI];have:=Dh d.name;omega
  have z:Hid (∀W,Q w W->Calls prog 76 #[.string (bR d.name)] W λr c=>r=.returned (.string a)/\Q W c):=λW e=>by have:=Fl (u.keep e) (bR d.name) (by rw[qI];exact C);grind[lQ]
  have q:Hid (∀W,Q w W->W.cell? (aD b 5)=some (pT m)/\W.cell? (aD b 7)=some (.string (bR d.name))/\Q w W):=λW e=>⟨(e.cell (p:=aD b 5) f.lt id).trans c5,(e.cell (p:=aD b 7) f.lt id).trans L,e⟩;have v:Hid (bR (ji s.kind g i d.name)=P++⟨#[91,39]⟩++a++⟨#[39,93]⟩):=by unfold Hid ji;rw[aa om,t,j];show _=bR g++bR [91,39]++bR (d.name.flatMap hJ)++bR [39,93];grind[Dg,h_]
  have D:(P++⟨#[91,39]⟩).size<=80000102:=by rw[lR];show P.size+2<=_;omega
  have F:(P++⟨#[91,39]⟩++a).size<=88000102:=by rw[lR];omega
  rw[v.o];obtain⟨B,y⟩:∃B,B=bR d.name:=⟨_,rfl⟩;rw[<-y]at L z q;clear f u J K A k5 t j v C N y;generalize gr s=kd at*;go_enter func55,ntmps55;go_wp2;go_region_heldλc=>c.cell? (aD b 5)=some (pT m)/\c.cell? (aD b 7)=some (.string B)/\Q w c(first|exact q.o _ ((Fr.refl _ _).drewN 1)|exact q.o _ (by assumption))(first
    |(go_at_call 55;refine(x.o _ (by first|assumption|exact‹_/\_/\Q w _›.2.2)).mono ?_;rintro r o⟨rfl,k⟩;have l:Q w o:=Fr.trans (by first|assumption|exact‹_/\_/\Q w _›.2.2) k)|(go_at_call 76;refine(z.o _ (by first|assumption|exact‹_/\_/\Q w _›.2.2)).mono ?_;rintro r o⟨rfl,k⟩;have l:Q w o:=Fr.trans (by first|assumption|exact‹_/\_/\Q w _›.2.2) k));all_goals go_wp2;go_ret;exact⟨rfl,by first|assumption|exact‹_/\_/\Q w _›.2.2⟩
def Fh(p:List UInt8)(a b:Nat):Value:=.agg #[.string (bR p),.int .i64 (a:Nat),.int .i64 (b:Nat)]
variable{n k i j:Nat}{a d f:Value}
theorem Vb{R:Ending->World->Prop}{b:Act}(k:b.defers=[])(j:b.tmps[2]?.getD undef=pT n)(c:V w n #[a,d,f] 42)(i:R (.returned (.agg #[a,d,f])) w):bodyPost prog f36 R .ret b w:=by have e:=c.cell 0;have g:=c.cell 1;have h:=c.cell 2;simp at e g h;refine bodyPost_ret (v:=.agg #[a,d,f]) ?_ k i;simp[results,results36,go_sem,j,e,g,h]
theorem Jo{p:List UInt8}(L:n<=10)(G:EN w)(h:PH w n k p){b:jt}(q:V w k (kF b a i d) 130):Calls prog 36 #[pT k] w λr g=>r=.returned (Fh p b.af b.to)/\Q w g:=by
 have c1:w.cell? (aD k 1)=some (.int .i64 (b.af:Nat)):=q.cell 1;have c2:w.cell? (aD k 2)=some (.int .i64 (b.to:Nat)):=q.cell 2;obtain⟨P,B⟩:∃P,P=bR p:=⟨_,rfl⟩;obtain⟨f,j⟩:∃f,f=w.heap.size:=⟨_,rfl⟩;obtain⟨m,e⟩:∃m,m=w.alloc (.cells #[.string ⟨#[]⟩,.int .i64 0,.int .i64 0] 42):=⟨_,rfl⟩;have v:Q w m:=by rw[e];exact(Fr.refl _ w).alloc _
 have D:V m f #[.string ⟨#[]⟩,.int .i64 0,.int .i64 0] 42:=by rw[e,j];exact V.new w _ _
 have A:Hid (Calls prog 55 #[pT k] m.drew λr g=>r=.returned (.string P)/\(Q w g/\V g f #[.string ⟨#[]⟩,.int .i64 0,.int .i64 0] 42)):=by have y:Q w m.drew:=v.drewN 1;rw[B];exact(JE n L (G.keep y) (h.keep y)).mono λr g⟨H,F⟩=>⟨H,y.trans F,V.fr (w:=m.drew) D F id⟩
 have o:=q.lt;have l:w.heap.size<=f:=om;have J:k≠f:=om;have z:Hid (∀W,Q w W->W.cell? (aD k 1)=some (.int .i64 (b.af:Nat))/\W.cell? (aD k 2)=some (.int .i64 (b.to:Nat))/\Q w W):=λW C=>⟨(C.cell (p:=aD k 1) o id).trans c1,(C.cell (p:=aD k 2) o id).trans c2,C⟩;unfold Fh;rw[<-B];have u:=Z e;have x:=Z v;have t:=Z j;clear q G h B D v e j;go_enter func36,ntmps36;go_wp2;rw[<-u.o,<-t.o];go_region_heldλg=>g.cell? (aD k 1)=some (.int .i64 (b.af:Nat))/\g.cell? (aD k 2)=some (.int .i64 (b.to:Nat))/\Q w g(first|exact z.o _ (x.o.drewN 1)|exact z.o _ (by assumption)|exact z.o _ (Fr.setCell (Fr.setCell (Fr.setCell (by assumption) (aD f 0) (I l) _) (aD f 1) (I l) _) (aD f 2) (I l) _))(first|(go_at_call 55;refine A.o.mono ?_;rintro r T⟨rfl,K,c⟩;have s:=Z c;have M:=c.cell 0;have N:=c.cell 1;have R:=c.cell 2;simp at M N R;have S:=c.fz;clear c));all_goals go_wp2;refine Vb rfl rfl (((s.o.set 0 _).set 1 _).set 2 _) ?_;exact⟨rfl,by first|assumption|exact‹_/\_/\Q w _›.2.2⟩
variable{b:Nat->Nat}{c:Nat->Prop}
theorem JF:∀{n:Nat}{d:Value}{l:Nat}{t:Tv},PT w b c n d l t->∀v∈ai n t,∃m f k,m<=n/\PT w b c m f k v
 |0,_,_,_,h,_,_=>h.elim|n+1,d,l,t,h,v,g=>by
  have g:v∈t::t.ws.flatMap (ai n):=g;rcases fU.1 g with e|e;.grind
  obtain⟨a,o,j⟩:=fE.1 e;obtain⟨i,p,rfl⟩:=gR.1 o;obtain⟨m,u,s,q,r⟩:=JF (h.2.2.2.2 i p) v j;grind
theorem ub{F:Tv->List Tv}{N:List Tv}(h:n<N.length):(N.take (n+1)).flatMap F=(N.take n).flatMap F++F N[n]:=by rw[eC h,iy];simp
theorem JG(F:Tv->List Tv)(N:List Tv)(j:Nat):((N.take j).flatMap F).length<=(N.flatMap F).length:=by
 have e:N.flatMap F=(N.take j).flatMap F++(N.drop j).flatMap F:=by rw[<-iy,iU]
 rw[e,cG];omega
theorem xQ{e:TypeId}{f:List Value}(h:w.ownsRow n e i a j f)(o:k<=n):w.ownsRow k e i a j f:=by
 refine⟨h.1,?_⟩;rcases h.2 with x|⟨b,c,d,g,l,m⟩;.exact Y x
 exact I ⟨b,c,d,g,az o l,m⟩
theorem Pj{tt:ByteArray}{p:List Sg}(hp:gW w n tt p){t:Tv}(ht:PT w b c 10 (.pointer none) k t)(hD:∀e,c e->e<w.heap.size)(hT:Tree t)(H:∀e,e<=p.length->(aq (p.take e) [t]).length<=900000000000):Calls prog 35 #[pT n,jf b t] w λr w'=>∃sv,r=.returned sv/\Q w w'/\w'.ownsRow w.heap.size 71 1 sv (aq p [t]).length ((aq p [t]).map (jf b)):=by
 obtain⟨sv,l,Dp,hb,F,hxl,hx1⟩:=hp;obtain⟨ao,cp,rfl⟩:=X F.o;have T:l.length=p.length:=hxl.symm;rw[T]at hb;have c1:w.cell? (aD n 1)=some (.slice ao p.length cp):=hb.cell 1;have HR:=Z F;have HT:=Z ht;have HTR:=Z hT;have HL:=Z H;have HDD:=Z hD;have G:=Z T;have Tb:=hb.lt;have O0:Hid ((w.alloc (.cells #[jf b t] 71)).ownsRow w.heap.size 71 1 (.slice (sA w.heap.size) 1 1) 1 [jf b t]):=⟨rfl,I ⟨w.heap.size,1,#[jf b t],rfl,aP _,heap_alloc_new w _,aP _,by unfold maxLen;decide,rfl,rfl⟩⟩;have K0:Hid (Q w (w.alloc (.cells #[jf b t] 71))):=(Fr.refl _ w).alloc _;have c1a:(w.alloc (.cells #[jf b t] 71)).cell? (aD n 1)=some (.slice ao p.length cp):=(K0.o.cell (p:=aD n 1) Tb id).trans c1;clear hb F ht hT H hD hxl T c1;unfold jf at*;go_enter func35,ntmps35;go_wp2;go_loopw[5,18]λsv i wr=>∃e:Nat,e<=p.length/\i=.int .i64 e/\Q w wr/\wr.ownsRow w.heap.size 71 1 sv (aq (p.take e) [t]).length ((aq (p.take e) [t]).map (jf b))λ_ i _=>p.length-(intOf i).toNat;case atStart=>exact⟨0,aT _,rfl,K0.o,O0.o⟩
 case round=>
  obtain⟨e,hk,rfl,hK,P⟩:=hrel;have KK:=Z hK;have OO:=Z P;clear hK P K0 O0 c1a;by_cases hlt:e<p.length
  .obtain⟨g,cap,hv,NK,nP⟩:=HR.o.o.form (by have:=G.o;omega);rw[G.o]at hv;simp only[Value.slice.injEq,true_and]at hv;obtain⟨rfl,rfl⟩:=hv;have nV:∀d:Nat,wr.cell? (aD g d)=w.cell? (aD g d):=λd=>KK.o.cell (p:=aD g d) nP id;have hkl:e<l.length:=by have:=G.o;omega
   have x:∀d:Nat,d<3->wr.cell? (aD g (e*3+d))=(l[e]).cells[d]?:=λd hc=>((nV _).trans (HR.o.o.cellAt (e*3+d) (by rw[G.o];omega))).trans (lS l e d hc hkl);have Vc:=x 0 de;have Vd:=x 1 de;have XH:=x 2 de;clear x nV;have Az:∀W,Q w W->Fp W l[e] p[e]:=λW hW=>HR.o.ok e hkl W (Sm.fr HR.o.ft hW λ_ _ y=>y) _ (fB hlt);generalize hs:l[e]=s at*;simp only[GV.cells,List.getElem?_cons_zero,List.getElem?_cons_succ,Nat.add_zero]at Vc Vd XH;obtain⟨A,C⟩:∃A,A=wr.alloc (.cells #[.func s.f s.x s.y,.func s.f' s.x' s.y',.bool s.b] 128):=⟨_,rfl⟩;have z:Q w A:=by rw[C];exact KK.o.alloc _
   have BS:V A wr.heap.size #[.func s.f s.x s.y,.func s.f' s.x' s.y',.bool s.b] 128:=by rw[C];exact V.new wr _ _
   obtain⟨N,JH,hfn,hE,D⟩:=(Az A z).2.t;simp only[Value.func.injEq]at hfn;obtain⟨e1,e2,e3⟩:=hfn;rw[e1,e2,e3]at Vc C BS;obtain⟨L,hL⟩:∃L,L=aq (p.take e) [t]:=⟨_,rfl⟩;have hL1:∀v∈L,v∈ai 10 t:=by rw[hL];exact jv HTR.o _ [t] λu hu=>by rw[dy.1 hu];exact bq HTR.o.d
   have M:aq (p.take (e+1)) [t]=L.flatMap (dB p[e]):=by rw[hL];exact rD hlt [t]
   have hLl:=HL.o (e+1) om;rw[M]at hLl;have hLk:=HL.o e hk;have P:=OO.o;rw[<-hL]at P hLk;obtain⟨a5,c5,U2⟩:=X P;subst U2;have R:A.ownsRow w.heap.size 71 1 (.slice a5 L.length c5) L.length (L.map (jf b)):=by rw[C];exact P.alloc _
   have PTs:Hid (∀v∈L,∃f par k,f<=10/\PT A b (λe=>e<w.heap.size) f par k v):=λv hv=>by obtain⟨m,p',i',q1,q2⟩:=JF HT.o v (hL1 v hv);exact⟨m,p',i',q1,q2.up z⟩
   have Pr:Hid (∀(j:Nat)(hj:j<L.length)(q:Value)(W:World),PL A b ((L.take j).flatMap (dB p[e])) q W->Calls prog N (#[.pointer (some ⟨b (L[j]).d.af,0,none⟩),q]++JH) W λr w2=>∃U,r=.returned U/\PL A b ((L.take (j+1)).flatMap (dB p[e])) U w2):=λj hj q W B=>by obtain⟨f,par',UZ,q1,q2⟩:=PTs.o L[j] (bP hj);have:=D b _ f par' UZ L[j] q2 q1 (λe hk=>aI hk z.size) _ q W B (by have a:=JG (dB p[e]) L (j+1);grind[ub]);grind[ub]
   have xr:Hid (∀(q:Value)(W:World),PL A b ((L.take L.length).flatMap (dB p[e])) q W->Q w W/\W.ownsRow w.heap.size 71 1 q (aq (p.take (e+1)) [t]).length ((aq (p.take (e+1)) [t]).map (jf b))):=λq W h=>by rw[M];have o:=h.o;rw[bX]at o;exact⟨z.trans h.f,xQ o z.size⟩
   have CEL:Hid (∀(j:Nat)(hj:j<L.length)(W:World),Q A W->∃g5,a5=sA g5/\W.cell? (aD g5 j)=some (.pointer (some ⟨b (L[j]).d.af,0,none⟩))):=λj hj W hW=>by obtain⟨g5,AA,hv5,_,hg5⟩:=R.form om;simp only[Value.slice.injEq,true_and]at hv5;obtain⟨rfl,rfl⟩:=hv5;refine⟨g5,rfl,?_⟩;rw[hW.cell (p:=aD g5 j) hg5 id,R.cellAt j om];simp[jf,hj]
   have YX:Hid (∀W,Q A W->W.cell? (aD wr.heap.size 0)=some (.func (.func N) #[] JH)):=λW hW=>by exact(BS.fr hW id).cell 0
   have HWk:=Z C;rw[<-hL]at*;clear hL1 M P R BS z D Az C OO hL hLl e1 e2 e3;go_wp2;rw[<-HWk.o];go_loopw[8,24]λq i W=>∃j:Nat,j<=L.length/\i=.int .i64 j/\PL A b ((L.take j).flatMap (dB p[e])) q Wλ_ i _=>L.length-(intOf i).toNat;case atStart=>exact⟨0,aT _,rfl,Fr.refl _ _,World.ownsRow_nil _ _ _ _⟩
   case round=>
    obtain⟨j,hj,rfl,B⟩:=hrel;have PP:=Z B;obtain⟨a8,c8,J⟩:=X B.o;have sg:=YX.o _ B.f;clear B;obtain⟨m8,Ve⟩:∃m8,m8=((L.take j).flatMap (dB p[e])).length:=⟨_,rfl⟩;rw[<-Ve]at J;clear Ve;subst J;by_cases hjl:j<L.length
    .obtain⟨g5,rfl,ce⟩:=CEL.o j hjl _ PP.o.f;go_wp2_with fail;refine(Pr.o j hjl _ _ PP.o).mono ?_;rintro r w2⟨U,rfl,S⟩;have P2:=Z S;obtain⟨a9,c9,K⟩:=X S.o;clear S;obtain⟨m9,hm9⟩:∃m9,m9=((L.take (j+1)).flatMap (dB p[e])).length:=⟨_,rfl⟩;rw[<-hm9]at K;clear hm9;subst K;go_wp2;go_roundw;case rel=>exact⟨j+1,om,by go_num,P2.o⟩
     case measure=>simp[intOf];omega
    have Ie:j=L.length:=om;subst Ie;have NN:=Z (xr.o _ _ PP.o);go_wp2;go_roundw;case rel=>exact⟨e+1,om,by go_num,NN.o.1,NN.o.2⟩
    case measure=>simp[intOf];omega
  have hks:e=p.length:=om;subst hks;go_wp2;go_ret;refine⟨_,rfl,KK.o,?_⟩;have:=OO.o;rw[bX]at this;exact this
