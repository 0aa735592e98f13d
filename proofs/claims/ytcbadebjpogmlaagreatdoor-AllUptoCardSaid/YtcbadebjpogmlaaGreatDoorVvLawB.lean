import Derived.Test.YtcbadebjpogmlaaGreatDoorVvKa
set_option maxHeartbeats 2000000
set_option maxRecDepth 100000
namespace Go.Proofs.YtcbadebjpogmlaaGreatDoor
open Go.RowKit Tr Go.Proofs.Tryz
def rF(s:ByteArray)(e p:Nat):Prop:=(120<s.size/\e=1/\p=0)\/(s.size<=120/\Ig (E s) e p)\/(s.size<=120/\Fin (E s)/\10<C (E s) (s.size+1)/\e=1/\p=0)
def Good(s:ByteArray):Prop:=s.size<=120/\Fin (E s)/\C (E s) (s.size+1)<=10
variable{q:ByteArray}{n k j m r:Nat}
theorem xW(h:rF q n k)(l:rF q j m):n=j/\k=m:=by rcases h with⟨a,b,c⟩|⟨a,b⟩|⟨a,b,c,d,f⟩<;>rcases l with⟨e,g,i⟩|⟨e,g⟩|⟨e,g,i,o,p⟩;all_goals grind[Di,AE]
theorem oX(h:rF q n k)(g:Good q):False:=by
 obtain⟨e,d,f⟩:=g;rcases h with⟨a,_⟩|⟨_,b⟩|⟨_,_,c,_⟩;.omega
 .exact Di b d
 omega
theorem Tryz.xX:(prog.info? 93).map (λi=>(i.zero,i.size,i.bytes))=some (some (.pointer none),1,8):=by kernel_rfl
theorem vz{l:List Nat}(a:l.length=n+1)(h:l.getLast?=some k):(fY l)[n]?=some (.int .i64 (k:Nat)):=by grind[fY]
variable{w v:World}{b:Sn}{a l o p:Value}
theorem pP(h:RS w n k b a l o p)(d:b.op.getLast?=some j)(s:b.op.length<=8):Calls prog 222 #[pT n] w λr y=>r=.returned (.int .i64 (j:Nat))/\∃c,y=w.drewN c:=by
 obtain⟨m,q⟩:∃m,b.op.length=m+1:=⟨b.op.length-1,by have:b.op≠[]:=(λe=>by rw[e]at d;cases d);have:=List.length_pos_iff.2 this;omega⟩;have f:=h.o;rw[q]at f;obtain⟨g,i,v,_,t⟩:=f.form om;subst v;have c2:w.cell? (aD n 2)=some (.slice (sA g) (m+1) i):=h.b.cell 2;have z:w.cell? (aD g m)=some (.int .i64 (j:Nat)):=(f.cellAt m om).trans (vz q d);have x:IntKind.i64.wrap ((m:Int)+1-1)=(m:Int):=by rw[IntWalk.i64_in _ om];omega
 have u:m<=8:=om;clear h f d q s;go_enter func222,ntmps222;go_wp2;go_quiet(fail);go_wp2;go_ret;exact⟨rfl,_,rfl⟩
theorem pQ(h:RS w n k b a l o p)(B:b.op.length<=8)(u:∀d∈b.op,d=5\/d=6)(c:Nat)(H:c<256):Calls prog 178 #[pT n,.int .u8 (c:Int)] w λA v=>A=.returned (.bool (gu b.op c))/\∃f,v=w.drewN f:=by
 have t:=Z λw=>oS (w:=w) c H;have c2:w.cell? (aD n 2)=some l:=h.b.cell 2;by_cases r:cm c=true
 .have e:gu b.op c=true:=by simp[gu,r]
  rw[e];rw[r]at t;clear h e c2 r;go_enter func178,ntmps178;go_wp2_with fail;refine(t.o _).mono ?_;rintro n v⟨rfl,rfl⟩;go_wp2;go_ret;exact⟨rfl,0,rfl⟩
 have r:cm c=false:=by simpa using r
 rw[r]at t;by_cases s:b.op=[]
 .have e:gu b.op c=false:=by simp[gu,r,s]
  rw[e];obtain⟨F,G,rfl⟩:=X h.o;rw[s]at c2;simp only[List.length_nil]at c2;clear h e r s;go_enter func178,ntmps178;go_wp2_with fail;refine(t.o _).mono ?_;rintro n v⟨rfl,rfl⟩;go_wp2;go_ret;exact⟨rfl,0,rfl⟩
 obtain⟨d,y⟩:∃d,b.op.getLast?=some d:=⟨_,List.getLast?_eq_some_getLast s⟩;have D:=Z (pP h y B);obtain⟨F,G,rfl⟩:=X h.o;obtain⟨L,C⟩:∃L,L=b.op.length:=⟨_,rfl⟩;rw[<-C]at c2 B;have x:L≠0:=λe=>s (List.length_eq_zero_iff.1 om);have J:((L:Int)==0)=false:=dH;have z:d=5\/d=6:=u d (List.mem_of_getLast? y);have e:gu b.op c=(if d=6 then(c==44||c==125)else(c==44||c==93)):=by grind[gC,gu]
 rw[e];clear h e r s y C u x;have q:((c:Int)==44)=(c==44):=by rw[Bool.eq_iff_iff];simp;omega
 have g:((c:Int)==125)=(c==125):=by rw[Bool.eq_iff_iff];simp;omega
 have j:((c:Int)==93)=(c==93):=by rw[Bool.eq_iff_iff];simp;omega
 rcases z with rfl|rfl;focus
  rw[aa de];by_cases m:c=44;focus subst m;clear q g j
  rotate_left;focus
   have i:(c==44)=false:=by simpa using m
   rw[i]at q;rw[i,<-j];clear i j g
 rotate_left 2;focus
  rw[ae rfl];by_cases m:c=44;focus subst m;clear q g j
  rotate_left;focus
   have i:(c==44)=false:=by simpa using m
   rw[i]at q;rw[i,<-g];clear i j g
 all_goals go_enter func178,ntmps178;go_wp2_with fail;refine(t.o _).mono ?_;rintro n v⟨rfl,rfl⟩;go_wp2_with fail;refine(D.o).mono ?_;rintro n v⟨rfl,f,rfl⟩;go_wp2;go_ret;exact⟨rfl,_,rfl⟩
theorem Dj{d:List Value}(h:w.ownsRow n k 1 (.slice (sA j) (m+1) r) (m+1) d):w.ownsRow n k 1 (.slice (sA j) m r) m (d.take m)/\m+1<=r:=by
 have q:=h.1;rcases h.2 with⟨x,_⟩|⟨p,c,b,x,f,g,i,l,o,t⟩;.cases x
 injection x with a s e;injection a with a;injection a with a;subst a e;refine⟨⟨by simp;omega,I ⟨j,r,b,rfl,f,g,om,l,o,?_⟩⟩,i⟩;grind
variable{f:World->(Nat->Prop)->List Tok->Prop}{i:List Tok->Tok->Prop}{c:List Tok}{d t:Nat->Prop}
theorem Au(A:gn a f i)(h:RM f a n k b c d w)(B:b.op≠[])(h8:b.op.length<=8)(q_:b.at'<=4000000)(hV:VL i c (cN b).ts):Calls prog 181 #[pT n] w (RP f a n k (cN b) c d w):=by
 obtain⟨ov,bp,bv,D,r,L,M,P⟩:=h.ex;obtain⟨m,H⟩:∃m,b.op.length=m+1:=⟨b.op.length-1,by have:=List.length_pos_iff.2 B;omega⟩;have C:=r.o;rw[H]at C;obtain⟨g,o,hv,NK,nP⟩:=C.form om;subst hv;obtain⟨N,first,u,t,hE,q⟩:=RM.tell A;have c2:w.cell? (aD n 2)=some (.slice (sA g) (m+1) o):=r.b.cell 2;have c1:w.cell? (aD n 1)=some (.int .i64 (b.at':Nat)):=r.b.cell 1;have K:w.cell? (aD n 14)=some a:=r.b.cell 14;have fz:=r.b.fz;have hwr:IntKind.i64.wrap ((m:Int)+1-1)=(m:Int):=by rw[IntWalk.i64_in _ om];omega
 have Ve:m<=8:=om;have hcap:(m:Int)<=(o:Int):=by
  rcases C.2 with⟨x,_⟩|⟨g2,cap2,cur,x,_,_,y,_⟩;.cases x
  injection x with _ _ x3;omega
 have S:m+1<=o:=(Dj C).2;obtain⟨s,p⟩:∃s:Sn,s={b with st:=5,op:=b.op.dropLast}:=⟨_,rfl⟩;have G:Hid (RM f a n k s c d (w.setCell (aD n 2) (.slice (sA g) m o)).drew/\Fr d w (w.setCell (aD n 2) (.slice (sA g) m o)).drew):=by
  have f0:Fr (λj=>j=n) w (w.setCell (aD n 2) (.slice (sA g) m o)).drew:=((Fr.refl (λj=>j=n) w).setCell (aD n 2) (Y rfl) _).drew;refine⟨⟨.slice (sA g) m o,bp,bv,D,⟨?_,?_,?_,r.p,?_⟩,A.keep L (λj T=>f0.block j (A.lt L T) (M j T).1) f0.size,M,P⟩,f0.mono λj _ e=>(P j).2 (Y e)⟩;.rw[p];exact r.b.set 2 _
  .rw[p];have e1:b.op.dropLast.length=m:=by simp[H]
   have e2:(fY b.op).take m=fY b.op.dropLast:=by rw[List.dropLast_eq_take,H];simp[fY,List.map_take]
   grind[aS,Dj]
  .rw[p];exact aS r.t f0 λj T e=>by omega
  rw[p];exact r.e
 have hZ:Hid (s={b with st:=5,op:=b.op.dropLast}):=p;have HV:Hid (i c ⟨1,0,0,b.at'+1,0,[]⟩):=hV.1;have TE:Hid (∀W,RM f a n k s c d W->Calls prog N (first.push (bS ⟨1,0,0,b.at'+1,0,[]⟩)++u) W λF w'=>F=.returned (.tuple #[])/\∃U,RM f a n k s (c++[⟨1,0,0,b.at'+1,0,[]⟩]) U w'/\Ev d W U w'):=λW R=>q _ R HV.o;have DR:Hid (∀W l,RM f a n k s c d W->RM f a n k s c d (W.drewN l)):=λW l R=>RM.drewN A R l;have hwa:IntKind.i64.wrap ((b.at':Int)+1)=((b.at'+1:Nat):Int):=by rw[IntWalk.i64_in _ om];omega
 clear q h r L M P C H hV B h8 A p;subst t;go_enter func181,ntmps181;go_wp2;go_region;all_goals
  have d1:(w.setCell (aD n 2) (.slice (sA g) m o)).drew.cell? (aD n 1)=some (.int .i64 (b.at':Nat)):=by obtain⟨_,_,_,_,y,_⟩:=G.o.1.ex;have:=y.b.cell 1;rw[hZ.o]at this;exact this
  have d14:(w.setCell (aD n 2) (.slice (sA g) m o)).drew.cell? (aD n 14)=some (.func (.func N) first u):=by obtain⟨_,_,_,_,y,_⟩:=G.o.1.ex;exact y.b.cell 14
  clear c1 c2 K fz;generalize(w.setCell (aD n 2) (.slice (sA g) m o)).drew=W1 at*;go_wp2;go_region_with(refine(TE.o _ (DR.o _ 1 G.o.1)).mono ?_;rintro F w2⟨rfl,E2,z,v⟩;have M2:=Z z;have J:=Z v;clear z v);all_goals go_wp2;go_ret;exact⟨rfl,E2,by rw[<-show s=(cN b).z from hZ.o];exact M2.o,(Ev.mk (λ_=>Y) (G.o.2.drewN 1)).trans J.o⟩
theorem RM.st(h:RM f a n k b c d w)(s:Nat):RM f a n k {b with st:=s} c d w:=by obtain⟨l,g,i,D,e,j⟩:=h.ex;exact⟨l,g,i,D,⟨e.b,e.o,e.t,e.p,e.e⟩,j⟩
theorem RM.to(h:RM f a n k b c t v)(e:Ev d w t v)(s:Nat):RP f a n k (b.to s) c d w (.returned (.int .i64 (s:Nat))) v:=⟨rfl,t,by rw[show(b.to s).ts=[]from rfl,gz];exact h.st s,e⟩
theorem RM.rs(h:RM f a n k b c d w):∃i e g,RS w n k b a i e g:=by obtain⟨i,e,g,D,j,_⟩:=h.ex;exact⟨i,e,g,j⟩
theorem VL.app:∀{c a b:List Tok},VL i c (a++b)->VL i c a/\VL i (c++a) b|c,[],b,h=>⟨trivial,by simpa using h⟩|c,t::a,b,h=>by obtain⟨d,e⟩:=h;obtain⟨f,g⟩:=VL.app e;exact⟨⟨d,f⟩,by simpa using g⟩
theorem xT(N:gn a f i)(h:RM f a n k b c d w)(t:b.op.length<=8)(v:∀j∈b.op,j=5\/j=6)(H:b.at'<=4000000)(g:Nat)(P:g<256)(z:VL i c (aC b g).ts):Calls prog 179 #[pT n,.int .u8 (g:Int)] w (RP f a n k (aC b g) c d w):=by
 obtain⟨ov,bp,bv,C⟩:=h.rs;have u:=Z (pQ C t v g P);have B:=Z λw=>oS (w:=w) g P;have A:Hid (∀l,RM f a n k b c d (w.drewN l)):=λl=>RM.drewN N h l;have EV:Hid (∀l,Ev d w d (w.drewN l)):=λl=>(Ev.refl d w).drewN l;by_cases c1:gu b.op g=false
 .have e:aC b g=b.to 12:=by unfold aC;rw[ae c1]
  rw[e];rw[c1]at u;clear h C z e c1 v t;go_enter func179,ntmps179;go_wp2_with fail;refine(u.o).mono ?_;rintro o r⟨rfl,l,rfl⟩;go_wp2;go_ret;exact(A.o l).to (EV.o l) 12
 have p:gu b.op g=true:=by simpa using c1
 rw[p]at u;by_cases c2:cm g=true
 .have e:aC b g=b.to 5:=by unfold aC;rw[aa c1,ae c2]
  rw[e];rw[c2]at B;clear h C z e c1 c2 p v t;go_enter func179,ntmps179;go_wp2_with fail;refine(u.o).mono ?_;rintro o r⟨rfl,l,rfl⟩;go_wp2_with fail;refine(B.o _).mono ?_;rintro o r⟨rfl,rfl⟩;go_wp2;go_ret;exact(A.o l).to (EV.o l) 5
 have s:cm g=false:=by simpa using c2
 rw[s]at B;have q:b.op≠[]:=λx=>by simp[gu,s,x]at p
 by_cases c3:g≠44
 .have e:aC b g=cN b:=by unfold aC;rw[aa c1,aa c2,ae c3]
  rw[e]at z⊢;have U:((g:Int)!=44)=true:=by rw[bne_iff_ne];omega
  have T:Hid (∀l,Calls prog 181 #[pT n] (w.drewN l) (RP f a n k (cN b) c d (w.drewN l))):=λl=>Au N (A.o l) q t H z;clear h C z e c1 c2 p v t c3 q;go_enter func179,ntmps179;go_wp2_with fail;refine(u.o).mono ?_;rintro o r⟨rfl,l,rfl⟩;go_wp2_with fail;refine(B.o _).mono ?_;rintro o r⟨rfl,rfl⟩;go_wp2_with fail;refine(T.o l).mono ?_;rintro o r⟨rfl,R,M,L⟩;have S:=Z M;have F:=Z L;clear M L;go_wp2;go_ret;exact⟨rfl,R,S.o,(EV.o l).trans F.o⟩
 have G:g=44:=om;subst G;obtain⟨j,D⟩:∃j,b.op.getLast?=some j:=⟨_,List.getLast?_eq_some_getLast q⟩;have K:Hid (∀l,Calls prog 222 #[pT n] (w.drewN l) λo W=>o=.returned (.int .i64 (j:Nat))/\∃m,W=(w.drewN l).drewN m):=λl=>by obtain⟨_,_,_,y⟩:=(A.o l).rs;exact pP y D t
 have J:j=5\/j=6:=v j (List.mem_of_getLast? D);rcases J with rfl|rfl
 .have e:aC b 44=b.to 0:=by unfold aC;rw[aa c1,aa c2,aa c3];simp[gC,D]
  rw[e];clear h C z e c1 c2 p v t c3 q D s;go_enter func179,ntmps179;go_wp2_with fail;refine(u.o).mono ?_;rintro o r⟨rfl,l,rfl⟩;go_wp2_with fail;refine(B.o _).mono ?_;rintro o r⟨rfl,rfl⟩;go_wp2_with fail;refine(K.o l).mono ?_;rintro o r⟨rfl,m,rfl⟩;rw[fi];go_wp2;go_ret;exact(A.o _).to (EV.o _) 0
 have e:aC b 44=b.to 3:=by unfold aC;rw[aa c1,aa c2,aa c3];simp[gC,D]
 rw[e];clear h C z e c1 c2 p v t c3 q D s;go_enter func179,ntmps179;go_wp2_with fail;refine(u.o).mono ?_;rintro o r⟨rfl,l,rfl⟩;go_wp2_with fail;refine(B.o _).mono ?_;rintro o r⟨rfl,rfl⟩;go_wp2_with fail;refine(K.o l).mono ?_;rintro o r⟨rfl,m,rfl⟩;rw[fi];go_wp2;go_ret;exact(A.o _).to (EV.o _) 3
theorem rB(v:gn a f i)(h:RM f a n k b c d w)(q_:b.at'<=4000000)(L:VL i c (gO b).ts):Calls prog 180 #[pT n] w (RP f a n k (gO b) c d w):=by
 obtain⟨ov,bp,bv,D,p,H,J,K⟩:=h.ex;obtain⟨N,first,z,o,hE,m⟩:=RM.tell v;have c1:w.cell? (aD n 1)=some (.int .i64 (b.at':Nat)):=p.b.cell 1;have U:w.cell? (aD n 6)=some (.int .i64 (b.tk.to:Nat)):=p.b.cell 6;have fz:=p.b.fz;obtain⟨j,l⟩:∃j:Sn,j={b with st:=5,tk:={b.tk with to:=b.at'+1}}:=⟨_,rfl⟩;have u:Hid (RM f a n k j c d (w.setCell (aD n 6) (.int .i64 ((b.at'+1:Nat):Int)))/\Ev d w d (w.setCell (aD n 6) (.int .i64 ((b.at'+1:Nat):Int)))):=RM.set v p H J K (by rw[l];exact p.b.set 6 _) ((Fr.refl (λe=>e=n) w).setCell (aD n 6) (Y rfl) _) (by rw[l]) (by rw[l]);have hZ:=Z l;have F:Hid (∀W,RM f a n k j c d W->Calls prog N (first.push (bS j.tk)++z) W λt M=>t=.returned (.tuple #[])/\∃C,RM f a n k j (c++[j.tk]) C M/\Ev d W C M):=λW s=>m _ s (by rw[l];exact L.1);have R:Hid (∀W g,RM f a n k j c d W->RM f a n k j c d (W.drewN g)):=λW g s=>RM.drewN v s g;have B:IntKind.i64.wrap ((b.at':Int)+1)=((b.at'+1:Nat):Int):=by rw[IntWalk.i64_in _ om];omega
 have P:Hid (∀W,RM f a n k j c d W->(W.cell? (aD n 14)=some a/\W.cell? (aD n 3)=some (.int .i64 (j.tk.k:Nat))/\W.cell? (aD n 4)=some (.int .i64 (j.tk.of:Nat))/\W.cell? (aD n 5)=some (.int .i64 (j.tk.af:Nat))/\W.cell? (aD n 6)=some (.int .i64 (j.tk.to:Nat))/\W.cell? (aD n 7)=some (.int .i64 j.tk.n)/\W.cell? (aD n 8)=some (.string (bR (fV j.tk.k j.tk.t))))):=λW s=>by obtain⟨_,_,_,y⟩:=s.rs;exact⟨y.b.cell 14,y.b.cell 3,y.b.cell 4,y.b.cell 5,y.b.cell 6,y.b.cell 7,y.b.cell 8⟩
 clear m h p H J K L v l;subst o;go_enter func180,ntmps180;go_wp2;have G:((b.at'+1:Nat):Int)=(b.at':Int)+1:=om;try rw[G]at u
 generalize A:w.setCell (aD n 6) _=W1 at*;obtain⟨d14,d3,d4,d5,d6,d7,d8⟩:=P.o _ u.o.1;clear c1 U fz B A G;unfold bS at F;go_region_with(refine(F.o _ (R.o _ 1 u.o.1)).mono ?_;rintro t w2⟨rfl,S,r,q⟩;have T:=Z r;have x:=Z q;clear r q);all_goals go_wp2;go_ret;refine⟨rfl,S,?_,(u.o.2.drewN 1).trans x.o⟩;have:=T.o;rw[hZ.o]at this;exact this
theorem vA:liesAt prog prog.depth 115 (15/prog.cellsOf 115) 9 112 1=true:=by kernel_rfl
variable{g:Array Value}
theorem xY(h:V w n g 115)(q:g.size=15)(f:g[9]?=some a)(p:a=.pointer none\/a=.pointer (some (aD n 9))):Calls prog 114 #[.pointer (some (aD n 9))] w λi m=>i=.returned (.tuple #[])/\V m n (g.setIfInBounds 9 (.pointer (some (aD n 9)))) 115/\Fr (λk=>k=n) w m:=by
 obtain⟨j,c,d⟩:=Option.map_eq_some_iff.1 sizeBuilder;have l:=Z h;have r:w.cell? (aD n 9)=some a:=(h.cell 9).trans f;have f9:=h.fz 9;have b:w.shape? n=some (115,15):=by unfold V at h;simp[World.shape?,h,q]
 have o:=Z f;clear h f;rcases p with rfl|rfl;.go_enter func114,ntmps114;go_wp2;rw[Lib.run_to_unsafe w (aD n 9) underlying109 underlying234 c (by rw[d];decide) b (by show 9<15;decide)];simp only[Result.andThen];rw[Oper.upon_value];go_wp2;rw[run_callFunc_extern func158 (by kernel_rfl) (by kernel_rfl) (by kernel_rfl) (e:=Extern.AbiNoEscape.same) (by kernel_rfl)];rw[Lib.run_noEscape];simp only[Result.andThen];rw[Oper.upon_value];go_wp2;rw[Lib.run_from_unsafe w (aD n 9) underlying234 underlying109 c b vA];simp only[Result.andThen];rw[Oper.upon_value];go_wp2;go_end0;exact⟨rfl,l.o.set 9 _,(Fr.refl (λk=>k=n) w).setCell (aD n 9) (Y rfl) _⟩
 go_enter func114,ntmps114;go_wp2;rw[Lib.run_neq_ptr_same w _ underlying109 c];go_wp2;go_end0;refine⟨rfl,?_,Fr.refl _ _⟩;have e:g.setIfInBounds 9 (.pointer (some (aD n 9)))=g:=by obtain⟨t,s⟩:=Array.getElem?_eq_some_iff.1 o.o;grind
 rw[e];exact l.o
theorem xZ{v:Value}{l:List UInt8}(h:V w n g 115)(T:g.size=15)(hp:g[9]?=some a)(hv:g[10]?=some v)(ho:a=.pointer none\/a=.pointer (some (aD n 9)))(S:w.ownsRow (n+1) 5 1 v l.length (Lib.byteCells l))(hl:l.length<=4000000)(b:Nat)(hb:b<256):Calls prog 221 #[.pointer (some (aD n 9)),.int .u8 (b:Int)] w λA U=>A=.returned .nilIface/\∃B,V U n ((g.setIfInBounds 9 (.pointer (some (aD n 9)))).setIfInBounds 10 B) 115/\U.ownsRow (n+1) 5 1 B (l++[UInt8.ofNat b]).length (Lib.byteCells (l++[UInt8.ofNat b]))/\Fr (λk=>k=n\/v.ownBlock=some k) w U/\(B.ownBlock=v.ownBlock\/∃k,B.ownBlock=some k/\w.heap.size<=k):=by
 obtain⟨i0,hi,x,y,z⟩:=info_parts infoByte;have HI:=Z hi;have J:=Z x;have K:=Z y;have L:=Z z;have W:=Z (xY h T hp ho);have H:=Z S;have nP:=h.lt;have s:Hid (∀k,v.ownBlock=some k->n+1<=k/\k<w.heap.size):=λk q=>S.lt k q;have p:(g.setIfInBounds 9 (.pointer (some (aD n 9))))[10]?=some v:=by rw[Array.getElem?_setIfInBounds_ne de];exact hv
 have o:=Z p;have HS:=Z T;clear hi x y z h hp hv ho S p T;obtain⟨i,m,rfl⟩:=X H.o;obtain⟨c,r⟩:∃c,c=l.length:=⟨_,rfl⟩;rw[<-r]at o H hl;try rw[<-r]
 try rw[<-r]at s
 have HN:=Z r;clear r;go_enter func221,ntmps221;go_wp2_with fail;refine(W.o).mono ?_;rintro A C⟨rfl,M,f1⟩;have B1:=Z M;have F1:=Z f1;have hs1:w.heap.size<=C.heap.size:=f1.size;have d10:C.cell? (aD n 10)=some (.slice i c m):=(M.cell 10).trans o.o;have R1:C.ownsRow (n+1) 5 1 (.slice i c m) c (Lib.byteCells l):=aS H.o f1 (λk q e=>by omega);clear M f1 W;go_wp2_with(at_builtin;refine wpList_append_own_at _ rfl _ _ 110 rfl (n+1) 5 i0 (.int .u8 0) 1 1 underlying110 HI.o J.o K.o L.o rfl de _ _ _ rfl (R1.alloc _) (aD C.heap.size 0) 1 1 [.int .u8 (b:Int)] rfl rfl ?c1 ?c2 ?c3 ?c4 ?c5 ?_);case c1=>intro j u D;match j,D with|0,D=>simp at D;subst D;simp[Addr.add]
 case c2=>intro u hu;simp at hu;subst hu;rfl
 case c3=>unfold maxLen;omega
 case c4=>omega
 case c5=>simp;omega
 intro B F f d _ t;have P:n<(C.alloc (.cells #[.int .u8 (b:Int)] 5)).heap.size:=by simp;omega
 have G:Hid (V F n (g.setIfInBounds 9 (.pointer (some (aD n 9)))) 115):=(d.block n P λe=>by have:=s.o n e.symm;omega).trans (B1.o.alloc _);have c3':F.cell? (aD n 10)=some (.slice i c m):=(G.o.cell 10).trans o.o;have f3:=G.o.fz 10;have F2:Hid (Fr (λk=>k=n\/(.slice i c m:Value).ownBlock=some k) w F):=((F1.o.mono λk _ e=>Y e).alloc _).grown d λk q=>I (I q);obtain⟨ao,N,rfl⟩:=X f;have R2:=Z f;have VB:=Z t;clear f d d10 R1 t;go_wp2;go_ret;refine⟨rfl,.slice ao (c+1) N,G.o.set 10 _,?_,F2.o.setCell (aD n 10) (Y (Y rfl)) _,?_⟩
 .have e1:(l++[UInt8.ofNat b]).length=c+1:=by simp[HN.o]
  have e2:Lib.byteCells l++[.int .u8 (b:Int)]=Lib.byteCells (l++[UInt8.ofNat b]):=by
   rw[Lib.byteCells_append];have:(UInt8.ofNat b).toNat=b:=by simp;omega
   simp[Lib.byteCells,this]
  have R:=R2.o;rw[e2]at R;rw[e1];exact aS R ((Fr.refl (λk=>k=n) F).setCell (aD n 10) (Y rfl) _) λk q e=>by omega
 rcases VB.o with e|e;.exact Y e
 grind
theorem YY{w:World}{b:Option Addr}(h:V w n g 115)(c:g[10]?=some (.slice b k j)):Calls prog 220 #[.pointer (some (aD n 9))] w λa e=>a=.returned (.int .i64 (k:Nat))/\e=w:=by have d:w.cell? (aD n 10)=some (.slice b k j):=(h.cell 10).trans c;clear h c;go_enter func220,ntmps220;go_wp2;go_ret;exact⟨rfl,rfl⟩
theorem Pw(h:V w n g 115)(c:g[9]?=some a)(d:g[10]?=some l):Calls prog 219 #[.pointer (some (aD n 9))] w λb e=>b=.returned (.tuple #[])/\V e n ((g.setIfInBounds 9 (.pointer none)).setIfInBounds 10 (.slice none 0 0)) 115/\Fr (λk=>k=n) w e:=by have i:=Z h;have j:w.cell? (aD n 9)=some a:=(h.cell 9).trans c;have f:w.cell? (aD n 10)=some l:=(h.cell 10).trans d;have m:=h.fz;clear h c d;go_enter func219,ntmps219;go_wp2;go_end0;exact⟨rfl,(i.o.set 9 _).set 10 _,((Fr.refl (λk=>k=n) w).setCell (aD n 9) (Y rfl) _).setCell (aD n 10) (Y rfl) _⟩
theorem JM{t:List UInt8}(h:V w n g 115)(l:g[10]?=some a)(A:w.ownsRow (n+1) 5 1 a t.length (Lib.byteCells t))(u:t=[]->a=.slice none 0 0):Calls prog 88 #[.pointer (some (aD n 9))] w λC K=>C=.returned (.string (bR t))/\Fr (λk=>a.ownBlock=some k) w K:=by
 by_cases m:t=[]
 .have B:=u m;subst m;subst B;have c3:w.drew.cell? (aD n 10)=some (.slice none 0 0):=(h.cell 10).trans l;have p:(Builtin.unsafeSliceData_ #[110] 209 #[.slice none 0 0]).run prog w.drew=.ok (.pointer none) w.drew:=Lib.run_unsafeSliceData_nil _ _ _ _ _;have q:(Builtin.unsafeString_ #[209,3] 9 #[.pointer none,.int .i64 0]).run prog w.drew=.ok (.string .empty) w.drew:=Lib.run_unsafeString_none _ _ _ _ _;have f:prog.follows Departure.mixedOrders=true:=by kernel_rfl
  clear h l A u;go_enter func88,ntmps88;go_wp2;go_region_o;all_goals(go_wp2;go_ret;exact⟨rfl,(Fr.refl _ w).drew⟩)
 have d:=A;have z:t.length≠0:=by simpa using m
 obtain⟨k,b,c,rfl,F,D,G,r,s,e⟩:∃k b c,a=.slice (sA k) t.length b/\n+1<=k/\w.heap[k]?=some (.cells c 5 (0,0))/\t.length<=b/\b<=maxLen/\c.size=b*1/\c.toList.take (t.length*1)=Lib.byteCells t:=by
  rcases d.2 with⟨_,J⟩|⟨k,b,c,l,y⟩;.exact absurd J z
  exact⟨k,b,c,l,y⟩
 have c3:w.drew.cell? (aD n 10)=some (.slice (sA k) t.length b):=(h.cell 10).trans l;have p:(Builtin.unsafeSliceData_ #[110] 209 #[.slice (sA k) t.length b]).run prog w.drew=.ok (pT k) w.drew:=Lib.run_unsafeSliceData_row _ _ _ _ _ _ om;have q:(Builtin.unsafeString_ #[209,3] 9 #[pT k,.int .i64 t.length]).run prog w.drew=.ok (.string ⟨t.toArray⟩) (w.drew.freeze (aD k 0) t.length):=by refine Lib.run_unsafeString_row w.drew 209 3 9 5 underlying209 cellsByte k c.size (by have v:w.drew.heap[k]?=some (.cells c 5 (0,0)):=D;simp[World.shape?,v]) t m om (by unfold maxLen at r;omega) ?_;intro j x H;exact d.cells (g:=k) rfl j (.int .u8 x.toNat) (by simp[Lib.byteCells,H])
 have o:Hid (Fr (λi=>(Value.slice (sA k) t.length b).ownBlock=some i) w (w.drew.freeze (aD k 0) t.length)):=(Fr.refl (λi=>(Value.slice (sA k) t.length b).ownBlock=some i) w).drew.freeze (aD k 0) rfl _;have f:prog.follows Departure.mixedOrders=true:=by kernel_rfl
 clear h d D e s m A u l;go_enter func88,ntmps88;go_wp2;go_region_o;all_goals(go_wp2;go_ret;exact⟨rfl,o.o⟩)
