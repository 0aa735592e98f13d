import Derived.Test.YtcbadebjpogmlaaGreatDoorVvTxQ
set_option maxHeartbeats 8000000
set_option maxRecDepth 100000
namespace Go.Proofs.YtcbadebjpogmlaaGreatDoor
open Go.RowKit Tr Go.Proofs.Tryz
set_option linter.unusedSimpArgs false
theorem Ma{w:World}{A:Nat->Nat}{D D':Nat->Prop}{hi n' b T:Nat}{l:List gI}{t:Tv}{pa pb S:Value}{c:Kt}{a:Nat}(M:15<=a/\a<=18)(G:V w b #[.int .i64 (a:Nat),pa,pb,S,pT T] 249)(C:HSt w D' S l)(hk:KtV w T c)(N:RT w A D hi n' t):ko w A b t (QV a c (aY t l)):=by
 intro q;have c0:w.cell? (aD b 0)=some (.int .i64 (a:Nat)):=G.cell 0;have c3:w.cell? (aD b 3)=some S:=G.cell 3;have c4:w.cell? (aD b 4)=some (pT T):=G.cell 4;have h:=zQ N C;obtain⟨⟨B,z⟩,_⟩:=C;obtain⟨s0,scp,rfl⟩:=X z;obtain⟨d0,d1,d2,dk⟩:=hk;have u:Hid (∀x,aY t l=some x->∃m,RT w A D hi (m+1) x):=λx e=>EL l n' t x N e;have e11:¬(a:Int)=11:=om;have e12:¬(a:Int)=12:=om;have e13:¬(a:Int)=13:=om;have e14:¬(a:Int)=14:=om;have SO:Hid ((a=15/\(a:Int)=15)\/(a=16/\¬(a:Int)=15/\(a:Int)=16)\/(a=17/\¬(a:Int)=15/\¬(a:Int)=16/\(a:Int)=17)\/(a=18/\¬(a:Int)=15/\¬(a:Int)=16/\¬(a:Int)=17)):=Z om;have H:=Z h;generalize aY t l=o at*;have FX:Hid (∀x,o=some x->w.cell? (aD (A x.d.af) 0)=some (.int .i64 (x.d.kind:Nat))/\w.cell? (aD (A x.d.af) 1)=some (.int .i64 x.d.n)/\w.cell? (aD (A x.d.af) 2)=some (.string (sb x.d.s))/\ei c o=(decide ((x.d.kind:Int)<4)&&((x.d.kind:Int)==(c.k:Int))&&(x.d.n==c.n)&&decide (x.d.s=c.t))/\fS c o=(((x.d.kind:Int)==(c.k:Int))&&((((x.d.kind:Int)==1)&&decide (x.d.n<c.n))||(((x.d.kind:Int)==2)&&ij x.d.s c.t)))):=λx e=>by
  obtain⟨m,hX⟩:=u.o x e;obtain⟨sx0,L⟩:=hX.vc;subst e;refine⟨L.b.cell 0,L.b.cell 1,L.b.cell 2,?_,?_⟩;.grind[ei]
  grind[fS]
 clear G h z N u M dk;go_enter func168,ntmps168;go_wp2_with fail;refine(H.o _).mono ?_;rintro r w1⟨rfl,k1,rfl⟩;go_upto_region 14 with fail;go_cut[9]from 72λx wc=>x=.bool (ei c o)/\∃k,wc=w.drewN k;case first=>
  clear SO H;rcases Option.eq_none_or_eq_some o with d|⟨x,d⟩
  .have f:Hid (ei c o=false):=by rw[d];exact Z rfl
   clear FX;subst d;rw[show js A none=.pointer none from rfl];go_wp2;go_quiet(fail);try go_wp2
   go_meet;exact⟨by rw[f.o],_,by rw[fQ]⟩
  obtain⟨y0,y1,y2,y,v⟩:=FX.o x d;clear FX;subst d;rw[show js A (some x)=(pT (A x.d.af))from rfl];have g1:decide ((sb x.d.s).toList=(sb c.t).toList)=decide (x.d.s=c.t):=decide_eq_decide.2 (Uj _ _);have J:((sb x.d.s).toList==(sb c.t).toList)=decide (x.d.s=c.t):=by rw[Bool.eq_iff_iff];simp[sb]
  have g2:Go.Op.bytesLess (sb x.d.s).toList (sb c.t).toList=ij x.d.s c.t:=by rw[ou];simp[sb]
  generalize decide (x.d.s=c.t)=U at*;generalize ij x.d.s c.t=P at*;generalize sb x.d.s=sx at*;generalize sb c.t=tc at*;obtain⟨j,z⟩:∃j,decide ((x.d.kind:Int)<4)=j:=⟨_,rfl⟩;obtain⟨g,K⟩:∃g,((x.d.kind:Int)==(c.k:Int))=g:=⟨_,rfl⟩;obtain⟨n,W⟩:∃n,(x.d.n==c.n)=n:=⟨_,rfl⟩;obtain⟨p,h4⟩:∃p,((x.d.kind:Int)==1)=p:=⟨_,rfl⟩;obtain⟨s,h5⟩:∃s,decide (x.d.n<c.n)=s:=⟨_,rfl⟩;obtain⟨i,h6⟩:∃i,((x.d.kind:Int)==2)=i:=⟨_,rfl⟩;rw[z,K,W]at y;have f:=Z y;clear y v;cases j;rotate_left 1;cases g;rotate_left 1;cases n;rotate_left 1;cases U;all_goals
   go_wp2;go_quiet(fail);try go_wp2
   go_meet;exact⟨by rw[f.o];rfl,_,by rw[fQ]⟩
 case rest=>
 obtain⟨rfl,k2,rfl⟩:=hcut;go_upto_region 15 with fail;go_cut[10]from 123λx wc=>x=.bool (fS c o)/\∃k,wc=w.drewN k;case first=>
  clear SO H;rcases Option.eq_none_or_eq_some o with d|⟨x,d⟩
  .have f:Hid (fS c o=false):=by rw[d];exact Z rfl
   clear FX;subst d;rw[show js A none=.pointer none from rfl];go_wp2;go_quiet(fail);try go_wp2
   go_meet;exact⟨by rw[f.o],_,by rw[fQ]⟩
  obtain⟨y0,y1,y2,y,v⟩:=FX.o x d;clear FX;subst d;rw[show js A (some x)=(pT (A x.d.af))from rfl];have g1:decide ((sb x.d.s).toList=(sb c.t).toList)=decide (x.d.s=c.t):=decide_eq_decide.2 (Uj _ _);have J:((sb x.d.s).toList==(sb c.t).toList)=decide (x.d.s=c.t):=by rw[Bool.eq_iff_iff];simp[sb]
  have g2:Go.Op.bytesLess (sb x.d.s).toList (sb c.t).toList=ij x.d.s c.t:=by rw[ou];simp[sb]
  generalize decide (x.d.s=c.t)=U at*;generalize ij x.d.s c.t=P at*;generalize sb x.d.s=sx at*;generalize sb c.t=tc at*;obtain⟨j,z⟩:∃j,decide ((x.d.kind:Int)<4)=j:=⟨_,rfl⟩;obtain⟨g,K⟩:∃g,((x.d.kind:Int)==(c.k:Int))=g:=⟨_,rfl⟩;obtain⟨n,W⟩:∃n,(x.d.n==c.n)=n:=⟨_,rfl⟩;obtain⟨p,h4⟩:∃p,((x.d.kind:Int)==1)=p:=⟨_,rfl⟩;obtain⟨s,h5⟩:∃s,decide (x.d.n<c.n)=s:=⟨_,rfl⟩;obtain⟨i,h6⟩:∃i,((x.d.kind:Int)==2)=i:=⟨_,rfl⟩;rw[K,h4,h5,h6]at v;have f:=Z v;clear y v;cases g;rotate_left 1;cases p
  .cases i;rotate_left 1;cases P;all_goals
    go_wp2;go_quiet(fail);try go_wp2
    go_meet;exact⟨by rw[f.o];rfl,_,by rw[fQ]⟩
  cases s
  .cases i;rotate_left 1;cases P;all_goals
    go_wp2;go_quiet(fail);try go_wp2
    go_meet;exact⟨by rw[f.o];rfl,_,by rw[fQ]⟩
  all_goals
   go_wp2;go_quiet(fail);try go_wp2
   go_meet;exact⟨by rw[f.o];rfl,_,by rw[fQ]⟩
 case rest=>
 obtain⟨rfl,k3,rfl⟩:=hcut;have HT:Hid (QV a c o=if a=15 then ei c o else if a=16 then !(ei c o)else if a=17 then fS c o else ei c o||fS c o):=rfl;clear FX H d0 d1 d2 c3 c4;generalize ei c o=sm at*;generalize fS c o=le at*;rcases SO.o with⟨F,R⟩|⟨F,R,s3⟩|⟨F,R,s3,s4⟩|⟨F,R,s3,s4⟩;all_goals have S1:=Z F;clear SO F
 rotate_left 3;cases sm;all_goals go_wp2;go_ret;exact⟨by rw[HT.o,S1.o];rfl,_,rfl⟩
