import Derived.Test.YtcbadebjpogmlaaGreatDoorVvLwBm
import Derived.Test.YtcbadebjpogmlaaGreatDoorVvCi
import Derived.Stop.LaidErr
set_option maxHeartbeats 4000000
set_option maxRecDepth 100000
namespace Go.Proofs.YtcbadebjpogmlaaGreatDoor
open Go.RowKit Tr Go.Proofs.Tryz
def Dn(t:World->(Nat->Nat)->FX->Prop):Prop:=∀(w:World)(o:Nat)(a:Nat->Nat)(r:Rv)(nx:Nat)(n:List PX)(g:List FX)(q p:List (Value×Int))(b:Nat),EN w->LA t w o a r nx n g q p->0<n.length->0<g.length->n.length<=2000000000000->g.length<=2000000000000->q.length<=2000000000000->p.length<=2000000000000->nx<=2000000000000->(∀f∈g,f.p.size<=b)->b<=1100000->∀i:Nat,i<g.length->Calls prog 30 #[pT o,.agg #[.int .i64 6,.int .i64 0,.int .i64 (i:Nat),.string ⟨#[]⟩]] w λe s=>e=.returned (.bool true)/\∃c u l m d j h,LA t s o c u l m d j h/\Fr (λk=>2<=a k) w s/\(∀k,k<w.heap.size->a k<3->c k=a k)/\m.length=n.length/\d.length=g.length/\j.length<=q.length+4/\h.length<=p.length+4/\l<=nx+1/\∀f∈d,f.p.size<=b
theorem Dq {Φ:World->(Nat->Nat)->FX->Prop} (HΦ:j1 Φ) {gJ:List Int} (hst:AL Φ (λk=>k ∈ gJ)) (hcl:Dn Φ) {w:World} (hE:EN w) {a:Option Addr} {n cp rL:Nat} {ops:List qn} (hsc:kH w a n cp ops) (hpl:∀i (h:i<gJ.length),w.cell? (aD rL i)=some (.int .i64 gJ[i])) (yf:rL<w.heap.size) (Tk:gJ.length<=100) (hn:n<=1100000) (hsz:gj ops<=1100000) :
 Calls prog 14 #[.slice a n cp,.slice (sA rL) gJ.length gJ.length] w λr w'=>r=.returned (.bool true)/\Q w w':=by
 obtain ⟨i0,hi,hz0,hz1,eE⟩:=info_parts Tryz.U6
 have HI:=Z hi
 have iK:=Z hz0
 have iz:=Z hz1
 have ja:=Z eE
 have HP:=Z HΦ
 have NQ:=Z hst
 have HCL:=Z hcl
 have HE:=Z hE
 have SC:=Z hsc
 have PL:=Z hpl
 have SZ:=Z hsz
 have F0:=Z ((Fr.refl (λ_=>False) w).alloc (.cells #[.slice none 0 0,.slice none 0 0,.slice none 0 0,.slice none 0 0,.slice none 0 0,.slice none 0 0,.int .i64 0] 61))
 have CO:=Z (pS HΦ (hE.keep F0.o).ev (J8 Φ w hE) si ⟨#[36,91,42,93,46,46,97,91,45,49,93]⟩ de)
 obtain ⟨pl,VH⟩:∃pl,pl=gJ.length:=⟨_,rfl⟩
 rw [<-VH] at Tk ⊢
 have Zc:=Z VH
 clear hi hz0 hz1 eE HΦ hst hcl hE hsc hpl hsz VH
 go_enter func14,ntmps14
 go_wp2_with fail
 refine (CO.o).mono ?_
 rintro e w1 ⟨rfl,vJ,r1,ps1,l1,f1,c1,h1,hg1⟩
 have hp1:=hg1 Av
 simp only [List.length_nil,Nat.zero_add] at hp1
 have K1:Hid (Q w w1):=F0.o.new f1 (λi hi e=>by grind)
 have L1:=Z l1
 have HP1:=Z hp1
 have C1:Hid (∀q,q<w.heap.size->vJ q=0):=λq hq=>by
  rw [c1 q (by simp; omega)]
  grind
 clear l1 f1 c1 h1 hg1 hp1 CO
 obtain ⟨N,hN⟩:∃N,N=1+ops.length:=⟨_,rfl⟩
 obtain ⟨lo,hlo⟩:∃lo,lo=(⟨4,0,0,⟨#[]⟩⟩:qn)::ops:=⟨_,rfl⟩
 have LON:Hid (N=lo.length):=by rw [hN,hlo]; simp only [List.length_cons]; exact Z om
 have LOB:Hid (gj lo<=1100000):=by
  rw [hlo]
  show (0:Nat)+gj ops<=1100000
  have:=SZ.o
  omega
 have hNb:N<=1100001:=by
  rcases SC.o with ⟨_,_,_,e⟩ | ⟨_,_,e,_⟩
  ·rw [hN,e]; simp
  rw [hN,<-e]; omega
 -- the list of steps
 have J9:Hid (∀gl cap W,w1.heap.size<=gl->Q w1 W->W.ownsRow 0 64 4 (.slice (sA gl) N cap) N (ed lo)->∃col r nx ps fs ns ms,Dm Φ w W gl N cap lo 0 0 col r nx ps fs ns ms):=λgl cap W nP k ho=>by
  have l2:=L1.o.keep HP.o k
  have aj2:gl<W.heap.size:=(ho.lt gl rfl).2
  refine ⟨λq=>if q<w1.heap.size then vJ q else 1,r1,0,ps1,[],[],[],?_,K1.o.trans k,λq hq=>?_,?_,ho,by rw [HP1.o]; omega,λf hf=>(by cases hf),by rw [HP1.o]; simp⟩
  ·obtain ⟨x1,x2,x3,x4⟩:=L1.o.AK HP.o (w':=W) (dV:=λq=>if q<w1.heap.size then vJ q else 1) ⟨k.mono (λ_ _ x=>x.elim),λq hq _=>by show (if q<w1.heap.size then vJ q else 1)=vJ q; rw [ae hq]⟩
   refine ⟨l2.blk,?_,⟨λq hq=>?_,l2.c0.2⟩,l2.ol,l2.of,l2.wY,l2.ud,l2.zW,l2.wZ,λq hq=>?_,l2.NO,x1,x2,x3,x4,l2.fd⟩
   ·show (if w.heap.size<w1.heap.size then vJ w.heap.size else 1)=2
    rw [ae L1.o.blk.lt]; exact L1.o.cg
   ·show (if q<w1.heap.size then vJ q else 1)=0
    rw [ae (Nat.lt_trans hq L1.o.blk.lt)]; exact L1.o.c0.1 q hq
   show (if q<w1.heap.size then vJ q else 1)=2
   rw [ae (L1.o.rl q hq).2]; exact L1.o.cr q hq
  ·show (if q<w1.heap.size then vJ q else 1)=0
   have:=K1.o.size
   rw [ae om]; exact C1.o q hq
  grind
 have hw1:w.heap.size<w1.heap.size:=L1.o.blk.lt
 have hrow:=World.ownsRow_lit (base:=0) (e:=64) (size:=4) w1 #[.int .i64 4,.int .i64 0,.int .i64 0,.string ⟨#[]⟩] 1 om de rfl
 obtain ⟨W2,nQ⟩:∃W2,W2=w1.alloc (.cells #[.int .i64 4,.int .i64 0,.int .i64 0,.string ⟨#[]⟩] 64):=⟨_,rfl⟩
 obtain ⟨g2,NI⟩:∃g2,g2=w1.heap.size:=⟨_,rfl⟩
 have K2:Q w1 W2:=by rw [nQ]; exact (Fr.refl _ w1).alloc _
 rw [<-nQ,<-NI] at hrow
 have Cs:=Z nQ
 have Zd:=Z NI
 have Ze:=Z K2
 have HN:=Z hN
 have HLO:=Z hlo
 clear nQ NI K2 hN hlo
 go_upto_region 6 with fail
 rw [<-Cs.o,<-Zd.o]
 go_cut [7] from 19 to 21 (λs7 wc=>∃gl cap,s7=.slice (sA gl) N cap/\∃col r nx ps fs ns ms,Dm Φ w wc gl N cap lo 0 0 col r nx ps fs ns ms)
 case first =>
  rcases SC.o with ⟨rfl,rfl,rfl,rfl⟩ | ⟨ad,rfl,rfl,hab,hac⟩
  ·have NJ:=Z (J9.o g2 1 W2 (by rw [Zd.o]; exact aP _) Ze.o (by rw [HLO.o,HN.o]; exact hrow))
   have hN1:N=1:=HN.o
   go_wp2_with (at_builtin; refine wpList_append_own_none rfl _ _ 22 rfl 0 64 i0 4 underlying22 HI.o _ _ _ rfl hrow rfl ?_)
   go_meet
   exact ⟨g2,1,by rw [hN1],NJ.o⟩
  have Zf:∀j u,(ed ops)[j]?=some u->W2.cell? (ad.add j)=some u:=λj u hj=>by
   have e1:(ad.add j).block=ad.block:=by unfold Addr.add; split<;>rfl
   exact ((K1.o.trans Ze.o).cell (p:=ad.add j) (by rw [e1]; exact hab) id).trans (hac j u hj)
  have HAC:=Z Zf
  clear Zf
  go_wp2_with (at_builtin; refine wpList_append_own_at _ rfl _ _ 22 rfl 0 64 i0 _ 4 40 underlying22 HI.o iK.o iz.o ja.o rfl de (.slice (sA g2) 1 1) 1 #[.int .i64 4,.int .i64 0,.int .i64 0,.string ⟨#[]⟩].toList rfl hrow ad ops.length _ (ed ops) rfl (nN ops) HAC.o (oU ops) (by unfold maxLen; omega) om zl ?_)
  intro v' w3 pV hgrow _ q_
  have F3:Q w1 w3:=Ze.o.grown hgrow (λk hk=>by
   have e:g2=k:=cI hk
   have:=Zd.o
   exact Y om)
  obtain ⟨gl,cap,rfl,_,_⟩:=pV.form om
  have nP:w1.heap.size<=gl:=by
   have e2:=Zd.o
   rcases q_ with e | e
   ·have:gl=g2:=cI e
    omega
   have:gl=W2.heap.size:=cI e
   have:=Ze.o.size
   omega
  have U0:N=1+ops.length:=HN.o
  have NJ:=Z (J9.o gl cap w3 nP F3 (by rw [HLO.o,U0]; exact pV))
  clear pV hgrow q_ F3
  go_wp2
  go_meet
  exact ⟨gl,cap,by rw [U0],NJ.o⟩
 case rest =>
  obtain ⟨gl,cap,rfl,ade,r0,nx0,ps0,fs0,ns0,ms0,hL0⟩:=hcut
  have L0:=Z hL0
  clear hL0 hrow J9 L1 HP1 C1 hw1 K1 Ze Cs Zd SC
  go_wp2
  go_loopw [6,8,9] (λ_ i _ wr=>∃(k:Nat) (col:Nat->Nat) (r:Rv) (nx:Nat) (ps:List PX) (fs:List FX) (ns ms:List (Value×Int)),k<=N/\i=.int .i64 k/\Dm Φ w wr gl N cap lo (gj (lo.take k)) k col r nx ps fs ns ms) (λ_ i _ _=>N - (intOf i).toNat)
  case atStart=>exact ⟨0,ade,r0,nx0,ps0,fs0,ns0,ms0,aT _,rfl,L0.o⟩
  case round =>
   clear L0
   obtain ⟨k,col,r,nx,ps,fs,ns,ms,hk,rfl,hL⟩:=hrel
   have LL:=Z hL
   have hcn:=hL.n
   clear hL
   by_cases hlt:k<N
   ·have hki:(k:Int)<(N:Int):=om
    have PA:k<lo.length:=by rw [<-LON.o]; exact hlt
    have q0:=(LL.o.row.cellAt (k * 4) om).trans ((ia _ k 0 PA om))
    have q1:=(LL.o.row.cellAt (k * 4+1) om).trans ((ia _ k 1 PA om))
    have q2:=(LL.o.row.cellAt (k * 4+2) om).trans ((ia _ k 2 PA om))
    have q3:=(LL.o.row.cellAt (k * 4+3) om).trans ((ia _ k 3 PA om))
    have BT:=Z (AN lo k PA)
    have BL:=yg lo (k+1)
    have BLO:=LOB.o
    rw [BT.o] at BL
    generalize lo[k]'PA=o at *
    simp only [qn.cells,List.getElem?_cons_zero,List.getElem?_cons_succ] at q0 q1 q2 q3
    have AM:=Z (PK (w:=wr) (g:=rL) (gJ:=gJ) (λi hi=>(LL.o.f.cell (p:=aD rL i) yf id).trans (PL.o i hi)) (by rw [<-Zc.o]; exact Tk) o.k)
    rw [<-Zc.o] at AM
    have ST:Hid (o.k ∈ gJ->Calls prog 30 #[pT w.heap.size,.agg #[.int .i64 o.k,.int .i64 o.p,.int .i64 o.m,.string o.s]] wr λe w'=>e=.returned (.bool true)/\∃dV r' XK ps' fs' ns' ms',Dm Φ w w' gl N cap lo (gj (lo.take (k+1))) (k+1) dV r' XK ps' fs' ns' ms'):=λhm=>by
     refine mo (NQ.o wr w.heap.size col r nx ps fs ns ms (gj (lo.take k)) (HE.o.keep LL.o.f) LL.o.l LL.o.p0 om om om om om LL.o.b o.k o.p o.m o.s hm om) λw' hs=>?_
     refine ⟨rfl,?_⟩
     rw [BT.o]
     exact LL.o.step hs
    have SK:Hid (Dm Φ w wr gl N cap lo (gj (lo.take (k+1))) (k+1) col r nx ps fs ns ms):=LL.o.more (by rw [BT.o]; omega)
    clear PA BL BLO hcn LL
    go_wp2_with fail
    refine (AM.o).mono ?_
    rintro e w4 ⟨rfl,rfl⟩
    by_cases hm:o.k ∈ gJ
    ·have e1:decide (o.k ∈ gJ)=true:=decide_eq_true hm
     have ST2:=Z (ST.o hm)
     rw [e1]
     clear e1 hm ST AM
     go_wp2_with fail
     refine mh (ST2.o) λw5 H5=>?_
     clear q0 q1 q2 q3
     go_wp2
     go_roundw
     case rel =>
      obtain ⟨dV,r',XK,ps',fs',ns',ms',h6⟩:=H5.o
      exact ⟨k+1,dV,r',XK,ps',fs',ns',ms',om,by go_num,h6⟩
     case measure=>simp [intOf]; omega
    have e1:decide (o.k ∈ gJ)=false:=decide_eq_false hm
    rw [e1]
    clear e1 hm ST AM
    go_wp2
    go_roundw
    case rel=>exact ⟨k+1,col,r,nx,ps,fs,ns,ms,om,by go_num,SK.o⟩
    case measure=>simp [intOf]; omega
   have hki:¬(k:Int)<(N:Int):=om
   have hkN:k=N:=om
   obtain ⟨F,hF⟩:∃F,F=fs.length:=⟨_,rfl⟩
   have hFN:F<=N:=om
   have J_:Hid (∃(col:Nat->Nat) (r:Rv) (nx:Nat) (ps:List PX) (fs:List FX) (ns ms:List (Value×Int)),fs.length=F/\Dm Φ w wr gl N cap lo 1100000 (N+0) col r nx ps fs ns ms):=by
    refine ⟨col,r,nx,ps,fs,ns,ms,hF.symm,?_⟩
    have h1:=LL.o
    have h2:=yg lo k
    have h3:=LOB.o
    rw [hkN] at h1 h2
    exact ⟨h1.l,h1.f,h1.c0,h1.cl,h1.row,h1.p0,λf hf=>by have:=h1.b f hf; omega,h1.n⟩
   clear LL hcn hkN hF
   go_wp2
   go_loopw [6,10] (λ_ i wr=>∃(t:Nat),t<=F/\i=.int .i64 t/\∃(col:Nat->Nat) (r:Rv) (nx:Nat) (ps:List PX) (fs:List FX) (ns ms:List (Value×Int)),fs.length=F/\Dm Φ w wr gl N cap lo 1100000 (N+t) col r nx ps fs ns ms) (λ_ i _=>F - (intOf i).toNat)
   case atStart=>exact ⟨0,aT _,rfl,J_.o⟩
   case round =>
    clear J_
    obtain ⟨t,ht,rfl,col,r,nx,ps,fs,ns,ms,hF,hL⟩:=hrel
    have LL:=Z hL
    have hcn:=hL.n
    obtain ⟨fa,fc,PM⟩:=X hL.l.of
    have b1:wr.cell? (aD w.heap.size 1)=some (.slice fa F fc):=by
     have:wr.cell? (aD w.heap.size 1)=some r.f:=hL.l.blk.cell 1
     rw [this,PM,hF]
    clear hL PM
    by_cases htF:t<F
    ·have hti:(t:Int)<(F:Int):=om
     have ST:Hid (Calls prog 30 #[pT w.heap.size,.agg #[.int .i64 6,.int .i64 0,.int .i64 (t:Nat),.string ⟨#[]⟩]] wr λe w'=>e=.returned (.bool true)/\∃(col:Nat->Nat) (r:Rv) (nx:Nat) (ps:List PX) (fs:List FX) (ns ms:List (Value×Int)),fs.length=F/\Dm Φ w w' gl N cap lo 1100000 (N+(t+1)) col r nx ps fs ns ms):=by
      refine (HCL.o wr w.heap.size col r nx ps fs ns ms 1100000 (HE.o.keep LL.o.f) LL.o.l LL.o.p0 om om om om om om LL.o.b lr t om).mono ?_
      rintro e w' ⟨rfl,dV,r',XK,ps',fs',ns',ms',h1,h2,h3,h4,h5,h6,h7,h8,h9⟩
      refine ⟨rfl,?_⟩
      have hst:gI Φ w.heap.size col ⟨ps.length,fs.length,ns.length,ms.length,nx,1100000⟩ wr w':=⟨dV,r',XK,ps',fs',ns',ms',h1,h2,h3,⟨by simp only; omega,by simp only; omega⟩,⟨by simp only; omega,by simp only; omega⟩,h6,h7,h8,h9⟩
      have hg:gl<wr.heap.size:=(LL.o.row.lt gl rfl).2
      have n:=LL.o.n
      refine ⟨dV,r',XK,ps',fs',ns',ms',om,h1,?_,λq hq=>?_,by rw [h3 gl hg (by rw [LL.o.cl]; decide)]; exact LL.o.cl,aV LL.o.row (λq hq=>h2.block q (LL.o.row.lt q hq).2 (λy=>?_)),by rw [h4]; exact LL.o.p0,h9,om⟩
      ·exact ⟨h2.os.trans LL.o.f.os,h2.tape.trans LL.o.f.tape,h2.output.trans LL.o.f.output,az LL.o.f.size h2.size,λq hq _=>(h2.block q (aI hq LL.o.f.size) (λy=>by have:=LL.o.c0 q hq; omega)).trans (LL.o.f.block q hq id)⟩
      ·rw [h3 q (aI hq LL.o.f.size) (by rw [LL.o.c0 q hq]; decide)]; exact LL.o.c0 q hq
      have e:gl=q:=cI hq
      subst e
      have:=LL.o.cl
      omega
     clear LL hcn hF
     go_wp2_with fail
     refine mh (ST.o) λw5 H5=>?_
     clear b1
     go_wp2
     go_roundw
     case rel=>exact ⟨t+1,om,by go_num,H5.o⟩
     case measure=>simp [intOf]; omega
    have hti:¬(t:Int)<(F:Int):=om
    have LK:=Z (J4 LL.o.l.blk LL.o.l.wY LL.o.l.ud LL.o.l.zW LL.o.l.wZ LL.o.l.nk LL.o.l.km om om)
    have KW':=Z LL.o.f
    clear LL hcn hF
    go_wp2_with fail
    refine mo (LK.o) λw6 k6=>?_
    have K6:=Z (KW'.o.trans k6)
    clear k6
    go_wp2
    go_ret
    exact ⟨rfl,K6.o⟩
end Go.Proofs.YtcbadebjpogmlaaGreatDoor
namespace Go.Proofs.YtcbadebjpogmlaaGreatDoor
open Go.ChangeShapes Go.WideShapes Go.ChangeAt Go.RowKit Go.ChangeMaps Tr
theorem Dr:Tryz.prog.globalNamed "strconv.ErrSyntax"=some 6:=by kernel_rfl
theorem J':(Tryz.prog.globals[6]?).map (·.type)=some 180:=by kernel_rfl
theorem adg:Tryz.prog.cellsOf 336=1:=by kernel_rfl
theorem adh:Tryz.prog.cellsOf 9=1:=by kernel_rfl
theorem Tl: "*"++ "errors.errorString"= "*errors.errorString":=by decide
theorem adi(u:TypeId)(h:Tryz.prog.typeName? 3 u=some "*errors.errorString"):u=334:=typeName_ptr_named (nm:= "errors.errorString") (by rw[Tl];kernel_rfl) (by kernel_rfl) (by decide) u (by rw[Tl];exact h)
theorem Zg:(Tryz.prog.globals[0]?).map (·.type)=some 277:=by kernel_rfl
theorem Zj:Tryz.prog.cellsOf 277=20:=by kernel_rfl
theorem Zk:Tryz.prog.cellsOf 258=1:=by kernel_rfl
theorem adj:(Rows.laid_internal_strconv_uint64pow10:DataW Unit)=Lib.tabData .u64 Lib.pow10Tab:=by kernel_rfl
def Ti:List (String×DataW Unit):=[("math/bits.deBruijn32tab",Rows.laid_math_bits_deBruijn32tab),("math/bits.deBruijn64tab",Rows.laid_math_bits_deBruijn64tab),("internal/strconv.uint64pow10",Rows.laid_internal_strconv_uint64pow10),("unicode/utf8.acceptRanges",Rows.laid_unicode_utf8_acceptRanges),("strconv.ErrRange",Rows.laid_strconv_ErrRange),("strconv.ErrSyntax",Rows.laid_strconv_ErrSyntax),("unicode/utf8.first",Rows.laid_unicode_utf8_first)]
theorem Zl:(((begin Tryz.prog (λ_ _=>0) default).world.heap[1]?).bind Obj.row?)=some (#[.int .i64 0],3):=by kernel_rfl
theorem Zm:Tryz.prog.buildable 3=true:=by kernel_rfl
theorem Zn:Tryz.prog.cellTypes Tryz.prog.depth 3=some [3]:=by kernel_rfl
theorem Tm{W:World}(h:laidMetH Tryz.prog Ti W)(r:W.ShapedOpen Tryz.prog):EN W:=by
 have n:laidMet Tryz.prog Ti W:=h;have c:∀{g:Nat}{v:Value},W.cell? ⟨g,0,none⟩=some v->g<W.heap.size:=λ{g v}f=>World.block_lt_of_cell? W ⟨g,0,none⟩ f;obtain⟨a,s,t,_,_,_⟩:=laid_sentinel n.tail.tail.tail.tail.tail Dr J' Tryz.underlying180 adi Tryz.underlying334 Tryz.underlying336 rfl rfl Tryz.underlying9 adg adh;have f:W.cell? ⟨6,0,none⟩=some (.iface 334 (.pointer (some a))):=by simpa using World.var?_cell Dr t 0
 have o:=n.tail.tail;rw[adj]at o;have p:=Lib.tabIs_of_head U' Zg Tryz.underlying277 Tryz.underlying258 Zk Zj o;obtain⟨e,q,w,j⟩:=r.1 1 _ _ (by decide+kernel) Zl;obtain⟨x,t1,t2,t3⟩:=j Zm;rw[Zn]at t1;obtain rfl:=cI t1;have m:e.size=1:=w;obtain⟨v,d⟩:∃v,e[0]?=some v:=⟨e[0],by simp[m]⟩;obtain⟨u,l,b⟩:=t3 0 v d;have l:u=3:=by simpa using l.symm
 subst l;unfold Cell.ok at b;rw[Tryz.underlying3]at b;have i:W.cell? ⟨1,0,none⟩=some v:=by have:V W 1 e 3:=q;rw[this.cell 0];exact d
 have k:0<W.heap.size:=by grind
 refine⟨⟨⟨_,f,I ⟨_,_,rfl⟩⟩,c f⟩,p,k,?_,c i⟩;grind
section
variable{H:Type}{enc:TypeId×Value->H}{P:Program}
theorem rM{f:Func}{s:ChangeSpec}{c o e n:Bool}{W m:World}{d:Array Value}{v:Value}{y z:List (DataW H)}{a pa pv:List MemPlace}(B:DataW.Whole enc P f.params.toList s.vars c W d.toList y z a)(l:∀(b:Nat)(x:Nat->Bool)(G:Bool),DataW.TrodAll enc P m b x G f.resultTypes.toList (v.resultList f.resultTypes.size) (s.fn H (y++z)).results [])(g:∀x:Nat->Bool,(∀p∈a,x p.block=true)->DataW.TrodAll enc P m 0 x true f.params.toList d.toList (s.fn H (y++z)).args pa)(h:∀x:Nat->Bool,(∀p∈a,x p.block=true)->DataW.TrodVars enc P m x s.vars (s.fn H (y++z)).vars pv)(u:a=pa++pv)(A:Q W m)(C:∀(j:Nat)(t:TypeId)(r:Value),f.resultTypes[j]?=some t->(v.resultList f.resultTypes.size)[j]?=some r->Value.okWide P m .any 0 t r):s.post enc P f c o e n W d v m:=by
 have q:=B.lt;have F:W.keptBut m (·∈a):=(World.keptBut_refl W _).congr A.os A.output λi J=>A.block i J id;refine⟨y,z,a,[],pa,pv,B,l _ _ _,g _ λp k=>by simpa using q p k,h _ λp k=>by simpa using q p k,World.keptBut_mono (λp k=>⟨k,I (gU.1 (u▸k))⟩) F,λ_=>?_⟩;obtain⟨_,_,_,_,_,K,M⟩:=B;refine⟨C,_,_,([]++pa)++pv,⟨[]++pa,pv,trodAll_append (g _ λ_ _=>rfl) (l _ _ _),h _ λ_ _=>rfl,rfl,λb w k=>?_,λL=>?_⟩,λp k _=>?_⟩
 .have D:MemPlace.cell b w∈a:=by rw[u];simpa using k
  rw[A.frozen (p:=⟨b,w,none⟩) (q _ D) id];exact K b w D
 .grind
 rw[u];simpa using k
end
end Go.Proofs.YtcbadebjpogmlaaGreatDoor
namespace Go.Proofs.YtcbadebjpogmlaaGreatDoor
open Go.ChangeShapes Go.WideShapes Go.ChangeAt Go.RowKit Tr
section
variable{H:Type}{enc:TypeId×Value->H}{P:Program}{w:World}{base:Nat}{spare:Nat->Bool}{held:Bool}
theorem PN{t i B:TypeId}{j k l m:Field}(K:P.underlying t=some (.struct #[j,k,l,m]))(c:j.type=i/\j.offset=0)(d:k.type=i/\k.offset=1)(e:l.type=i/\l.offset=2)(f:m.type=B/\m.offset=3)(A:P.underlying i=some (.int .i64))(J:P.underlying B=some .string)(F:P.cellsOf t=4)(q:P.cellsOf i=1)(r:P.cellsOf B=1){b:Nat}{C:List Value}{x:DataW H×List MemPlace}(h:DataW.trod enc P w base spare held b t C=some x):∃o:qn,C=o.cells/\o.s.size+1<=Rows.uptoBulk x.1:=by
 obtain⟨S,n,_,L,D,g,p⟩:=DataW.trod_struct K h;rw[F]at D;obtain⟨c0,c1,c2,c3,rfl⟩:=four D;have a:S.length=4:=by simpa using g
 obtain⟨T,U,W,y3,rfl⟩:=four a;have u:=p 0 j rfl;have v:=p 1 k rfl;have y:=p 2 l rfl;have z:=p 3 m rfl;rw[c.1,c.2,q]at u;rw[d.1,d.2,q]at v;rw[e.1,e.2,q]at y;rw[f.1,f.2,r]at z;simp at u v y z;obtain⟨M,c,_,_⟩:=DataW.trod_int A u;obtain⟨N,d,_,_⟩:=DataW.trod_int A v;obtain⟨R,e,_,_⟩:=DataW.trod_int A y;obtain⟨s,f,G,_⟩:=DataW.trod_string J z;simp at c d e f;refine⟨⟨M,N,R,s⟩,by simp[qn.cells,c,d,e,f],?_⟩;rw[L];simp only[List.map_cons,List.map_nil,Rows.uptoBulk,Rows.uptoBulkAll];rw[G];simp only[Rows.uptoBulk];have:s.data.toList.length=s.size:=rfl;omega
end
theorem Ka{H:Type}{enc:TypeId×Value->H}{w:World}{base:Nat}{spare:Nat->Bool}{held:Bool}{a:Nat}{b:List Value}{x:DataW H×List MemPlace}(h:DataW.trod enc Tryz.prog w base spare held a 64 b=some x):∃o:qn,b=o.cells/\o.s.size+1<=Rows.uptoBulk x.1:=by obtain⟨f0,f1,f2,f3,g,c,d,e,f⟩:=xU;exact PN g c d e f Tryz.underlying3 Tryz.underlying9 qH nO rC h
theorem Kb{H:Type}(D:Nat->DataW H)(f:Nat->qn):∀n,(∀i,i<n->(f i).s.size+1<=Rows.uptoBulk (D i))->∀m,m<=n->gj (((List.range n).map f).drop (n-m))+m<=Rows.uptoBulkAll (((List.range n).map D).drop (n-m)):=by
 intro n h m;induction m with|zero=>intro _;rw[Nat.sub_zero,List.drop_of_length_le (by simp),List.drop_of_length_le (by simp)];simp[gj,Rows.uptoBulkAll]|succ m a=>
  intro d;have a:=a (by omega);have b:n-(m+1)<((List.range n).map f).length:=by simp;omega
  have c:n-(m+1)<((List.range n).map D).length:=by simp;omega
  rw[List.drop_eq_getElem_cons b,List.drop_eq_getElem_cons c,show n-(m+1)+1=n-m by omega];simp only[gj,Rows.uptoBulkAll,List.getElem_map,List.getElem_range];grind
theorem AO{w:World}{base n:Nat}{a:Addr}{b:List Value}(h:w.cells? base a n=some b){j:Nat}{u:Value}(d:b[j]?=some u):w.cell? (a.add j)=some u:=by obtain⟨_,e,c⟩:=World.cells?_some h;grind
theorem vK{P:Program}{w:World}{base:Nat}{t e:TypeId}{v:Value}(i:P.underlying t=some (.slice e))(h:Value.okWide P w .any base t v):v=.slice none 0 0\/∃a f b,v=.slice (some a) f b/\a.block<w.heap.size:=by simp only[Value.okWide,Cell.okWide,Cell.ok,i]at h;split at h;all_goals first|(rename_i c;cases c;done)|exact Y rfl|(obtain⟨_,_,_,_,_,_,d,_⟩:=h;refine I ⟨_,_,_,rfl,?_⟩;unfold World.shape? at d;split at d<;>first|(rename_i g;exact bo g)|cases d)|exact absurd h id
section
variable{H:Type}{enc:TypeId×Value->H}{W:World}
variable{a:List MemPlace}
theorem n7{base:Nat}{v:Value}{d:DataW H}(s:Value.okWide Tryz.prog W .any base 22 v)(h:DataW.Trod enc Tryz.prog W 0 (λ_=>true) true 22 v d a){B:Nat}(g:Rows.uptoBulk d<=B):∃(b:Option Addr)(n w:Nat)(l:List qn),v=.slice b n w/\kH W b n w l/\n<=B/\gj l<=B:=by
 obtain⟨x,h⟩:=h;rcases vK Tryz.underlying22 s with rfl|⟨b,c,F,rfl,J⟩;.exact⟨none,0,0,[],rfl,Y ⟨rfl,rfl,rfl,rfl⟩,aT _,aT _⟩
 rcases Deep.open_slice Tryz.underlying22 h with⟨e,U⟩|⟨S,C,t,m,n,D,R,e,_,hl,hm,k,P,y⟩;.simp[Value.cells]at e
 simp only[Value.cells,List.cons.injEq,Value.slice.injEq,Option.some.injEq,and_true]at e;obtain⟨rfl,rfl,rfl⟩:=e;simp only[if_true]at k;subst k;rw[qH]at y;have L:d=.slice ((List.range c).map D) ((List.range (m-c)).map λj=>D (c+j)):=gV Prod.fst P;haveI:Inhabited qn:=⟨⟨0,0,0,⟨#[]⟩⟩⟩;obtain⟨f,z⟩:=Deep.choose_lt (α:=qn) (p:=λi o=>W.cells? 0 (b.add (i*4)) 4=some o.cells/\o.s.size+1<=Rows.uptoBulk (D i)) (n:=c) (λi A=>by obtain⟨T,K,N⟩:=y i (by omega);grind[Ka]);have q:=Kb D f c (λi A=>(z i A).2) c (aP _);rw[Nat.sub_self,List.drop_zero,List.drop_zero]at q;rw[L]at g;simp only[Rows.uptoBulk]at g;refine⟨some b,c,_,(List.range c).map f,rfl,I ⟨b,rfl,by simp,J,λj u p=>?_⟩,by omega,by omega⟩;have M:j<c*4:=by grind[nN]
 have e:j=j/4*4+j%4:=by omega
 have r:j/4<c:=by omega
 rw[e]at p⊢;rw[ia _ (j/4) (j%4) (by simpa using r) (by omega)]at p;have G:((List.range c).map f)[j/4]'(by simpa using r)=f (j/4):=by simp
 rw[G]at p;have:=AO (z (j/4) r).1 p;rwa[Deep.add_add]at this
theorem pW{e:World}{sp:Nat->Bool}{v:Value}{d:DataW H}(h:DataW.Trod enc Tryz.prog W 0 (λ_=>true) true 22 v d a)(f:∀p∈a,p.block<W.heap.size)(l:Q W e)(i:∀p∈a,sp p.block=true):DataW.Trod enc Tryz.prog e 0 sp true 22 v d a:=by obtain⟨c,n⟩:=h;exact⟨c,DataW.trod_stays (w':=e) (sp':=sp) Jx YR (λm=>by cases m) (Y rfl) n (λp g=>by have k:=f p g;cases p with|cell b j=>exact l.cell (p:=⟨b,j,none⟩) k id|map b=>exact l.block b k id) λp g=>i p g⟩
