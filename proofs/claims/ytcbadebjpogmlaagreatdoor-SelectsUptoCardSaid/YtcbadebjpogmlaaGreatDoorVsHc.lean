import Derived.Test.YtcbadebjpogmlaaGreatDoorVsHb
import Derived.Deep.WholeRow
import Derived.Test.YtcbadebjpogmlaaGreatDoorVsFa
import Derived.Test.YtcbadebjpogmlaaGreatDoorVsAa
set_option maxHeartbeats 4000000
set_option maxRecDepth 100000
namespace Go.Proofs.YtcbadebjpogmlaaGreatDoor
open Go.RowKit Tr
def Lt (p:List UInt8) (ai to:Nat):Value:=.agg #[.string (bZ p),.int .i64 (ai:Nat),.int .i64 (to:Nat)]
theorem Qu {R:Ending->World->Prop} {a:Act} {W:World} {g:Nat} {x0 x1 x2:Value} (hd:a.defers=[]) (ha:a.tmps[2]?.getD undef=.pointer (some ⟨g,0,none⟩))
 (hB:ay W g #[x0,x1,x2] 42) (hR:R (.returned (.agg #[x0,x1,x2])) W):bodyPost Tryz.prog Tryz.f36 R .ret a W:=by
 have k0:=hB.cell 0
 have k1:=hB.cell 1
 have k2:=hB.cell 2
 simp at k0 k1 k2
 refine bodyPost_ret (v:=.agg #[x0,x1,x2]) ?_ hd hR
 simp [results,Tryz.results36,go_sem,ha,k0,k1,k2]
theorem Qv {n:Nat} {w:World} {b:Nat} {p:List UInt8} (hn:n<=10) (he:EN w) (h:PH w n b p) {d:dO} {par sv:Value} {ix:Nat} (hb:ay w b (ld d par ix sv) 130) :
 Calls Tryz.prog 36 #[.pointer (some ⟨b,0,none⟩)] w λ r w'=>r=.returned (Lt p d.ai d.to)/\ak w w':=by
 have c1:w.cell? ⟨b,1,none⟩=some (.int .i64 (d.ai:Nat)):=hb.cell 1
 have c2:w.cell? ⟨b,2,none⟩=some (.int .i64 (d.to:Nat)):=hb.cell 2
 obtain ⟨P,hP⟩:∃P,P=bZ p:=⟨_,rfl⟩
 obtain ⟨rb,hrb⟩:∃rb,rb=w.heap.size:=⟨_,rfl⟩
 obtain ⟨w0,hw0⟩:∃w0,w0=w.alloc (.cells #[.string ⟨#[]⟩,.int .i64 0,.int .i64 0] 42):=⟨_,rfl⟩
 have K0:ak w w0:=by rw [hw0]; exact (Fr.refl _ w).alloc _
 have B0:ay w0 rb #[.string ⟨#[]⟩,.int .i64 0,.int .i64 0] 42:=by rw [hw0,hrb]; exact ay.new w _ _
 have Yq:Hid (Calls Tryz.prog 55 #[.pointer (some ⟨b,0,none⟩)] w0.drew λ r w'=>r=.returned (.string P)/\(ak w w'/\ay w' rb #[.string ⟨#[]⟩,.int .i64 0,.int .i64 0] 42)):=by
  have K1:ak w w0.drew:=K0.drewN 1
  rw [hP]
  exact (Gj n hn (he.keep K1) (h.keep K1)).mono (λ r w' ⟨h1,h2⟩=>⟨h1,K1.trans h2,ay.fr (w:=w0.drew) B0 h2 id⟩)
 have hlt:=hb.lt
 have hrw:w.heap.size<=rb:=by omega
 have zk:b≠rb:=by omega
 have KS:Hid (∀W,ak w W->W.cell? ⟨b,1,none⟩=some (.int .i64 (d.ai:Nat))/\W.cell? ⟨b,2,none⟩=some (.int .i64 (d.to:Nat))/\ak w W):=λ W hW=>⟨(hW.cell (p:=⟨b,1,none⟩) hlt id).trans c1,(hW.cell (p:=⟨b,2,none⟩) hlt id).trans c2,hW⟩
 unfold Lt
 rw [<-hP]
 have Gb:=aa hw0
 have K00:=aa K0
 have ZM:=aa hrb
 clear hb he h hP B0 K0 hw0 hrb
 go_enter Tryz.func36,Tryz.ntmps36
 go_wp2
 rw [<-Gb.out,<-ZM.out]
 go_region_held (λ w'=>w'.cell? ⟨b,1,none⟩=some (.int .i64 (d.ai:Nat))/\w'.cell? ⟨b,2,none⟩=some (.int .i64 (d.to:Nat))/\ak w w')
  (first | exact KS.out _ (K00.out.drewN 1) | exact KS.out _ (by assumption) | exact KS.out _ (Fr.setCell (Fr.setCell (Fr.setCell (by assumption) ⟨rb,0,none⟩ (Or.inr hrw) _) ⟨rb,1,none⟩ (Or.inr hrw) _) ⟨rb,2,none⟩ (Or.inr hrw) _))
  (first | (go_at_call 55; refine Yq.out.mono ?_; rintro r w1 ⟨rfl,sL,TL⟩; have ZO:=aa TL; have s0:=TL.cell 0; have s1:=TL.cell 1; have s2:=TL.cell 2; simp at s0 s1 s2; have fz:=TL.fz; clear TL))
 all_goals
  go_wp2
  refine Qu rfl rfl (((ZO.out.set 0 _).set 1 _).set 2 _) ?_
  exact ⟨rfl,by first | assumption | exact ‹_/\_/\ak w _›.2.2⟩
theorem Gk {w:World} {A:Nat->Nat} {D:Nat->Prop}:∀{n:Nat} {par:Value} {ix:Nat} {t:Tv},PT w A D n par ix t->∀v ∈ au n t,∃m par' qh,m<=n/\PT w A D m par' qh v
 | 0,_,_,_,h,_,_=>h.elim
 | n+1,par,ix,t,h,v,hv=>by
  have hv:v ∈ t::t.ws.flatMap (au n):=hv
  rcases List.mem_cons.1 hv with e | e
  ·subst e; exact ⟨n+1,par,ix,Nat.le_refl _,h⟩
  obtain ⟨c,hc,Ol⟩:=List.mem_flatMap.1 e
  obtain ⟨i,hi,rfl⟩:=List.mem_iff_getElem.1 hc
  obtain ⟨m,p',i',h1,h2⟩:=Gk (h.2.2.2.2 i hi) v Ol
  exact ⟨m,p',i',by omega,h2⟩
theorem sQ {F:Tv->List Tv} {N:List Tv} {j:Nat} (h:j<N.length):(N.take (j+1)).flatMap F=(N.take j).flatMap F++F N[j]:=by
 rw [List.take_succ_eq_append_getElem h,List.flatMap_append]; simp
theorem Gl (F:Tv->List Tv) (N:List Tv) (j:Nat):((N.take j).flatMap F).length<=(N.flatMap F).length:=by
 have e:N.flatMap F=(N.take j).flatMap F++(N.drop j).flatMap F:=by rw [<-List.flatMap_append,List.take_append_drop]
 rw [e,List.length_append]; omega
theorem wE {w:World} {B B':Nat} {e:TypeId} {sz:Nat} {v:Value} {n:Nat} {xs:List Value} (h:w.ownsRow B e sz v n xs) (hb:B'<=B):w.ownsRow B' e sz v n xs:=by
 refine ⟨h.1,?_⟩
 rcases h.2 with x | ⟨k,cap,cur,h1,h2,h3⟩
 ·exact Or.inl x
 exact Or.inr ⟨k,cap,cur,h1,Nat.le_trans hb h2,h3⟩
theorem Lu {w:World} {b:Nat} {tt:ByteArray} {xs:List Sg} (hp:oD w b tt xs) {A:Nat->Nat} {D:Nat->Prop} {ix:Nat} {t:Tv} (ht:PT w A D 10 (.pointer none) ix t) (hD:∀k,D k->k<w.heap.size) (hT:Tree t) (hlen:∀k,k<=xs.length->(aI (xs.take k) [t]).length<=900000000000) :
 Calls Tryz.prog 35 #[.pointer (some ⟨b,0,none⟩),iS A t] w λ r w'=>∃sv,r=.returned sv/\ak w w'/\w'.ownsRow w.heap.size 71 1 sv (aI xs [t]).length ((aI xs [t]).map (iS A)):=by
 obtain ⟨sv,l,Dp,hb,hrow,hxl,hx1⟩:=hp
 obtain ⟨ao,cp,rfl⟩:=ah hrow.o
 have jT:l.length=xs.length:=hxl.symm
 rw [jT] at hb
 have c1:w.cell? ⟨b,1,none⟩=some (.slice ao xs.length cp):=hb.cell 1
 have HR:=aa hrow
 have HT:=aa ht
 have HTR:=aa hT
 have HL:=aa hlen
 have HDD:=aa hD
 have js:=aa jT
 have wF:=hb.lt
 have O0:Hid ((w.alloc (.cells #[iS A t] 71)).ownsRow w.heap.size 71 1 (.slice (some ⟨w.heap.size,0,none⟩) 1 1) 1 [iS A t]):=⟨rfl,Or.inr ⟨w.heap.size,1,#[iS A t],rfl,Nat.le_refl _,heap_alloc_new w _,Nat.le_refl _,by unfold maxLen; decide,rfl,rfl⟩⟩
 have K0:Hid (ak w (w.alloc (.cells #[iS A t] 71))):=(Fr.refl _ w).alloc _
 have c1a:(w.alloc (.cells #[iS A t] 71)).cell? ⟨b,1,none⟩=some (.slice ao xs.length cp):=(K0.out.cell (p:=⟨b,1,none⟩) wF id).trans c1
 clear hb hrow ht hT hlen hD hxl jT c1
 unfold iS at *
 go_enter Tryz.func35,Tryz.ntmps35
 go_wp2
 go_loopw [5,18] (λ sv i wr=>∃k:Nat,k<=xs.length/\i=.int .i64 k/\ak w wr/\wr.ownsRow w.heap.size 71 1 sv (aI (xs.take k) [t]).length ((aI (xs.take k) [t]).map (iS A))) (λ_ i _=>xs.length - (intOf i).toNat)
 case atStart=>exact ⟨0,Nat.zero_le _,rfl,K0.out,O0.out⟩
 case round =>
  obtain ⟨k,hk,rfl,hK,hO⟩:=hrel
  have KK:=aa hK
  have OO:=aa hO
  clear hK hO K0 O0 c1a
  by_cases hlt:k<xs.length
  ·obtain ⟨g,cap,hv,Bg,qg⟩:=HR.out.o.form (by have:=js.out; omega)
   rw [js.out] at hv
   simp only [Value.slice.injEq,true_and] at hv
   obtain ⟨rfl,rfl⟩:=hv
   have l5:∀c:Nat,wr.cell? ⟨g,c,none⟩=w.cell? ⟨g,c,none⟩:=λ c=>KK.out.cell (p:=⟨g,c,none⟩) qg id
   have hkl:k<l.length:=by have:=js.out; omega
   have hcell:∀c:Nat,c<3->wr.cell? ⟨g,k * 3+c,none⟩=(l[k]).cells[c]?:=λ c hc=>((l5 _).trans (HR.out.o.cellAt (k * 3+c) (by rw [js.out]; omega))).trans (oE l k c hc hkl)
   have Qw:=hcell 0 (by decide)
   have Oh:=hcell 1 (by decide)
   have TM:=hcell 2 (by decide)
   clear hcell l5
   have EY:∀W,ak w W->Lv W l[k] xs[k]:=λ W hW=>HR.out.ok k hkl W (Sm.fr HR.out.ft hW (λ_ _ y=>y)) _ (List.getElem?_eq_getElem hlt)
   generalize hs:l[k]=s at *
   simp only [GV.cells,List.getElem?_cons_zero,List.getElem?_cons_succ,Nat.add_zero] at Qw Oh TM
   obtain ⟨Wk,TN⟩:∃Wk,Wk=wr.alloc (.cells #[.func s.f s.x s.y,.func s.f' s.x' s.y',.bool s.b] 128):=⟨_,rfl⟩
   have TO:ak w Wk:=by rw [TN]; exact KK.out.alloc _
   have BS:ay Wk wr.heap.size #[.func s.f s.x s.y,.func s.f' s.x' s.y',.bool s.b] 128:=by rw [TN]; exact ay.new wr _ _
   obtain ⟨N,zl,hfn,hE,cV⟩:=(EY Wk TO).2.t
   simp only [Value.func.injEq] at hfn
   obtain ⟨e1,e2,e3⟩:=hfn
   rw [e1,e2,e3] at Qw TN BS
   obtain ⟨L,hL⟩:∃L,L=aI (xs.take k) [t]:=⟨_,rfl⟩
   have hL1:∀v ∈ L,v ∈ au 10 t:=by rw [hL]; exact jA HTR.out _ [t] (λ u hu=>by rw [List.mem_singleton.1 hu]; exact bM HTR.out.d)
   have ZP:aI (xs.take (k+1)) [t]=L.flatMap (dr xs[k]):=by rw [hL]; exact p7 hlt [t]
   have hLl:=HL.out (k+1) (by omega)
   rw [ZP] at hLl
   have hLk:=HL.out k hk
   have hO:=OO.out
   rw [<-hL] at hO hLk
   obtain ⟨a5,c5,Qx⟩:=ah hO
   subst Qx
   have rX:Wk.ownsRow w.heap.size 71 1 (.slice a5 L.length c5) L.length (L.map (iS A)):=by rw [TN]; exact hO.alloc _
   have PTs:Hid (∀v ∈ L,∃n par ix,n<=10/\PT Wk A (λ k=>k<w.heap.size) n par ix v):=λ v hv=>by
    obtain ⟨m,p',i',q1,q2⟩:=Gk HT.out v (hL1 v hv)
    exact ⟨m,p',i',q1,q2.up TO⟩
   have ZQ:Hid (∀(j:Nat) (hj:j<L.length) (EZ:Value) (W:World),PL Wk A ((L.take j).flatMap (dr xs[k])) EZ W->Calls Tryz.prog N (#[.pointer (some ⟨A (L[j]).d.ai,0,none⟩),EZ]++zl) W λ r w2=>∃iA,r=.returned iA/\PL Wk A ((L.take (j+1)).flatMap (dr xs[k])) iA w2):=λ j hj EZ W TQ=>by
    obtain ⟨n,par',qh,q1,q2⟩:=PTs.out L[j] (List.getElem_mem hj)
    have:=cV A _ n par' qh L[j] q2 q1 (λ k hk=>Nat.lt_of_lt_of_le hk TO.size) _ EZ W TQ (by
     have a:=Gl (dr xs[k]) L (j+1)
     rw [sQ hj,List.length_append] at a
     omega)
    rw [sQ hj]
    exact this
   have NXT:Hid (∀(EZ:Value) (W:World),PL Wk A ((L.take L.length).flatMap (dr xs[k])) EZ W->ak w W/\W.ownsRow w.heap.size 71 1 EZ (aI (xs.take (k+1)) [t]).length ((aI (xs.take (k+1)) [t]).map (iS A))):=λ EZ W h=>by
    rw [ZP]
    have o:=h.o
    rw [List.take_length] at o
    exact ⟨TO.trans h.f,wE o TO.size⟩
   have CEL:Hid (∀(j:Nat) (hj:j<L.length) (W:World),ak Wk W->∃g5,a5=some ⟨g5,0,none⟩/\W.cell? ⟨g5,j,none⟩=some (.pointer (some ⟨A (L[j]).d.ai,0,none⟩))):=λ j hj W hW=>by
    obtain ⟨g5,zm,hv5,_,hg5⟩:=rX.form (by omega)
    simp only [Value.slice.injEq,true_and] at hv5
    obtain ⟨rfl,rfl⟩:=hv5
    refine ⟨g5,rfl,?_⟩
    rw [hW.cell (p:=⟨g5,j,none⟩) hg5 id,rX.cellAt j (by omega)]
    simp [iS,hj]
   have US:Hid (∀W,ak Wk W->W.cell? ⟨wr.heap.size,0,none⟩=some (.func (.func N) #[] zl)):=λ W hW=>by
    exact (BS.fr hW id).cell 0
   have HWk:=aa TN
   rw [<-hL] at *
   clear hL1 ZP hO rX BS TO cV EY TN OO hL hLl e1 e2 e3
   go_wp2
   rw [<-HWk.out]
   go_loopw [8,24] (λ EZ i W=>∃j:Nat,j<=L.length/\i=.int .i64 j/\PL Wk A ((L.take j).flatMap (dr xs[k])) EZ W) (λ_ i _=>L.length - (intOf i).toNat)
   case atStart=>exact ⟨0,Nat.zero_le _,rfl,Fr.refl _ _,World.ownsRow_nil _ _ _ _⟩
   case round =>
    obtain ⟨j,hj,rfl,TQ⟩:=hrel
    have PP:=aa TQ
    obtain ⟨a8,c8,UT⟩:=ah TQ.o
    have sg:=US.out _ TQ.f
    clear TQ
    obtain ⟨m8,TR⟩:∃m8,m8=((L.take j).flatMap (dr xs[k])).length:=⟨_,rfl⟩
    rw [<-TR] at UT
    clear TR
    subst UT
    by_cases hjl:j<L.length
    ·obtain ⟨g5,rfl,ce⟩:=CEL.out j hjl _ PP.out.f
     go_wp2_with fail
     refine (ZQ.out j hjl _ _ PP.out).mono ?_
     rintro r w2 ⟨iA,rfl,zn⟩
     have P2:=aa zn
     obtain ⟨a9,c9,UU⟩:=ah zn.o
     clear zn
     obtain ⟨m9,hm9⟩:∃m9,m9=((L.take (j+1)).flatMap (dr xs[k])).length:=⟨_,rfl⟩
     rw [<-hm9] at UU
     clear hm9
     subst UU
     go_wp2
     go_roundw
     case rel=>exact ⟨j+1,by omega,by go_num,P2.out⟩
     case measure=>simp [intOf]; omega
    have ny:j=L.length:=by omega
    subst ny
    have NN:=aa (NXT.out _ _ PP.out)
    go_wp2
    go_roundw
    case rel=>exact ⟨k+1,by omega,by go_num,NN.out.1,NN.out.2⟩
    case measure=>simp [intOf]; omega
  have hks:k=xs.length:=by omega
  subst hks
  go_wp2
  go_ret
  refine ⟨_,rfl,KK.out,?_⟩
  have:=OO.out
  rw [List.take_length] at this
  exact this
end Go.Proofs.YtcbadebjpogmlaaGreatDoor
