import Derived.Test.YtcbadebjpogmlaaGreatDoorPHb
import Derived.Deep.WholeRow
import Derived.Test.YtcbadebjpogmlaaGreatDoorPMkZ
import Derived.Test.YtcbadebjpogmlaaGreatDoorPAa
namespace Go.Proofs.YtcbadebjpogmlaaGreatDoor
open Go.RowKit Tr
def nagg (p:List UInt8) (frm to:Nat):Value:=.agg #[.string (bsb p),.int .i64 (frm:Nat),.int .i64 (to:Nat)]
set_option maxHeartbeats 1000000 in
theorem ret_nd {R:Ending→World→Prop} {a:Act} {W:World} {g:Nat} {x0 x1 x2:Value} (hd:a.defers=[]) (ha:a.tmps[2]?.getD undef=.pointer (some ⟨g,0,none⟩))
 (hB:Blk W g #[x0,x1,x2] 42) (hR:R (.returned (.agg #[x0,x1,x2])) W):bodyPost Tryz.prog Tryz.f36 R .ret a W:=by
 have k0:=hB.cell 0
 have k1:=hB.cell 1
 have k2:=hB.cell 2
 simp at k0 k1 k2
 refine bodyPost_ret (v:=.agg #[x0,x1,x2]) ?_ hd hR
 simp [results,Tryz.results36,go_sem,ha,k0,k1,k2]
set_option maxHeartbeats 4000000 in
set_option maxRecDepth 100000 in
theorem p_node {n:Nat} {w:World} {b:Nat} {p:List UInt8} (hn:n≤10) (he:EN w) (h:PH w n b p) {d:Dat} {par sv:Value} {ix:Nat} (hb:Blk w b (pcl d par ix sv) 130) :
 Calls Tryz.prog 36 #[.pointer (some ⟨b,0,none⟩)] w fun r w'=>r=.returned (nagg p d.frm d.to)∧Keeps w w':=by
 have c1:w.cell? ⟨b,1,none⟩=some (.int .i64 (d.frm:Nat)):=hb.cell 1
 have c2:w.cell? ⟨b,2,none⟩=some (.int .i64 (d.to:Nat)):=hb.cell 2
 obtain ⟨P,hP⟩:∃P,P=bsb p:=⟨_,rfl⟩
 obtain ⟨rb,hrb⟩:∃rb,rb=w.heap.size:=⟨_,rfl⟩
 obtain ⟨w0,hw0⟩:∃w0,w0=w.alloc (.cells #[.string ⟨#[]⟩,.int .i64 0,.int .i64 0] 42):=⟨_,rfl⟩
 have K0:Keeps w w0:=by rw [hw0]; exact (Fr.refl _ w).alloc _
 have B0:Blk w0 rb #[.string ⟨#[]⟩,.int .i64 0,.int .i64 0] 42:=by rw [hw0,hrb]; exact Blk.new w _ _
 have REC:Hid (Calls Tryz.prog 55 #[.pointer (some ⟨b,0,none⟩)] w0.drew fun r w'=>r=.returned (.string P)∧(Keeps w w'∧Blk w' rb #[.string ⟨#[]⟩,.int .i64 0,.int .i64 0] 42)):=by
  have K1:Keeps w w0.drew:=K0.drewN 1
  rw [hP]
  exact (p_path n hn (he.keep K1) (h.keep K1)).mono (fun r w' ⟨h1,h2⟩=>⟨h1,K1.trans h2,Blk.fr (w:=w0.drew) B0 h2 id⟩)
 have hlt:=hb.lt
 have hrw:w.heap.size≤rb:=by omega
 have hbr:b≠rb:=by omega
 have KS:Hid (∀W,Keeps w W→W.cell? ⟨b,1,none⟩=some (.int .i64 (d.frm:Nat))∧W.cell? ⟨b,2,none⟩=some (.int .i64 (d.to:Nat))∧Keeps w W):=fun W hW=>⟨(hW.cell (p:=⟨b,1,none⟩) hlt id).trans c1,(hW.cell (p:=⟨b,2,none⟩) hlt id).trans c2,hW⟩
 unfold nagg
 rw [← hP]
 have HW0:=hide hw0
 have K00:=hide K0
 have HRB:=hide hrb
 clear hb he h hP B0 K0 hw0 hrb
 go_enter Tryz.func36,Tryz.ntmps36
 go_wp2
 rw [← HW0.out,← HRB.out]
 go_region_held (fun w'=>w'.cell? ⟨b,1,none⟩=some (.int .i64 (d.frm:Nat))∧w'.cell? ⟨b,2,none⟩=some (.int .i64 (d.to:Nat))∧Keeps w w')
  (first | exact KS.out _ (K00.out.drewN 1) | exact KS.out _ (by assumption) | exact KS.out _ (Fr.setCell (Fr.setCell (Fr.setCell (by assumption) ⟨rb,0,none⟩ (Or.inr hrw) _) ⟨rb,1,none⟩ (Or.inr hrw) _) ⟨rb,2,none⟩ (Or.inr hrw) _))
  (first | (go_at_call 55; refine REC.out.mono ?_; rintro r w1 ⟨rfl,hk1,hB1⟩; have BB1:=hide hB1; have s0:=hB1.cell 0; have s1:=hB1.cell 1; have s2:=hB1.cell 2; simp at s0 s1 s2; have fz:=hB1.fz; clear hB1))
 all_goals
  go_wp2
  refine ret_nd rfl rfl (((BB1.out.set 0 _).set 1 _).set 2 _) ?_
  exact ⟨rfl,by first | assumption | exact ‹_∧_∧Keeps w _›.2.2⟩
end Go.Proofs.YtcbadebjpogmlaaGreatDoor
namespace Go.Proofs.YtcbadebjpogmlaaGreatDoor
open Go.RowKit Tr
theorem pt_mem {w:World} {A:Nat→Nat} {D:Nat→Prop}:∀{n:Nat} {par:Value} {ix:Nat} {t:Tv},PT w A D n par ix t→∀v ∈ allT n t,∃m par' ix',m≤n∧PT w A D m par' ix' v
 | 0,_,_,_,h,_,_=>h.elim
 | n+1,par,ix,t,h,v,hv=>by
  have hv:v ∈ t::t.ws.flatMap (allT n):=hv
  rcases List.mem_cons.1 hv with e | e
  ·subst e; exact ⟨n+1,par,ix,Nat.le_refl _,h⟩
  obtain ⟨c,hc,hvc⟩:=List.mem_flatMap.1 e
  obtain ⟨i,hi,rfl⟩:=List.mem_iff_getElem.1 hc
  obtain ⟨m,p',i',h1,h2⟩:=pt_mem (h.2.2.2.2 i hi) v hvc
  exact ⟨m,p',i',by omega,h2⟩
theorem flat_take {F:Tv→List Tv} {N:List Tv} {j:Nat} (h:j<N.length):(N.take (j+1)).flatMap F=(N.take j).flatMap F++F N[j]:=by
 rw [List.take_succ_eq_append_getElem h,List.flatMap_append]; simp
theorem flat_len (F:Tv→List Tv) (N:List Tv) (j:Nat):((N.take j).flatMap F).length≤(N.flatMap F).length:=by
 have e:N.flatMap F=(N.take j).flatMap F++(N.drop j).flatMap F:=by rw [← List.flatMap_append,List.take_append_drop]
 rw [e,List.length_append]; omega
theorem own_base {w:World} {B B':Nat} {e:TypeId} {sz:Nat} {v:Value} {n:Nat} {xs:List Value} (h:w.ownsRow B e sz v n xs) (hb:B'≤B):w.ownsRow B' e sz v n xs:=by
 refine ⟨h.1,?_⟩
 rcases h.2 with x | ⟨k,cap,cur,h1,h2,h3⟩
 ·exact Or.inl x
 exact Or.inr ⟨k,cap,cur,h1,Nat.le_trans hb h2,h3⟩
set_option maxHeartbeats 4000000 in
set_option maxRecDepth 100000 in
theorem p_nodes {w:World} {b:Nat} {tt:ByteArray} {xs:List Sg} (hp:PlanV w b tt xs) {A:Nat→Nat} {D:Nat→Prop} {ix:Nat} {t:Tv} (ht:PT w A D 10 (.pointer none) ix t) (hD:∀k,D k→k<w.heap.size) (hT:Tree t) (hlen:∀k,k≤xs.length→(nodesS (xs.take k) [t]).length≤900000000000) :
 Calls Tryz.prog 35 #[.pointer (some ⟨b,0,none⟩),pvp A t] w fun r w'=>∃sv,r=.returned sv∧Keeps w w'∧w'.ownsRow w.heap.size 71 1 sv (nodesS xs [t]).length ((nodesS xs [t]).map (pvp A)):=by
 obtain ⟨sv,l,Dp,hb,hrow,hxl,hx1⟩:=hp
 obtain ⟨ao,cp,rfl⟩:=own_slice hrow.o
 have hll:l.length=xs.length:=hxl.symm
 rw [hll] at hb
 have c1:w.cell? ⟨b,1,none⟩=some (.slice ao xs.length cp):=hb.cell 1
 have HR:=hide hrow
 have HT:=hide ht
 have HTR:=hide hT
 have HL:=hide hlen
 have HDD:=hide hD
 have HLL:=hide hll
 have hbl:=hb.lt
 have O0:Hid ((w.alloc (.cells #[pvp A t] 71)).ownsRow w.heap.size 71 1 (.slice (some ⟨w.heap.size,0,none⟩) 1 1) 1 [pvp A t]):=⟨rfl,Or.inr ⟨w.heap.size,1,#[pvp A t],rfl,Nat.le_refl _,heap_alloc_new w _,Nat.le_refl _,by unfold maxLen; decide,rfl,rfl⟩⟩
 have K0:Hid (Keeps w (w.alloc (.cells #[pvp A t] 71))):=(Fr.refl _ w).alloc _
 have c1a:(w.alloc (.cells #[pvp A t] 71)).cell? ⟨b,1,none⟩=some (.slice ao xs.length cp):=(K0.out.cell (p:=⟨b,1,none⟩) hbl id).trans c1
 clear hb hrow ht hT hlen hD hxl hll c1
 unfold pvp at *
 go_enter Tryz.func35,Tryz.ntmps35
 go_wp2
 go_loopw [5,18] (fun sv i wr=>∃k:Nat,k≤xs.length∧i=.int .i64 k∧Keeps w wr∧wr.ownsRow w.heap.size 71 1 sv (nodesS (xs.take k) [t]).length ((nodesS (xs.take k) [t]).map (pvp A))) (fun _ i _=>xs.length - (intOf i).toNat)
 case atStart=>exact ⟨0,Nat.zero_le _,rfl,K0.out,O0.out⟩
 case round =>
  obtain ⟨k,hk,rfl,hK,hO⟩:=hrel
  have KK:=hide hK
  have OO:=hide hO
  clear hK hO K0 O0 c1a
  by_cases hlt:k<xs.length
  ·obtain ⟨g,cap,hv,hbg,hgl⟩:=HR.out.o.form (by have:=HLL.out; omega)
   rw [HLL.out] at hv
   simp only [Value.slice.injEq,true_and] at hv
   obtain ⟨rfl,rfl⟩:=hv
   have hgw:∀c:Nat,wr.cell? ⟨g,c,none⟩=w.cell? ⟨g,c,none⟩:=fun c=>KK.out.cell (p:=⟨g,c,none⟩) hgl id
   have hkl:k<l.length:=by have:=HLL.out; omega
   have hcell:∀c:Nat,c<3→wr.cell? ⟨g,k * 3+c,none⟩=(l[k]).cells[c]?:=fun c hc=>((hgw _).trans (HR.out.o.cellAt (k * 3+c) (by rw [HLL.out]; omega))).trans (segCells_at l k c hc hkl)
   have kc0:=hcell 0 (by decide)
   have kc1:=hcell 1 (by decide)
   have kc2:=hcell 2 (by decide)
   clear hcell hgw
   have hsg:∀W,Keeps w W→SgIs W l[k] xs[k]:=fun W hW=>HR.out.ok k hkl W (Sm.fr HR.out.ft hW (fun _ _ y=>y)) _ (List.getElem?_eq_getElem hlt)
   generalize hs:l[k]=s at *
   simp only [GV.cells,List.getElem?_cons_zero,List.getElem?_cons_succ,Nat.add_zero] at kc0 kc1 kc2
   obtain ⟨Wk,hWk⟩:∃Wk,Wk=wr.alloc (.cells #[.func s.f s.x s.y,.func s.f' s.x' s.y',.bool s.b] 128):=⟨_,rfl⟩
   have KWk:Keeps w Wk:=by rw [hWk]; exact KK.out.alloc _
   have BS:Blk Wk wr.heap.size #[.func s.f s.x s.y,.func s.f' s.x' s.y',.bool s.b] 128:=by rw [hWk]; exact Blk.new wr _ _
   obtain ⟨N,cp2,hfn,hE,hcall⟩:=(hsg Wk KWk).2.t
   simp only [Value.func.injEq] at hfn
   obtain ⟨e1,e2,e3⟩:=hfn
   rw [e1,e2,e3] at kc0 hWk BS
   obtain ⟨L,hL⟩:∃L,L=nodesS (xs.take k) [t]:=⟨_,rfl⟩
   have hL1:∀v ∈ L,v ∈ allT 10 t:=by rw [hL]; exact nodes_sub HTR.out _ [t] (fun u hu=>by rw [List.mem_singleton.1 hu]; exact self_mem HTR.out.d)
   have hLn:nodesS (xs.take (k+1)) [t]=L.flatMap (segS xs[k]):=by rw [hL]; exact nodes_take hlt [t]
   have hLl:=HL.out (k+1) (by omega)
   rw [hLn] at hLl
   have hLk:=HL.out k hk
   have hO:=OO.out
   rw [← hL] at hO hLk
   obtain ⟨a5,c5,hsv5⟩:=own_slice hO
   subst hsv5
   have hOk:Wk.ownsRow w.heap.size 71 1 (.slice a5 L.length c5) L.length (L.map (pvp A)):=by rw [hWk]; exact hO.alloc _
   have PTs:Hid (∀v ∈ L,∃n par ix,n≤10∧PT Wk A (fun k=>k<w.heap.size) n par ix v):=fun v hv=>by
    obtain ⟨m,p',i',q1,q2⟩:=pt_mem HT.out v (hL1 v hv)
    exact ⟨m,p',i',q1,q2.up KWk⟩
   have CALL:Hid (∀(j:Nat) (hj:j<L.length) (sv8:Value) (W:World),PL Wk A ((L.take j).flatMap (segS xs[k])) sv8 W→Calls Tryz.prog N (#[.pointer (some ⟨A (L[j]).d.frm,0,none⟩),sv8]++cp2) W fun r w2=>∃sv2,r=.returned sv2∧PL Wk A ((L.take (j+1)).flatMap (segS xs[k])) sv2 w2):=fun j hj sv8 W hPL=>by
    obtain ⟨n,par',ix',q1,q2⟩:=PTs.out L[j] (List.getElem_mem hj)
    have:=hcall A _ n par' ix' L[j] q2 q1 (fun k hk=>Nat.lt_of_lt_of_le hk KWk.size) _ sv8 W hPL (by
     have a:=flat_len (segS xs[k]) L (j+1)
     rw [flat_take hj,List.length_append] at a
     omega)
    rw [flat_take hj]
    exact this
   have NXT:Hid (∀(sv8:Value) (W:World),PL Wk A ((L.take L.length).flatMap (segS xs[k])) sv8 W→Keeps w W∧W.ownsRow w.heap.size 71 1 sv8 (nodesS (xs.take (k+1)) [t]).length ((nodesS (xs.take (k+1)) [t]).map (pvp A))):=fun sv8 W h=>by
    rw [hLn]
    have o:=h.o
    rw [List.take_length] at o
    exact ⟨KWk.trans h.f,own_base o KWk.size⟩
   have CEL:Hid (∀(j:Nat) (hj:j<L.length) (W:World),Keeps Wk W→∃g5,a5=some ⟨g5,0,none⟩∧W.cell? ⟨g5,j,none⟩=some (.pointer (some ⟨A (L[j]).d.frm,0,none⟩))):=fun j hj W hW=>by
    obtain ⟨g5,cap5,hv5,_,hg5⟩:=hOk.form (by omega)
    simp only [Value.slice.injEq,true_and] at hv5
    obtain ⟨rfl,rfl⟩:=hv5
    refine ⟨g5,rfl,?_⟩
    rw [hW.cell (p:=⟨g5,j,none⟩) hg5 id,hOk.cellAt j (by omega)]
    simp [pvp,hj]
   have SEG:Hid (∀W,Keeps Wk W→W.cell? ⟨wr.heap.size,0,none⟩=some (.func (.func N) #[] cp2)):=fun W hW=>by
    exact (BS.fr hW id).cell 0
   have HWk:=hide hWk
   rw [← hL] at *
   clear hL1 hLn hO hOk BS KWk hcall hsg hWk OO hL hLl e1 e2 e3
   go_wp2
   rw [← HWk.out]
   go_loopw [8,24] (fun sv8 i W=>∃j:Nat,j≤L.length∧i=.int .i64 j∧PL Wk A ((L.take j).flatMap (segS xs[k])) sv8 W) (fun _ i _=>L.length - (intOf i).toNat)
   case atStart=>exact ⟨0,Nat.zero_le _,rfl,Fr.refl _ _,World.ownsRow_nil _ _ _ _⟩
   case round =>
    obtain ⟨j,hj,rfl,hPL⟩:=hrel
    have PP:=hide hPL
    obtain ⟨a8,c8,hsv8⟩:=own_slice hPL.o
    have sg:=SEG.out _ hPL.f
    clear hPL
    obtain ⟨m8,hm8⟩:∃m8,m8=((L.take j).flatMap (segS xs[k])).length:=⟨_,rfl⟩
    rw [← hm8] at hsv8
    clear hm8
    subst hsv8
    by_cases hjl:j<L.length
    ·obtain ⟨g5,rfl,ce⟩:=CEL.out j hjl _ PP.out.f
     go_wp2_with fail
     refine (CALL.out j hjl _ _ PP.out).mono ?_
     rintro r w2 ⟨sv2,rfl,hP2⟩
     have P2:=hide hP2
     obtain ⟨a9,c9,hsv9⟩:=own_slice hP2.o
     clear hP2
     obtain ⟨m9,hm9⟩:∃m9,m9=((L.take (j+1)).flatMap (segS xs[k])).length:=⟨_,rfl⟩
     rw [← hm9] at hsv9
     clear hm9
     subst hsv9
     go_wp2
     go_roundw
     case rel=>exact ⟨j+1,by omega,by go_num,P2.out⟩
     case measure=>simp [intOf]; omega
    have hje:j=L.length:=by omega
    subst hje
    have NN:=hide (NXT.out _ _ PP.out)
    go_wp2
    go_roundw
    case rel=>exact ⟨k+1,by omega,by go_num,NN.out.1,NN.out.2⟩
    case measure=>simp [intOf]; omega
  have hks:k=xs.length:=by omega
  subst hks
  go_wp2
  go_ret
  refine ⟨_,rfl,KK.out,?_⟩
  have:=OO.out
  rw [List.take_length] at this
  exact this
end Go.Proofs.YtcbadebjpogmlaaGreatDoor
