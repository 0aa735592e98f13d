import Derived.Test.YtcbadebjpogmlaaGreatDoorPTv
import Derived.Test.YtcbadebjpogmlaaGreatDoorPGh
import Derived.Test.YtcbadebjpogmlaaGreatDoorPFb
import Derived.Test.YtcbadebjpogmlaaGreatDoorPPh
namespace Go.Proofs.YtcbadebjpogmlaaGreatDoor
open Go.RowKit Tr
def FE (b f:Nat) (tt:ByteArray) (xs:List Sg) (Dp:Nat→Prop) (H:Nat→Option Obj) (w:World) (E:Nat→Prop) (s:Fw):Prop:=∃x A C M D,FI b f tt xs Dp H w s x A C M D∧∀k,E k↔D k∨M k∨C k∨k=f
theorem FE.lt {b f:Nat} {tt:ByteArray} {xs:List Sg} {Dp:Nat→Prop} {H:Nat→Option Obj} {w:World} {E:Nat→Prop} {s:Fw} (h:FE b f tt xs Dp H w E s) {k:Nat} (hk:E k):k<w.heap.size:=by
 obtain ⟨x,A,C,M,D,h1,h2⟩:=h
 rcases (h2 k).1 hk with e | e | e | e
 ·exact h1.g.s.lt e
 ·exact (h1.g.m.lt k e).1
 ·exact h1.g.c k e
 rw [e]; exact h1.g.b.lt
theorem FE.keep {b f:Nat} {tt:ByteArray} {xs:List Sg} {Dp:Nat→Prop} {H:Nat→Option Obj} (hx:xs.length≤10) (hsel:selN xs≤10) {w w':World} {E:Nat→Prop} {s:Fw} (h:FE b f tt xs Dp H w E s) (sm:Sm E w w') (hz:w.heap.size≤w'.heap.size):FE b f tt xs Dp H w' E s:=by
 obtain ⟨x,A,C,M,D,h1,h2⟩:=h
 exact ⟨x,A,C,M,D,⟨GI.sm (f_cb hx hsel) h1.g (fun k hk=>sm k ((h2 k).2 hk)) hz,h1.ok,h1.nm,h1.tl,h1.told,h1.hd⟩,h2⟩
theorem fe_take {b f:Nat} {tt:ByteArray} {xs:List Sg} {Dp:Nat→Prop} {H:Nat→Option Obj} (hx:xs.length≤10) (hsel:selN xs≤10) (hpos:∀g ∈ xs,0<g.l.length) {w:World} {E:Nat→Prop} {s:Fw} (h:FE b f tt xs Dp H w E s) {t:Tok} (ht:TokOk s.g.sh t) (hl:t.t.length≤4000000) :
 Calls Tryz.prog 53 #[.pointer (some ⟨f,1,none⟩),tagg t] w fun res w'=>res=.returned (.tuple #[])∧∃E',FE b f tt xs Dp H w' E' (fTake xs s t)∧(∀k,E' k→E k∨w.heap.size≤k)∧Fr E w w':=by
 obtain ⟨x,A,C,M,D,h1,h2⟩:=h
 refine (fi_take hx hsel hpos h1 ht hl).mono ?_
 rintro res w' ⟨rfl,x',A',C',M',D',q1,q2,q3⟩
 refine ⟨rfl,fun k=>D' k∨M' k∨C' k∨k=f,⟨x',A',C',M',D',q1,fun _=>Iff.rfl⟩,fun k hk=>?_,q3.mono (fun k _ e=>?_)⟩
 ·have up:D k∨M k∨C k∨w.heap.size≤k→E k∨w.heap.size≤k:=fun y=>by
   rcases y with y | y | y | y
   ·exact Or.inl ((h2 k).2 (Or.inl y))
   ·exact Or.inl ((h2 k).2 (Or.inr (Or.inl y)))
   ·exact Or.inl ((h2 k).2 (Or.inr (Or.inr (Or.inl y))))
   exact Or.inr y
  rcases hk with e | e | e | e
  ·exact up (q2 k (Or.inl e))
  ·exact up (q2 k (Or.inr (Or.inl e)))
  ·exact up (q2 k (Or.inr (Or.inr e)))
  exact Or.inl ((h2 k).2 (Or.inr (Or.inr (Or.inr e))))
 rcases e with y | y | y
 ·exact (h2 k).2 (Or.inl y)
 ·exact (h2 k).2 (Or.inr (Or.inl y))
 exact (h2 k).2 (Or.inr (Or.inr (Or.inr y)))
theorem fe_told {b f:Nat} {tt:ByteArray} {xs:List Sg} {Dp:Nat→Prop} {H:Nat→Option Obj} {w:World} {E:Nat→Prop} {s:Fw} (h:FE b f tt xs Dp H w E s):∃osv,w.cell? ⟨f,8,none⟩=some osv∧(∀i,w.frozen? ⟨f,i,none⟩=false)∧E f∧∃E',FE b f tt xs Dp H (w.setCell ⟨f,8,none⟩ (.slice none 0 0)) E' (noT s)∧(∀k,E' k→E k)∧(w.setCell ⟨f,8,none⟩ (.slice none 0 0)).ownsRow 0 44 4 osv s.told.length (s.told.flatMap tcl)∧∀k,osv.ownBlock=some k→E k∧¬E' k:=by
 obtain ⟨x,A,C,M,D,h1,h2⟩:=h
 have hB:=h1.g.b
 have hdj:=h1.g.dj
 have hS:=h1.g.s
 have hoD:∀k,x.osv.ownBlock=some k→D k:=fun k hk=>(hS.d k).2 (Or.inr (Or.inr (Or.inr hk)))
 have hDf:∀k,D k→k≠f:=fun k hk=>(hdj k hk).2.2
 have kb:∀k,k≠f→(w.setCell ⟨f,8,none⟩ (.slice none 0 0)).heap[k]?=w.heap[k]?:=fun k hk=>Below.heap_setCell _ _ _ _ (fun e=>hk e)
 have hsz:w.heap.size≤(w.setCell ⟨f,8,none⟩ (.slice none 0 0)).heap.size:=by simp [World.setCell]
 have F:Fr (fun k=>k=f) w (w.setCell ⟨f,8,none⟩ (.slice none 0 0)):=(Fr.refl (fun k=>k=f) w).setCell ⟨f,8,none⟩ (Or.inl rfl) _
 have hK:FS b tt xs Dp H (w.setCell ⟨f,8,none⟩ (.slice none 0 0)) D x:=hS.keep (fun k hk=>kb k (hDf k hk)) hsz
 have hD':∀k,(Dp k∨gEN k∨x.tsv.ownBlock=some k)→D k∧x.osv.ownBlock≠some k:=fun k hk=>by
  rcases hk with e | e | e
  ·exact ⟨(hS.d k).2 (Or.inl e),fun y=>(hS.no k y).1 e⟩
  ·exact ⟨(hS.d k).2 (Or.inr (Or.inl e)),fun y=>(hS.no k y).2 e⟩
  exact ⟨(hS.d k).2 (Or.inr (Or.inr (Or.inl e))),(hS.nt k e).1⟩
 refine ⟨x.osv,hB.cell 8,hB.fz,(h2 f).2 (Or.inr (Or.inr (Or.inr rfl))),fun k=>(Dp k∨gEN k∨x.tsv.ownBlock=some k)∨M k∨C k∨k=f,⟨⟨x.tl,x.hd,[],x.tsv,.slice none 0 0⟩,A,C,M,fun k=>Dp k∨gEN k∨x.tsv.ownBlock=some k,⟨⟨?_,hB.set 8 _,?_,h1.g.ok,h1.g.p,fun k hk=>Nat.lt_of_lt_of_le (h1.g.c k hk) hsz,fun k hk=>hdj k (hD' k hk).1,h1.g.g,?_⟩,h1.ok.no,h1.nm,h1.tl,rfl,h1.hd⟩,fun _=>Iff.rfl⟩,fun k hk=>?_,?_,fun k hk=>⟨(h2 k).2 (Or.inl (hoD k hk)),fun e=>?_⟩⟩
 ·refine ⟨hK.p,hK.pl,hK.e,hK.t,⟨rfl,Or.inl ⟨rfl,rfl⟩⟩,fun k hk=>⟨fun e=>(by cases e),(hS.nt k hk).2⟩,fun k hk=>(by cases hk),fun k=>?_,hK.sm⟩
  constructor
  ·rintro (e | e | e)
   ·exact Or.inl e
   ·exact Or.inr (Or.inl e)
   exact Or.inr (Or.inr (Or.inl e))
  rintro (e | e | e | e)
  ·exact Or.inl e
  ·exact Or.inr (Or.inl e)
  ·exact Or.inr (Or.inr e)
  cases e
 ·exact h1.g.m.fr h1.g.c F (fun k e=>by rw [e]; exact h1.g.g)
 ·intro h0 t ht
  obtain ⟨⟨ix,hi,hp⟩,r⟩:=h1.g.l h0 t ht
  exact ⟨⟨ix,hi,hp.keep (fun k hk=>kb k (fun e=>h1.g.g.2 (e▸hk)))⟩,r⟩
 ·rcases hk with e | e | e | e
  ·exact (h2 k).2 (Or.inl (hD' k e).1)
  ·exact (h2 k).2 (Or.inr (Or.inl e))
  ·exact (h2 k).2 (Or.inr (Or.inr (Or.inl e)))
  exact (h2 k).2 (Or.inr (Or.inr (Or.inr e)))
 ·have:=hK.o
  rw [h1.told] at this; exact this
 rcases e with e | e | e | e
 ·exact (hD' k e).2 hk
 ·exact (hdj k (hoD k hk)).1 e
 ·exact (hdj k (hoD k hk)).2.1 e
 exact hDf k (hoD k hk) e
end Go.Proofs.YtcbadebjpogmlaaGreatDoor
namespace Go.Proofs.YtcbadebjpogmlaaGreatDoor
open Go.RowKit Tr
def ndCells (v:Tv):List Value:=[.string (bsb v.d.path),.int .i64 (v.d.frm:Nat),.int .i64 (v.d.to:Nat)]
theorem infoNode:(Tryz.prog.info? 42).map (fun i=>(i.zero,i.size,i.bytes))=some (some (.agg #[.string ⟨#[]⟩,.int .i64 0,.int .i64 0]),3,32):=by kernel_rfl
def SelP (s:ByteArray) (xs:List Sg) (w:World) (r:Ending) (w':World):Prop :=
 Keeps w w'∧((txErr (bs s)≠0∧r=.returned (.tuple #[.slice none 0 0,.int .i64 (txErr (bs s):Nat),.int .i64 (txAt (bs s):Nat)])) ∨
  (txErr (bs s)=0∧∃t sv,txVal (bs s)=some t∧r=.returned (.tuple #[sv,.int .i64 0,.int .i64 0])∧w'.ownsRow w.heap.size 42 3 sv (nodesS xs [t]).length ((nodesS xs [t]).flatMap ndCells)))
theorem nd_take {N:List Tv} {k:Nat} (h:k<N.length):(N.take (k+1)).flatMap ndCells=(N.take k).flatMap ndCells++ndCells N[k]:=by
 rw [List.take_succ_eq_append_getElem h,List.flatMap_append]; simp
set_option maxHeartbeats 4000000 in
set_option maxRecDepth 100000 in
theorem p_select {w:World} {gq b:Nat} {tt:ByteArray} {xs:List Sg} (hq:Blk w gq #[.pointer (some ⟨b,0,none⟩)] 77) (hp:∀w',Keeps w w'→PlanV w' b tt xs) (he:EN w) (hx:∀g ∈ xs,0<g.l.length) (hsel:selN xs≤10) (s:ByteArray) (hs:s.size≤1100000) :
 Calls Tryz.prog 18 #[.pointer (some ⟨gq,0,none⟩),.string s] w (SelP s xs w):=by
 obtain ⟨i0,hi,hz0,hz1,hz2⟩:=info_parts infoNode
 have HI:=hide hi
 have HZ0:=hide hz0
 have HZ1:=hide hz1
 have HZ2:=hide hz2
 have HE:=hide he
 have HP:=hide hp
 have HQ:=hide hq
 have HX:=hide hx
 clear hi hz0 hz1 hz2 he hp hq hx
 go_enter Tryz.func18,Tryz.ntmps18
 go_wp2_with fail
 refine (p_read s (by omega)).mono ?_
 rintro r w1 ⟨hk1,hr⟩
 have K1:=hide hk1
 clear hk1
 rcases hr with ⟨hne,rfl⟩ | ⟨h0,A,D,t,ix,htx,rfl,hix,hpt,hfb,hpa,hD⟩
 ·have hd:((txErr (bs s):Int) != 0)=true:=by rw [bne_iff_ne]; omega
  have HN:=hide hne
  clear hne
  go_wp2
  go_ret3
  exact ⟨K1.out,Or.inl ⟨HN.out,rfl⟩⟩
 have hl:(bs s).length≤4000000:=by rw [bs_len]; omega
 obtain ⟨hT,_⟩:=tx_tree hl h0 htx
 obtain ⟨hfr,hnm⟩:=tx_tree2 hl h0 htx
 have hN:∀k,k≤xs.length→(nodesS (xs.take k) [t]).length≤900000000000:=fun k hk=>by
  have a:=nodes_len hT hfr xs HX.out hsel hk
  have b:(bs s).length * 524288≤1100000 * 524288:=Nat.mul_le_mul_right _ (by rw [bs_len]; exact hs)
  omega
 have hroot:PH w1 1 (A t.d.frm) t.d.path:=by
  obtain ⟨_,_,_,⟨sv,q1,_,_⟩,_⟩:=hpt
  exact ⟨_,_,ix,sv,q1,hix,(hnm t (List.mem_cons_self)).1,Or.inl ⟨rfl,hpa⟩⟩
 have hall:=ph_all hpt hfb hnm hix hroot (by omega)
 have NODE:Hid (∀v ∈ allT 10 t,∀W,Keeps w1 W→Calls Tryz.prog 36 #[.pointer (some ⟨A v.d.frm,0,none⟩)] W fun r w'=>r=.returned (nagg v.d.path v.d.frm v.d.to)∧Keeps W w'):=fun v hv W hW=>by
  obtain ⟨d',par',ix',sv',q1,q2,q3⟩:=hall v hv
  exact p_node q1 ((HE.out.keep K1.out).keep hW) (q2.keep hW) (q3.fr hW id)
 have hsub:∀v ∈ nodesS xs [t],v ∈ allT 10 t:=nodes_sub hT xs [t] (fun u hu=>by rw [List.mem_singleton.1 hu]; exact self_mem hT.d)
 have hNl:(nodesS xs [t]).length≤900000000000:=by have:=hN xs.length (Nat.le_refl _); rwa [List.take_length] at this
 have CN:=hide (p_nodes (HP.out w1 K1.out) hpt hD hT hN)
 have q0:w1.cell? ⟨gq,0,none⟩=some (.pointer (some ⟨b,0,none⟩)):=(HQ.out.fr K1.out id).cell 0
 have H0:=hide h0
 have HTX:=hide htx
 have HSUB:=hide hsub
 clear hl hT hfr hnm hN hroot hall hpt hfb hpa hD h0 htx hix hsub HE HP HQ
 generalize hNN:nodesS xs [t]=N at *
 unfold pvp at CN
 go_wp2_with fail
 refine CN.out.mono ?_
 rintro r w2 ⟨sv2,rfl,hk2,ho2⟩
 obtain ⟨a2,c2,hsv2⟩:=own_slice ho2
 subst hsv2
 have K2:=hide hk2
 have O2:=hide ho2
 clear hk2 ho2 CN
 go_wp2
 go_loopw [10,30] (fun sv i wr=>∃k:Nat,k≤N.length∧i=.int .i64 k∧Keeps w2 wr∧wr.ownsRow w2.heap.size 42 3 sv k ((N.take k).flatMap ndCells)) (fun _ i _=>N.length - (intOf i).toNat)
 case atStart=>exact ⟨0,Nat.zero_le _,rfl,Fr.refl _ _,World.ownsRow_nil _ _ _ _⟩
 case round =>
  obtain ⟨k,hk,rfl,hK,hO⟩:=hrel
  obtain ⟨a5,c5,hsv5⟩:=own_slice hO
  subst hsv5
  have KK:=hide hK
  have OO:=hide hO
  clear hK hO
  by_cases hlt:k<N.length
  ·obtain ⟨g2,cap2,hv2,_,hg2⟩:=O2.out.form (by omega)
   simp only [Value.slice.injEq,true_and] at hv2
   obtain ⟨rfl,rfl⟩:=hv2
   have ce:wr.cell? ⟨g2,k,none⟩=some (.pointer (some ⟨A (N[k]).d.frm,0,none⟩)):=by
    rw [KK.out.cell (p:=⟨g2,k,none⟩) hg2 id,O2.out.cellAt k (by omega)]
    simp [hlt]
   have ND:=hide (NODE.out N[k] (HSUB.out _ (List.getElem_mem hlt)) wr (K2.out.trans KK.out))
   have hnd:ndCells N[k]=[.string (bsb (N[k]).d.path),.int .i64 ((N[k]).d.frm:Nat),.int .i64 ((N[k]).d.to:Nat)]:=rfl
   have HND:=hide hnd
   have NT:=hide (nd_take hlt)
   clear hnd
   generalize N[k]=v at *
   unfold nagg at ND
   go_wp2_with fail
   refine ND.out.mono ?_
   rintro r w3 ⟨rfl,hk3⟩
   have K3:=hide (KK.out.trans hk3)
   have hown3:w3.ownsRow w2.heap.size 42 3 (.slice a5 k c5) k ((N.take k).flatMap ndCells):=own_at' OO.out (fun i hi=>hk3.block i (OO.out.lt i hi).2 id)
   have hs3:w2.heap.size≤w3.heap.size:=K3.out.size
   clear hk3 KK ND
   generalize bsb v.d.path=PB at *
   go_wp2_with (at_builtin; refine wpList_append_own_at _ rfl _ _ 29 rfl w2.heap.size 42 i0 _ 3 32 Tryz.underlying29 HI.out HZ0.out HZ1.out HZ2.out rfl (by decide) _ _ _ rfl (hown3.alloc _) ⟨w3.heap.size,0,none⟩ 1 1 [.string PB,.int .i64 (v.d.frm:Nat),.int .i64 (v.d.to:Nat)] rfl rfl ?c1 ?c2 ?c3 ?c4 ?c5 ?_)
   case c1 =>
    intro j u hj
    match j,hj with
    | 0,hj=>simp at hj; subst hj; simp [Addr.add]
    | 1,hj=>simp at hj; subst hj; simp [Addr.add]
    | 2,hj=>simp at hj; subst hj; simp [Addr.add]
   case c2=>intro u hu; simp at hu; rcases hu with rfl | rfl | rfl<;>rfl
   case c3=>unfold maxLen; omega
   case c4=>omega
   case c5=>simp; omega
   intro v' w5 hown5 hgrow _ hvb
   obtain ⟨a6,c6,hv6⟩:=own_slice hown5
   subst hv6
   have REL:Hid (Keeps w2 w5∧w5.ownsRow w2.heap.size 42 3 (.slice a6 (k+1) c6) (k+1) ((N.take (k+1)).flatMap ndCells)):=by
    refine ⟨?_,by rw [NT.out,HND.out]; exact hown5⟩
    have k4:Keeps w2 (w3.alloc (.cells #[.string PB,.int .i64 (v.d.frm:Nat),.int .i64 (v.d.to:Nat)] 42)):=K3.out.alloc _
    exact ⟨hgrow.os.trans k4.os,hgrow.tape.trans k4.tape,hgrow.output.trans k4.output,Nat.le_trans k4.size hgrow.size,fun i hi _=>by
     rw [hgrow.block i (Nat.lt_of_lt_of_le hi k4.size) (fun e=>by have:=(hown3.lt i e.symm).1; omega)]; exact k4.block i hi id⟩
   clear hown5 hgrow hvb hown3
   go_wp2
   go_roundw
   case rel=>exact ⟨k+1,by omega,by go_num,REL.out.1,REL.out.2⟩
   case measure=>simp [intOf]; omega
  have hke:k=N.length:=by omega
  subst hke
  have RES:Hid (SelP s xs w (.returned (.tuple #[.slice a5 N.length c5,.int .i64 0,.int .i64 0])) wr):=by
   refine ⟨(K1.out.trans K2.out).trans KK.out,Or.inr ⟨H0.out,t,_,HTX.out,rfl,?_⟩⟩
   rw [hNN]
   have:=OO.out
   rw [List.take_length] at this
   exact own_base this (Nat.le_trans K1.out.size K2.out.size)
  go_wp2
  go_ret3
  exact RES.out
end Go.Proofs.YtcbadebjpogmlaaGreatDoor
