import Derived.Test.YtcbadebjpogmlaaGreatDoorPTl
import Derived.Test.YtcbadebjpogmlaaGreatDoorPGa
import Derived.Test.YtcbadebjpogmlaaGreatDoorPHc
import Derived.Deep.RegionHeldLaw
namespace Go.Proofs.YtcbadebjpogmlaaGreatDoor
open Go.RowKit Tr
theorem cntT_len (xs:List Sg):∀(n:Nat) (t:Tv) (tl:List Ct),(cntT xs n t tl).length≤(allT n t).length
 | 0,_,_=>Nat.le_refl _
 | n+1,t,tl=>by
  show ((t.ws.zipIdx.flatMap (fun p=>cntT xs n p.1 (tlOf xs t.d.kind t.ws.length p.2 p.1 tl)))++(if 0<(ctAt tl xs.length).its then [(t,(ctAt tl xs.length).its)] else [])).length≤(t::t.ws.flatMap (allT n)).length
  have key:∀(l:List Tv) (i m:Nat),((l.zipIdx i).flatMap (fun p=>cntT xs n p.1 (tlOf xs t.d.kind m p.2 p.1 tl))).length≤(l.flatMap (allT n)).length:=by
   intro l
   induction l with
   | nil=>intro _ _; simp
   | cons a l ih =>
    intro i m
    have h1:=ih (i+1) m
    have h2:=cntT_len xs n a (tlOf xs t.d.kind m i a tl)
    simp only [List.zipIdx_cons,List.flatMap_cons,List.length_append]
    omega
  have h1:=key t.ws 0 t.ws.length
  rw [List.length_append,List.length_cons]
  split<;>simp only [List.length_cons,List.length_nil]<;>omega
theorem all_take_len (n:Nat) (ws:List Tv) (j:Nat):((ws.take j).flatMap (allT n)).length≤(ws.flatMap (allT n)).length:=by
 have e:ws.flatMap (allT n)=(ws.take j).flatMap (allT n)++(ws.drop j).flatMap (allT n):=by rw [← List.flatMap_append,List.take_append_drop]
 rw [e,List.length_append]; omega
structure TellV (fv:Value) (PW:World→Prop) (R:World→(Nat→Prop)→List (Tv×Nat)→Prop) (A:Nat→Nat) (ok:Tv→Prop):Prop where
 lt:∀{W D ts k},R W D ts→D k→k<W.heap.size
 w0:∀{W D ts},R W D ts→PW W
 keep:∀{W W' D ts},R W D ts→Keeps W W'→R W' D ts
 call:∃N first cap,fv=.func (.func N) first cap∧(∀args w,(callFunc N args).run Tryz.prog w=.ok (.enter N args) w) ∧
  ∀{W:World} {D:Nat→Prop} {ts:List (Tv×Nat)} {v:Tv} {k:Nat},R W D ts→ok v→k≤524288→ts.length<5000000 →
   Calls Tryz.prog N (first++(#[vpt (A v.d.frm),.int .i64 (k:Nat)]++cap)) W fun r W'=>r=.returned (.tuple #[])∧∃D',R W' D' (ts++[(v,k)])∧(∀k,D' k→D k∨W.heap.size≤k)∧Fr D W W'
def kidF (xs:List Sg) (n:Nat) (t:Tv) (tl:List Ct) (j:Nat):List (Tv×Nat):=(t.ws.zipIdx.take j).flatMap (fun p=>cntT xs n p.1 (tlOf xs t.d.kind t.ws.length p.2 p.1 tl))
theorem kidF_succ (xs:List Sg) (n:Nat) (t:Tv) (tl:List Ct) {j:Nat} (h:j<t.ws.length):kidF xs n t tl (j+1)=kidF xs n t tl j++cntT xs n t.ws[j] (tlOf xs t.d.kind t.ws.length j t.ws[j] tl):=by
 unfold kidF
 have hz:j<t.ws.zipIdx.length:=by simpa using h
 rw [List.take_succ_eq_append_getElem hz,List.flatMap_append]
 simp
theorem kidF_len (xs:List Sg) (n:Nat) (t:Tv) (tl:List Ct):∀j,j≤t.ws.length→(kidF xs n t tl j).length≤((t.ws.take j).flatMap (allT n)).length
 | 0,_=>by simp [kidF]
 | j+1,h=>by
  rw [kidF_succ xs n t tl (by omega),List.take_succ_eq_append_getElem (by omega),List.flatMap_append,List.length_append,List.length_append]
  have h1:=kidF_len xs n t tl j (by omega)
  have h2:=cntT_len xs n t.ws[j] (tlOf xs t.d.kind t.ws.length j t.ws[j] tl)
  simp only [List.flatMap_cons,List.flatMap_nil,List.append_nil]
  omega
set_option maxHeartbeats 4000000 in
set_option maxRecDepth 100000 in
theorem p_count {PW:World→Prop} {b:Nat} {tt:ByteArray} {xs:List Sg} (hp:∀W,PW W→PlanV W b tt xs) (hx:xs.length≤10) (hsel:selN xs≤10) {fv:Value} {R:World→(Nat→Prop)→List (Tv×Nat)→Prop} {A:Nat→Nat} {ok:Tv→Prop} (hV:TellV fv PW R A ok) {C:Nat→Prop} :
 ∀(n:Nat) {par:Value} {ix:Nat} {t:Tv} {d:Nat} {tl:List Ct} {w:World} {D:Nat→Prop} {ts:List (Tv×Nat)},n+d≤10→CtB xs d tl→R w D ts→PT w A C n par ix t→(∀k,C k→k<w.heap.size∧¬D k)→(∀v ∈ allT n t,ok v)→ts.length+(allT n t).length≤5000000 →
 Calls Tryz.prog 108 #[.pointer (some ⟨b,0,none⟩),vpt (A t.d.frm),.agg (tlc tl).toArray,fv] w (fun r w'=>r=.returned (.tuple #[])∧∃D',R w' D' (ts++cntT xs n t tl)∧(∀k,D' k→D k∨w.heap.size≤k)∧Fr D w w')
 | 0,_,_,_,_,_,_,_,_,_,_,_,h,_,_,_=>h.elim
 | n+1,par,ix,t,d,tl,w,D,ts,hnd,hb,hR,hT,hC,hok,hlen=>by
  obtain ⟨N,first,cap,hfv,hE,hcall⟩:=hV.call
  have hT0:=hT
  obtain ⟨hCA,hDO,hwl,⟨sv,hbt,hsvC,hown⟩,hkids⟩:=hT
  obtain ⟨ao,cp,rfl⟩:=own_slice hown
  obtain ⟨W1,hW1⟩:∃W1,W1=w.alloc (.cells (tlc tl).toArray 202):=⟨_,rfl⟩
  have K1:Keeps w W1:=by rw [hW1]; exact (Fr.refl _ w).alloc _
  have hs1:W1.heap.size=w.heap.size+1:=by rw [hW1,World.size_alloc]
  have tb1:Blk W1 w.heap.size (tlc tl).toArray 202:=by rw [hW1]; exact Blk.new w _ _
  have c8:W1.cell? ⟨A t.d.frm,8,none⟩=some (.slice ao t.ws.length cp):=(hbt.fr K1 id).cell 8
  have R1:=hV.keep hR K1
  have hDl:∀k,D k→k<w.heap.size:=fun k hk=>hV.lt hR hk
  have l0:(t::t.ws.flatMap (allT n)).length=(allT (n+1) t).length:=rfl
  rw [← l0,List.length_cons] at hlen
  -- what a round finds
  have ROUND:Hid (∀(j:Nat) (D1:Nat→Prop) (wr:World),j<t.ws.length→R wr D1 (ts++kidF xs n t tl j)→(∀k,D1 k→D k∨W1.heap.size≤k)→Fr D W1 wr →
   ∃g,ao=some ⟨g,0,none⟩∧∃kb,wr.cell? ⟨g,j,none⟩=some (.pointer (some ⟨kb,0,none⟩))∧wr.rangeAt w.heap.size 0 (tlc tl) ∧
    ∃tl',Calls Tryz.prog 143 #[.pointer (some ⟨b,0,none⟩),.pointer (some ⟨kb,0,none⟩),.agg (tlc tl).toArray] wr (fun r w2=>r=.returned (.agg (tlc tl').toArray)∧Keeps wr w2) ∧
    ∀w2,Keeps wr w2→Calls Tryz.prog 108 #[.pointer (some ⟨b,0,none⟩),.pointer (some ⟨kb,0,none⟩),.agg (tlc tl').toArray,.func (.func N) first cap] w2 (fun r w3=>r=.returned (.tuple #[])∧∃D3,R w3 D3 (ts++kidF xs n t tl (j+1))∧(∀k,D3 k→D k∨W1.heap.size≤k)∧Fr D W1 w3)):=fun j D1 wr hj hRr hD1 hfr=>by
   obtain ⟨g,cap',hv',_,hgl⟩:=hown.form (by omega)
   simp only [Value.slice.injEq,true_and] at hv'
   obtain ⟨rfl,rfl⟩:=hv'
   have hsm:∀k,k<w.heap.size→¬D k→wr.heap[k]?=w.heap[k]?:=fun k hk hn=>(hfr.block k (by rw [hs1]; omega) hn).trans (K1.block k hk id)
   have hSC:Sm C w wr:=fun k hk=>hsm k (hC k hk).1 (hC k hk).2
   have hTr:PT wr A C (n+1) par ix t:=PT.keep hSC _ _ _ _ hT0
   have hgC:C g:=hsvC g rfl
   have ptr:wr.cell? ⟨g,j,none⟩=some (pvp A t.ws[j]):=by
    rw [World.cell?_of_block (a:=⟨g,j,none⟩) (hsm g hgl (hC g hgC).2),hown.cellAt j (by omega)]
    simp [hj]
   refine ⟨g,rfl,A (t.ws[j]).d.frm,ptr,fun i v hv=>?_,tlOf xs t.d.kind t.ws.length j t.ws[j] tl,?_,fun w2 hk2=>?_⟩
   ·have hbr:Blk wr w.heap.size (tlc tl).toArray 202:=tb1.fr hfr (fun e=>by have:=hDl _ e; omega)
    rw [Nat.zero_add,hbr.cell i,List.getElem?_toArray]; exact hv
   ·obtain ⟨_,_,_,⟨sv2,hb2,_,ho2⟩,hk2⟩:=hTr
    have hkj:=hk2 j hj
    cases n with
    | zero=>exact hkj.elim
    | succ m =>
     have hkj0:=hkj
     obtain ⟨_,hdo,_,⟨svk,hbk,_,hok2⟩,_⟩:=hkj
     have hd8:d≤8:=by omega
     refine p_tallyOf (hp wr (hV.w0 hRr)) hx hsel hb hd8 (pb:=A t.d.frm) ⟨⟨svk,hbk⟩,⟨t.d,par,ix,hb2,hDO,rfl⟩,by omega⟩ (fun k hk _ _=>?_)
     obtain ⟨a2,c2,rfl⟩:=own_slice ho2
     exact ⟨⟨_,_,rfl⟩,hwl,A,C,m+1,_,j,hkj0,rfl⟩
   have hR2:=hV.keep hRr hk2
   have hT2:PT w2 A C n (pvp A t) j t.ws[j]:=(PT.keep (fun k hk=>(hk2.block k (Nat.lt_of_lt_of_le (hC k hk).1 (by have:=hfr.size; omega)) id)) _ _ _ _ hTr).2.2.2.2 j hj
   have hsub:∀v ∈ allT n t.ws[j],ok v:=fun v hv=>hok v (List.mem_cons_of_mem _ (List.mem_flatMap.2 ⟨t.ws[j],List.getElem_mem hj,hv⟩))
   have hl2:(ts++kidF xs n t tl j).length+(allT n t.ws[j]).length≤5000000:=by
    have a1:=kidF_len xs n t tl j (by omega)
    have a2:=all_take_len n t.ws (j+1)
    rw [List.take_succ_eq_append_getElem hj,List.flatMap_append,List.length_append] at a2
    simp only [List.flatMap_cons,List.flatMap_nil,List.append_nil] at a2
    rw [List.length_append]
    omega
   have:=p_count hp hx hsel hV n (by omega) (ctb_kid hb t.d.kind t.ws.length j t.ws[j]) hR2 hT2 (fun k hk=>⟨Nat.lt_of_lt_of_le (hC k hk).1 (by have:=hfr.size; have:=hk2.size; omega),fun e=>(hD1 k e).elim (hC k hk).2 (fun y=>by have:=(hC k hk).1; omega)⟩) hsub hl2
   rw [hfv] at this
   refine this.mono ?_
   rintro r w3 ⟨rfl,D3,q1,q2,q3⟩
   refine ⟨rfl,D3,by rw [kidF_succ xs n t tl hj,← List.append_assoc]; exact q1,fun k hk=>?_,?_⟩
   ·rcases q2 k hk with y | y
    ·exact hD1 k y
    exact Or.inr (by have:=hfr.size; have:=hk2.size; omega)
   refine ⟨q3.os.trans (hk2.os.trans hfr.os),q3.tape.trans (hk2.tape.trans hfr.tape),q3.output.trans (hk2.output.trans hfr.output),Nat.le_trans hfr.size (Nat.le_trans hk2.size q3.size),fun k hk hn=>?_⟩
   have k1:k<wr.heap.size:=Nat.lt_of_lt_of_le hk hfr.size
   rw [q3.block k (Nat.lt_of_lt_of_le k1 hk2.size) (fun e=>(hD1 k e).elim hn (fun y=>by omega)),hk2.block k k1 id,hfr.block k hk hn]
  obtain ⟨P,hP⟩:∃P:World→Prop,P=fun w'=>∃D',R w' D' (ts++cntT xs (n+1) t tl)∧(∀k,D' k→D k∨w.heap.size≤k)∧Fr D w w':=⟨_,rfl⟩
  have hzip:t.ws.zipIdx.take t.ws.length=t.ws.zipIdx:=List.take_of_length_le (by simp)
  have LAST:Hid (∀(D1:Nat→Prop) (wr:World),R wr D1 (ts++kidF xs n t tl t.ws.length)→(∀k,D1 k→D k∨W1.heap.size≤k)→Fr D W1 wr →
   (∃ap cpp,wr.cell? ⟨b,1,none⟩=some (.slice ap xs.length cpp))∧wr.cell? ⟨w.heap.size,xs.length * 2,none⟩=some (.int .i64 ((ctAt tl xs.length).its:Nat)) ∧
   ((ctAt tl xs.length).its=0→P wr)∧(0<(ctAt tl xs.length).its→Calls Tryz.prog N (first++(#[.pointer (some ⟨A t.d.frm,0,none⟩),.int .i64 ((ctAt tl xs.length).its:Nat)]++cap)) wr fun r w'=>r=.returned (.tuple #[])∧P w')):=fun D1 wr hRr hD1 hfr=>by
   have hfr0:Fr D w wr:=(K1.mono (fun _ _ e=>e.elim)).trans hfr
   refine ⟨?_,?_,fun h0=>?_,fun h0=>?_⟩
   ·obtain ⟨sv',l,Dp,hbk,hrow,hxl,_⟩:=hp wr (hV.w0 hRr)
    obtain ⟨ap,cpp,rfl⟩:=own_slice hrow.o
    rw [← hxl] at hbk
    exact ⟨ap,cpp,hbk.cell 1⟩
   ·have hbr:Blk wr w.heap.size (tlc tl).toArray 202:=tb1.fr hfr (fun e=>by have:=hDl _ e; omega)
    rw [hbr.cell,List.getElem?_toArray]
    exact (tlc_at tl _ (by omega)).1
   ·rw [hP]
    refine ⟨D1,?_,fun k hk=>(hD1 k hk).imp id (fun y=>by omega),hfr0⟩
    have e:cntT xs (n+1) t tl=kidF xs n t tl t.ws.length:=by
     show _++(if _ then _ else _)=_
     rw [if_neg (by omega),List.append_nil]
     unfold kidF; rw [hzip]
    rw [e]; exact hRr
   have a1:=kidF_len xs n t tl t.ws.length (Nat.le_refl _)
   rw [List.take_length] at a1
   have hsl:(ts++kidF xs n t tl t.ws.length).length<5000000:=by rw [List.length_append]; omega
   refine (hcall hRr (hok t List.mem_cons_self) (hb.lt (by omega) hsel xs.length).1 hsl).mono ?_
   rintro r w' ⟨rfl,D',q1,q2,q3⟩
   refine ⟨rfl,?_⟩
   rw [hP]
   have e:cntT xs (n+1) t tl=kidF xs n t tl t.ws.length++[(t,(ctAt tl xs.length).its)]:=by
    show _++(if _ then _ else _)=_
    rw [if_pos h0]
    unfold kidF; rw [hzip]
   refine ⟨D',by rw [e,← List.append_assoc]; exact q1,fun k hk=>?_,?_⟩
   ·rcases q2 k hk with y | y
    ·exact (hD1 k y).imp id (fun y=>by omega)
    exact Or.inr (by have:=hfr0.size; omega)
   refine ⟨q3.os.trans hfr0.os,q3.tape.trans hfr0.tape,q3.output.trans hfr0.output,Nat.le_trans hfr0.size q3.size,fun k hk hn=>?_⟩
   rw [q3.block k (Nat.lt_of_lt_of_le hk hfr0.size) (fun e=>(hD1 k e).elim hn (fun y=>by omega)),hfr0.block k hk hn]
  have RR1:Hid (R W1 D (ts++kidF xs n t tl 0)):=by
   have e:kidF xs n t tl 0=[]:=by simp [kidF]
   unfold Hid; rw [e,List.append_nil]; exact R1
  have IA:Hid ((Tryz.prog.info? 202).map (·.size)=some (tlc tl).length):=by rw [tlc_len]; exact infoTally
  have hib:=(hb.lt (by omega) hsel xs.length).1
  have GOAL:Hid (∀w',P w'→∃D',R w' D' (ts++cntT xs (n+1) t tl)∧(∀k,D' k→D k∨w.heap.size≤k)∧Fr D w w'):=fun w' h=>by rw [hP] at h; exact h
  have HW1:Hid (W1=w.alloc (.cells (tlc tl).toArray 202)):=hW1
  have HE:=hide hE
  obtain ⟨cs,hcs⟩:∃cs,cs=(tlc tl).toArray:=⟨_,rfl⟩
  obtain ⟨m,hm⟩:∃m,m=t.ws.length:=⟨_,rfl⟩
  obtain ⟨its,hits⟩:∃its,its=(ctAt tl xs.length).its:=⟨_,rfl⟩
  obtain ⟨vb,hvb⟩:∃vb,vb=A t.d.frm:=⟨_,rfl⟩
  have HDW:Hid (∀k,D k→D k∨W1.heap.size≤k):=fun k=>Or.inl
  subst hfv
  unfold vpt
  rw [← hm,← hvb] at c8
  rw [← hm] at hwl
  rw [← hits,← hvb] at LAST
  rw [← hits] at hib
  rw [← hm] at LAST ROUND
  rw [← hcs] at HW1 ⊢
  rw [← hvb]
  have HCS:=hide hcs
  clear hcall hT0 hCA hDO hbt hsvC hown hkids hW1 K1 hs1 tb1 R1 hDl l0 hlen hnd hb hR hC hok hP hzip hE hcs hm hits hvb hp hV hsel
  go_enter Tryz.func108,Tryz.ntmps108
  apply wp_seq_k; intro K0 hK0
  apply wp_region_lit
  refine Great.wpList_boxTo rfl 202 _ rfl (some 6) rfl w.heap.size rfl cs rfl ?_
  rw [← HW1.out]
  simp only [Act.put,List.setIfInBounds_toArray,List.set_cons_zero,List.set_cons_succ]
  apply wpList_nil
  refine hK0 _ _ ?_
  clear K0 hK0
  go_wp2
  go_loopw [16] (fun ii wr=>∃(j:Nat) (D1:Nat→Prop),j≤m∧ii=.int .i64 j∧R wr D1 (ts++kidF xs n t tl j)∧(∀k,D1 k→D k∨W1.heap.size≤k)∧Fr D W1 wr) (fun ii _=>m - (intOf ii).toNat)
  case atStart=>exact ⟨0,D,Nat.zero_le _,rfl,RR1.out,HDW.out,Fr.refl _ _⟩
  case round =>
   obtain ⟨j,D1,hj,rfl,q1,q2,q3⟩:=hrel
   by_cases hlt:j<m
   ·obtain ⟨g,rfl,kb,kc,ra,tl',tal,cnt⟩:=ROUND.out j D1 wr hlt q1 q2 q3
    have RA:=hide ra
    have TAL:=hide tal
    have CNT:=hide cnt
    clear q1 q2 q3 ra tal cnt ROUND LAST c8
    go_wp2_with (refine wpList_load_mid rfl 202 (.tmp 6) rfl w.heap.size 0 rfl (tlc tl) (.array 11 200) RA.out (by kernel_rfl) rfl IA.out ?_)
    refine TAL.out.mono ?_
    rintro r w2 ⟨rfl,hk2⟩
    have CN:=hide (CNT.out w2 hk2)
    clear hk2
    go_wp2_with fail
    refine CN.out.mono ?_
    rintro r w3 ⟨rfl,D3,p1,p2,p3⟩
    have P1:=hide p1
    have P2:=hide p2
    have P3:=hide p3
    clear p1 p2 p3
    go_wp2
    go_roundw
    case rel=>exact ⟨j+1,D3,by omega,by go_num,P1.out,P2.out,P3.out⟩
    case measure=>simp [intOf]; omega
   have hje:j=m:=by omega
   subst hje
   obtain ⟨⟨ap,cpp,e1⟩,e2,e3,e4⟩:=LAST.out D1 wr q1 q2 q3
   have E3:=hide e3
   have E4:=hide e4
   clear q1 q2 q3 e3 e4 ROUND LAST c8
   by_cases h0:0<its
   ·have E5:=hide (E4.out h0)
    have hE:=HE.out
    go_wp2_with fail
    refine E5.out.mono ?_
    rintro r w2 ⟨rfl,hp2⟩
    have HP2:=hide hp2
    clear hp2
    go_wp2
    go_end0
    exact ⟨rfl,GOAL.out _ HP2.out⟩
   have h00:its=0:=by omega
   have E5:=hide (E3.out h00)
   subst h00
   go_wp2
   go_end0
   exact ⟨rfl,GOAL.out _ E5.out⟩
end Go.Proofs.YtcbadebjpogmlaaGreatDoor
namespace Go.Proofs.YtcbadebjpogmlaaGreatDoor
open Go.RowKit Tr
def fwc (c0 c1 c2 c3 c4 c5 c6 c7 c8:Value):Array Value:=#[c0,c1,c2,c3,c4,c5,c6,c7,c8]
def mtCells (p:List UInt8) (frm to k:Nat):List Value:=[.string (bsb p),.int .i64 (frm:Nat),.int .i64 (to:Nat),.int .i64 (k:Nat)]
theorem infoMatch:(Tryz.prog.info? 44).map (fun i=>(i.zero,i.size,i.bytes))=some (some (.agg #[.string ⟨#[]⟩,.int .i64 0,.int .i64 0,.int .i64 0]),4,40):=by kernel_rfl
set_option linter.unusedSimpArgs false in
set_option maxHeartbeats 4000000 in
set_option maxRecDepth 100000 in
theorem f_tell {w:World} {f:Nat} {c0 c1 c2 c3 c4 c5 c6 c7 ot:Value} {n:Nat} {cells:List Value} (hB:Blk w f (fwc c0 c1 c2 c3 c4 c5 c6 c7 ot) 170) (ho:w.ownsRow 0 44 4 ot n cells) (hne:ot.ownBlock≠some f) (hn:n<5000000) {vb:Nat} {p:List UInt8} {frm to:Nat} (k:Nat)
 (hnd:∀W,Keeps w W→Calls Tryz.prog 36 #[.pointer (some ⟨vb,0,none⟩)] W fun r w'=>r=.returned (nagg p frm to)∧Keeps W w') :
 Calls Tryz.prog 109 #[.pointer (some ⟨f,0,none⟩),.pointer (some ⟨vb,0,none⟩),.int .i64 (k:Nat)] w fun r w'=>r=.returned (.tuple #[])∧∃ot',Blk w' f (fwc c0 c1 c2 c3 c4 c5 c6 c7 ot') 170∧w'.ownsRow 0 44 4 ot' (n+1) (cells++mtCells p frm to k)∧(∀kk,ot'.ownBlock=some kk→ot.ownBlock=some kk∨w.heap.size≤kk)∧ot'.ownBlock≠some f∧Fr (fun kk=>kk=f∨ot.ownBlock=some kk) w w':=by
 obtain ⟨oa,oc,rfl⟩:=own_slice ho
 have hfl:=hB.lt
 have d8:w.drew.cell? ⟨f,8,none⟩=some (.slice oa n oc):=Blk.cell (w:=w.drew) hB 8
 have ND:=hide (hnd w.drew ((Fr.refl _ _).drewN 1))
 obtain ⟨PB,hPB⟩:∃PB,PB=bsb p:=⟨_,rfl⟩
 obtain ⟨P,hP⟩:∃P:World→Prop,P=fun w'=>∃ot',Blk w' f (fwc c0 c1 c2 c3 c4 c5 c6 c7 ot') 170∧w'.ownsRow 0 44 4 ot' (n+1) (cells++mtCells p frm to k)∧(∀kk,ot'.ownBlock=some kk→(Value.slice oa n oc).ownBlock=some kk∨w.heap.size≤kk)∧ot'.ownBlock≠some f∧Fr (fun kk=>kk=f∨(Value.slice oa n oc).ownBlock=some kk) w w':=⟨_,rfl⟩
 have ONE:Hid (∀u ∈ [Value.string PB,.int .i64 (frm:Nat),.int .i64 (to:Nat),.int .i64 (k:Nat)],u.oneCell'=true):=by
  intro u hu; simp at hu; rcases hu with rfl | rfl | rfl | rfl<;>rfl
 have NXT:Hid (∀w1,Keeps w.drew w1→w1.cell? ⟨f,8,none⟩=some (.slice oa n oc)∧(w1.alloc (.cells #[.string PB,.int .i64 (frm:Nat),.int .i64 (to:Nat),.int .i64 (k:Nat)] 44)).cell? ⟨f,8,none⟩=some (.slice oa n oc) ∧
  ((w1.alloc (.cells #[.string PB,.int .i64 (frm:Nat),.int .i64 (to:Nat),.int .i64 (k:Nat)] 44)).ownsRow 0 44 4 (.slice oa n oc) n cells ∧
   (∀(j:Nat) (u:Value),[Value.string PB,.int .i64 (frm:Nat),.int .i64 (to:Nat),.int .i64 (k:Nat)][j]?=some u→(w1.alloc (.cells #[.string PB,.int .i64 (frm:Nat),.int .i64 (to:Nat),.int .i64 (k:Nat)] 44)).cell? ((⟨w1.heap.size,0,none⟩:Addr).add j)=some u) ∧
   ∀g4 cap4 w4,w4.ownsRow 0 44 4 (.slice (some ⟨g4,0,none⟩) (n+1) cap4) (n+1) (cells++[.string PB,.int .i64 (frm:Nat),.int .i64 (to:Nat),.int .i64 (k:Nat)])→(w1.alloc (.cells #[.string PB,.int .i64 (frm:Nat),.int .i64 (to:Nat),.int .i64 (k:Nat)] 44)).grownBy w4 (Value.slice oa n oc).ownBlock→((Value.slice oa n oc).ownBlock=some g4∨g4=(w1.alloc (.cells #[.string PB,.int .i64 (frm:Nat),.int .i64 (to:Nat),.int .i64 (k:Nat)] 44)).heap.size) →
    w4.cell? ⟨f,8,none⟩=some (.slice oa n oc)∧(∀i,w4.frozen? ⟨f,i,none⟩=false)∧(∀v,(w4.setCell ⟨f,8,none⟩ v).cell? ⟨f,8,none⟩=some v)∧P (w4.setCell ⟨f,8,none⟩ (.slice (some ⟨g4,0,none⟩) (n+1) cap4)))):=fun w1 hk1=>by
  have k0:Keeps w w1:=((Fr.refl _ _).drewN 1).trans hk1
  have b1:=hB.fr k0 id
  have k2:Keeps w (w1.alloc (.cells #[.string PB,.int .i64 (frm:Nat),.int .i64 (to:Nat),.int .i64 (k:Nat)] 44)):=k0.alloc _
  have b2:=hB.fr k2 id
  have o2:(w1.alloc (.cells #[.string PB,.int .i64 (frm:Nat),.int .i64 (to:Nat),.int .i64 (k:Nat)] 44)).ownsRow 0 44 4 (.slice oa n oc) n cells:=own_at' ho (fun i hi=>k2.block i (ho.lt i hi).2 id)
  refine ⟨b1.cell 8,b2.cell 8,o2,?_,fun g4 cap4 w4 ho4 hg4 hat=>?_⟩
  ·intro j u hj
   match j,hj with
   | 0,hj=>simp at hj; subst hj; simp [Addr.add]
   | 1,hj=>simp at hj; subst hj; simp [Addr.add]
   | 2,hj=>simp at hj; subst hj; simp [Addr.add]
   | 3,hj=>simp at hj; subst hj; simp [Addr.add]
  have b4:Blk w4 f (fwc c0 c1 c2 c3 c4 c5 c6 c7 (.slice oa n oc)) 170:=by
   show w4.heap[f]?=_
   rw [hg4.block f (Nat.lt_of_lt_of_le hfl k2.size) (fun e=>hne e.symm)]
   exact b2
  have hgf:g4≠f:=by
   rcases hat with e | e
   ·exact fun y=>hne (y▸e)
   have:=k2.size; intro y; rw [← y] at hfl; omega
  refine ⟨b4.cell 8,b4.fz,fun v=>(b4.set 8 v).cell 8,?_⟩
  rw [hP]
  refine ⟨.slice (some ⟨g4,0,none⟩) (n+1) cap4,b4.set 8 _,?_,fun kk hkk=>?_,fun e=>hgf (Option.some.inj e),?_⟩
  ·have:w4.ownsRow 0 44 4 (.slice (some ⟨g4,0,none⟩) (n+1) cap4) (n+1) (cells++mtCells p frm to k):=by
    unfold mtCells; rw [← hPB]; exact ho4
   exact own_at' this (fun i hi=>Below.heap_setCell _ _ _ _ (fun e=>hgf ((Option.some.inj hi).trans e)))
  ·have e:g4=kk:=Option.some.inj hkk
   subst e
   rcases hat with e | e
   ·exact Or.inl e
   exact Or.inr (by rw [e]; exact k2.size)
  refine Fr.setCell ?_ ⟨f,8,none⟩ (Or.inl (Or.inl rfl)) _
  exact ⟨hg4.os.trans k2.os,hg4.tape.trans k2.tape,hg4.output.trans k2.output,Nat.le_trans k2.size hg4.size,fun i hi hn=>by
   rw [hg4.block i (Nat.lt_of_lt_of_le hi k2.size) (fun e=>hn (Or.inr e.symm))]; exact k2.block i hi id⟩
 have GOAL:Hid (∀w',P w'→∃ot',Blk w' f (fwc c0 c1 c2 c3 c4 c5 c6 c7 ot') 170∧w'.ownsRow 0 44 4 ot' (n+1) (cells++mtCells p frm to k)∧(∀kk,ot'.ownBlock=some kk→(Value.slice oa n oc).ownBlock=some kk∨w.heap.size≤kk)∧ot'.ownBlock≠some f∧Fr (fun kk=>kk=f∨(Value.slice oa n oc).ownBlock=some kk) w w'):=fun w' h=>by rw [hP] at h; exact h
 obtain ⟨i0,hi,hz0,hz1,hz2⟩:=info_parts infoMatch
 have HI:=hide hi
 have HZ0:=hide hz0
 have HZ1:=hide hz1
 have HZ2:=hide hz2
 have HBB:=hide hB
 have HO:=hide ho
 unfold nagg at ND
 rw [← hPB] at ND
 clear hi hz0 hz1 hz2 hB ho hnd hPB hP HBB HO
 go_enter Tryz.func109,Tryz.ntmps109
 go_wp2
 refine wp_region_held_drew (S:=fun _=>True) (by kernel_rfl) trivial (fun _=>?_)
 refine wpAnyH_take (i:=0) (v:=?v9) rfl (by kernel_rfl) (by kernel_rfl) (by kernel_rfl) (fun _ _ _ h=>h) (Or.inl ⟨by rfl,?hy9⟩) (by assumption) ?rest9
 case hy9=>(intro w hSw; (try dsimp only at hSw); (go_simp<;>with_reducible rfl))
 try simp only [Act.put,List.setIfInBounds_toArray,List.set_cons_zero,List.set_cons_succ]
 refine wpAnyH_take (i:=1) (v:=?v10) rfl (by kernel_rfl) (by kernel_rfl) (by kernel_rfl) (fun _ _ _ h=>h) (Or.inl ⟨by rfl,?hy10⟩) (by assumption) ?rest10
 case hy10=>(intro w hSw; (try dsimp only at hSw); (go_simp<;>with_reducible rfl))
 try simp only [Act.put,List.setIfInBounds_toArray,List.set_cons_zero,List.set_cons_succ]
 refine wpAnyH_take (i:=2) (v:=?v11) rfl (by kernel_rfl) (by kernel_rfl) (by kernel_rfl) (fun _ _ _ h=>h) (Or.inl ⟨by rfl,?hy11⟩) (by assumption) ?rest11
 case hy11=>(intro w hSw; (try dsimp only at hSw); (go_simp<;>with_reducible rfl))
 try simp only [Act.put,List.setIfInBounds_toArray,List.set_cons_zero,List.set_cons_succ]
 refine wpAnyH_take (i:=3) (v:=?v12) rfl (by kernel_rfl) (by kernel_rfl) (by kernel_rfl) (fun _ _ _ h=>h) (Or.inl ⟨by rfl,?hy12⟩) (by assumption) ?rest12
 case hy12=>(intro w hSw; (try dsimp only at hSw); (go_simp<;>with_reducible rfl))
 try simp only [Act.put,List.setIfInBounds_toArray,List.set_cons_zero,List.set_cons_succ]
 refine wpAnyH_take (i:=5) (v:=?v13) rfl (by kernel_rfl) (by kernel_rfl) (by kernel_rfl) (fun _ _ _ h=>h) (Or.inl ⟨by rfl,?hy13⟩) (by assumption) ?rest13
 case hy13=>(intro w hSw; (try dsimp only at hSw); (go_simp<;>with_reducible rfl))
 try simp only [Act.put,List.setIfInBounds_toArray,List.set_cons_zero,List.set_cons_succ]
 refine wpAnyH_take (i:=7) (v:=?v14) rfl (by kernel_rfl) (by kernel_rfl) (by kernel_rfl) (fun _ _ _ h=>h) (Or.inl ⟨by rfl,?hy14⟩) (by assumption) ?rest14
 case hy14=>(intro w hSw; (try dsimp only at hSw); (go_simp<;>with_reducible rfl))
 try simp only [Act.put,List.setIfInBounds_toArray,List.set_cons_zero,List.set_cons_succ]
 refine wpAnyH_ready (rs:=[4,6]) (by kernel_rfl) (by simp) ?_
 refine AllReadyH.cons rfl (fun K hK=>?_) ?_
 ·go_simp
  refine hK.out _ _ trivial (fun _=>?_)
  clear hK K
  try simp only [Act.put,List.setIfInBounds_toArray,List.set_cons_zero,List.set_cons_succ]
  refine wpAnyH_ready (rs:=[6]) (by kernel_rfl) (by simp) ?_
  refine AllReadyH.cons rfl (fun K hK=>?_) AllReadyH.nil
  go_simp
  refine ND.out.mono ?_
  rintro r w1 ⟨rfl,hk1⟩
  obtain ⟨e1,e2,AFT⟩:=NXT.out w1 hk1
  have AF:=hide AFT
  clear AFT hk1
  refine hK.out _ _ trivial (fun _=>?_)
  clear hK K
  try simp only [Act.put,List.setIfInBounds_toArray,List.set_cons_zero,List.set_cons_succ]
  refine wpAnyH_take (i:=8) (v:=?v1) rfl (by kernel_rfl) (by kernel_rfl) (by kernel_rfl) (fun _ _ _ h=>h) (Or.inl ⟨by rfl,?hy1⟩) (by assumption) ?rest1
  case hy1=>(intro w hSw; (try dsimp only at hSw); (go_simp<;>with_reducible rfl))
  try simp only [Act.put,List.setIfInBounds_toArray,List.set_cons_zero,List.set_cons_succ]
  refine wpAnyH_ready (rs:=[9]) (by kernel_rfl) (by simp) ?_
  refine AllReadyH.cons rfl (fun K hK=>?_) AllReadyH.nil
  go_simp
  refine hK.out _ _ trivial (fun _=>?_)
  clear hK K
  try simp only [Act.put,List.setIfInBounds_toArray,List.set_cons_zero,List.set_cons_succ]
  refine wpAnyH_ready (rs:=[10]) (by kernel_rfl) (by simp) ?_
  refine AllReadyH.cons rfl (fun K hK=>?_) AllReadyH.nil
  refine step_append_lies _ rfl (.tmp 10) (.tmp 15) 33 rfl 0 44 i0 _ 4 40 Tryz.underlying33 HI.out HZ0.out HZ1.out HZ2.out rfl (by decide) (.slice oa n oc) n cells rfl AF.out.1 ⟨w1.heap.size,0,none⟩ 1 1 [.string PB,.int .i64 (frm:Nat),.int .i64 (to:Nat),.int .i64 (k:Nat)] rfl rfl AF.out.2.1 ONE.out (by omega) (by unfold maxLen; omega) (by omega) (by omega) _ rfl ?_
  intro g4 cap4 w4 hown4 hgrow4 hat4 _
  obtain ⟨d2,d3,d4,F4⟩:=AF.out.2.2 g4 cap4 w4 hown4 hgrow4 hat4
  have FF4:=hide F4
  clear F4 hown4 hgrow4 hat4
  refine hK.out _ _ trivial (fun _=>?_)
  clear hK K
  try simp only [Act.put,List.setIfInBounds_toArray,List.set_cons_zero,List.set_cons_succ]
  refine wpAnyH_take (i:=11) (v:=?v2) rfl (by kernel_rfl) (by kernel_rfl) (by kernel_rfl) (fun _ _ _ h=>h) (Or.inl ⟨by rfl,?hy2⟩) (by assumption) ?rest2
  case hy2=>(intro w hSw; (try dsimp only at hSw); (go_simp<;>with_reducible rfl))
  try simp only [Act.put,List.setIfInBounds_toArray,List.set_cons_zero,List.set_cons_succ]
  refine wpAnyH_take (i:=12) (v:=?v3) rfl (by kernel_rfl) (by kernel_rfl) (by kernel_rfl) (fun _ _ _ h=>h) (Or.inl ⟨by rfl,?hy3⟩) (by assumption) ?rest3
  case hy3=>(intro w hSw; (try dsimp only at hSw); (go_simp<;>with_reducible rfl))
  try simp only [Act.put,List.setIfInBounds_toArray,List.set_cons_zero,List.set_cons_succ]
  refine wpAnyH_ready (rs:=[13]) (by kernel_rfl) (by simp) ?_
  refine AllReadyH.cons rfl (fun K hK=>?_) AllReadyH.nil
  go_simp
  refine hK.out _ _ trivial (fun _=>?_)
  clear hK K
  try simp only [Act.put,List.setIfInBounds_toArray,List.set_cons_zero,List.set_cons_succ]
  refine wpAnyH_done (by kernel_rfl) ?_ _
  go_wp2
  go_end0
  exact ⟨rfl,GOAL.out _ FF4.out⟩
 refine AllReadyH.cons rfl (fun K hK=>?_) AllReadyH.nil
 go_simp
 refine ND.out.mono ?_
 rintro r w1 ⟨rfl,hk1⟩
 obtain ⟨e1,e2,AFT⟩:=NXT.out w1 hk1
 have AF:=hide AFT
 clear AFT hk1
 refine hK.out _ _ trivial (fun _=>?_)
 clear hK K
 try simp only [Act.put,List.setIfInBounds_toArray,List.set_cons_zero,List.set_cons_succ]
 refine wpAnyH_take (i:=8) (v:=?v4) rfl (by kernel_rfl) (by kernel_rfl) (by kernel_rfl) (fun _ _ _ h=>h) (Or.inl ⟨by rfl,?hy4⟩) (by assumption) ?rest4
 case hy4=>(intro w hSw; (try dsimp only at hSw); (go_simp<;>with_reducible rfl))
 try simp only [Act.put,List.setIfInBounds_toArray,List.set_cons_zero,List.set_cons_succ]
 refine wpAnyH_ready (rs:=[4,9]) (by kernel_rfl) (by simp) ?_
 refine AllReadyH.cons rfl (fun K hK=>?_) ?_
 ·go_simp
  refine hK.out _ _ trivial (fun _=>?_)
  clear hK K
  try simp only [Act.put,List.setIfInBounds_toArray,List.set_cons_zero,List.set_cons_succ]
  refine wpAnyH_ready (rs:=[9]) (by kernel_rfl) (by simp) ?_
  refine AllReadyH.cons rfl (fun K hK=>?_) AllReadyH.nil
  go_simp
  refine hK.out _ _ trivial (fun _=>?_)
  clear hK K
  try simp only [Act.put,List.setIfInBounds_toArray,List.set_cons_zero,List.set_cons_succ]
  refine wpAnyH_ready (rs:=[10]) (by kernel_rfl) (by simp) ?_
  refine AllReadyH.cons rfl (fun K hK=>?_) AllReadyH.nil
  refine step_append_lies _ rfl (.tmp 10) (.tmp 15) 33 rfl 0 44 i0 _ 4 40 Tryz.underlying33 HI.out HZ0.out HZ1.out HZ2.out rfl (by decide) (.slice oa n oc) n cells rfl AF.out.1 ⟨w1.heap.size,0,none⟩ 1 1 [.string PB,.int .i64 (frm:Nat),.int .i64 (to:Nat),.int .i64 (k:Nat)] rfl rfl AF.out.2.1 ONE.out (by omega) (by unfold maxLen; omega) (by omega) (by omega) _ rfl ?_
  intro g4 cap4 w4 hown4 hgrow4 hat4 _
  obtain ⟨d2,d3,d4,F4⟩:=AF.out.2.2 g4 cap4 w4 hown4 hgrow4 hat4
  have FF4:=hide F4
  clear F4 hown4 hgrow4 hat4
  refine hK.out _ _ trivial (fun _=>?_)
  clear hK K
  try simp only [Act.put,List.setIfInBounds_toArray,List.set_cons_zero,List.set_cons_succ]
  refine wpAnyH_take (i:=11) (v:=?v5) rfl (by kernel_rfl) (by kernel_rfl) (by kernel_rfl) (fun _ _ _ h=>h) (Or.inl ⟨by rfl,?hy5⟩) (by assumption) ?rest5
  case hy5=>(intro w hSw; (try dsimp only at hSw); (go_simp<;>with_reducible rfl))
  try simp only [Act.put,List.setIfInBounds_toArray,List.set_cons_zero,List.set_cons_succ]
  refine wpAnyH_take (i:=12) (v:=?v6) rfl (by kernel_rfl) (by kernel_rfl) (by kernel_rfl) (fun _ _ _ h=>h) (Or.inl ⟨by rfl,?hy6⟩) (by assumption) ?rest6
  case hy6=>(intro w hSw; (try dsimp only at hSw); (go_simp<;>with_reducible rfl))
  try simp only [Act.put,List.setIfInBounds_toArray,List.set_cons_zero,List.set_cons_succ]
  refine wpAnyH_ready (rs:=[13]) (by kernel_rfl) (by simp) ?_
  refine AllReadyH.cons rfl (fun K hK=>?_) AllReadyH.nil
  go_simp
  refine hK.out _ _ trivial (fun _=>?_)
  clear hK K
  try simp only [Act.put,List.setIfInBounds_toArray,List.set_cons_zero,List.set_cons_succ]
  refine wpAnyH_done (by kernel_rfl) ?_ _
  go_wp2
  go_end0
  exact ⟨rfl,GOAL.out _ FF4.out⟩
 refine AllReadyH.cons rfl (fun K hK=>?_) AllReadyH.nil
 go_simp
 refine hK.out _ _ trivial (fun _=>?_)
 clear hK K
 try simp only [Act.put,List.setIfInBounds_toArray,List.set_cons_zero,List.set_cons_succ]
 refine wpAnyH_ready (rs:=[4]) (by kernel_rfl) (by simp) ?_
 refine AllReadyH.cons rfl (fun K hK=>?_) AllReadyH.nil
 go_simp
 refine hK.out _ _ trivial (fun _=>?_)
 clear hK K
 try simp only [Act.put,List.setIfInBounds_toArray,List.set_cons_zero,List.set_cons_succ]
 refine wpAnyH_ready (rs:=[10]) (by kernel_rfl) (by simp) ?_
 refine AllReadyH.cons rfl (fun K hK=>?_) AllReadyH.nil
 refine step_append_lies _ rfl (.tmp 10) (.tmp 15) 33 rfl 0 44 i0 _ 4 40 Tryz.underlying33 HI.out HZ0.out HZ1.out HZ2.out rfl (by decide) (.slice oa n oc) n cells rfl AF.out.1 ⟨w1.heap.size,0,none⟩ 1 1 [.string PB,.int .i64 (frm:Nat),.int .i64 (to:Nat),.int .i64 (k:Nat)] rfl rfl AF.out.2.1 ONE.out (by omega) (by unfold maxLen; omega) (by omega) (by omega) _ rfl ?_
 intro g4 cap4 w4 hown4 hgrow4 hat4 _
 obtain ⟨d2,d3,d4,F4⟩:=AF.out.2.2 g4 cap4 w4 hown4 hgrow4 hat4
 have FF4:=hide F4
 clear F4 hown4 hgrow4 hat4
 refine hK.out _ _ trivial (fun _=>?_)
 clear hK K
 try simp only [Act.put,List.setIfInBounds_toArray,List.set_cons_zero,List.set_cons_succ]
 refine wpAnyH_take (i:=11) (v:=?v7) rfl (by kernel_rfl) (by kernel_rfl) (by kernel_rfl) (fun _ _ _ h=>h) (Or.inl ⟨by rfl,?hy7⟩) (by assumption) ?rest7
 case hy7=>(intro w hSw; (try dsimp only at hSw); (go_simp<;>with_reducible rfl))
 try simp only [Act.put,List.setIfInBounds_toArray,List.set_cons_zero,List.set_cons_succ]
 refine wpAnyH_take (i:=12) (v:=?v8) rfl (by kernel_rfl) (by kernel_rfl) (by kernel_rfl) (fun _ _ _ h=>h) (Or.inl ⟨by rfl,?hy8⟩) (by assumption) ?rest8
 case hy8=>(intro w hSw; (try dsimp only at hSw); (go_simp<;>with_reducible rfl))
 try simp only [Act.put,List.setIfInBounds_toArray,List.set_cons_zero,List.set_cons_succ]
 refine wpAnyH_ready (rs:=[13]) (by kernel_rfl) (by simp) ?_
 refine AllReadyH.cons rfl (fun K hK=>?_) AllReadyH.nil
 go_simp
 refine hK.out _ _ trivial (fun _=>?_)
 clear hK K
 try simp only [Act.put,List.setIfInBounds_toArray,List.set_cons_zero,List.set_cons_succ]
 refine wpAnyH_done (by kernel_rfl) ?_ _
 go_wp2
 go_end0
 exact ⟨rfl,GOAL.out _ FF4.out⟩
end Go.Proofs.YtcbadebjpogmlaaGreatDoor
