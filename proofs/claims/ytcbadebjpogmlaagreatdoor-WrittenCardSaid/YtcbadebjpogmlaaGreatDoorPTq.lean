import Derived.Test.YtcbadebjpogmlaaGreatDoorPTp
import Derived.Great.BuildSlice
namespace Go.Proofs.YtcbadebjpogmlaaGreatDoor
open Go.RowKit Tr
def hdv (o:Option Nat):Value:=match o with
 | none=>.pointer none
 | some b=>vpt b
set_option maxRecDepth 100000 in
theorem f_begins0 {w:World} {f hb:Nat} {c0 c1 c2 c3 c4 c5 c6 c8:Value} (hB:Blk w f (fwc c0 c1 c2 c3 c4 c5 c6 (vpt hb) c8) 170) (v:Value) :
 Calls Tryz.prog 77 #[.pointer (some ⟨f,0,none⟩),v] w fun r w'=>r=.returned (.bool true)∧Keeps w w':=by
 have c7:w.cell? ⟨f,7,none⟩=some (.pointer (some ⟨hb,0,none⟩)):=hB.cell 7
 clear hB
 go_enter Tryz.func77,Tryz.ntmps77
 go_wp2
 go_ret
 exact ⟨rfl,Fr.refl _ _⟩
theorem infoTally3:(Tryz.prog.info? 202).map (fun i=>(i.zero,i.size,i.bytes))=some (some (.agg zeroT),22,176):=by kernel_rfl
theorem zeroT_cells:(Value.agg zeroT).cells.size=22:=by kernel_rfl
set_option linter.unusedSimpArgs false in
set_option maxHeartbeats 8000000 in
set_option maxRecDepth 100000 in
theorem f_begins1 {w:World} {f b:Nat} {tt:ByteArray} {xs:List Sg} {c1 c2 c3 c4 c5 tsv c8:Value} {cells:List Value} {n:Nat} (hB:Blk w f (fwc (.pointer (some ⟨b,0,none⟩)) c1 c2 c3 c4 c5 tsv (.pointer none) c8) 170) (hp:∀W,Fr (fun k=>k=f∨tsv.ownBlock=some k) w W→PlanV W b tt xs) (hx:xs.length≤10) (hn:n≤100) (ho:w.ownsRow 0 202 22 tsv n cells) (hne:tsv.ownBlock≠some f) {vb:Nat} {tl:List Ct}
 (hto:Calls Tryz.prog 105 #[.pointer (some ⟨f,0,none⟩),.pointer (some ⟨vb,0,none⟩)] w fun r w'=>r=.returned (.agg (tlc tl).toArray)∧Keeps w w') :
 Calls Tryz.prog 77 #[.pointer (some ⟨f,0,none⟩),.pointer (some ⟨vb,0,none⟩)] w fun r w'=>r=.returned (.bool false)∧∃tsv',Blk w' f (fwc (.pointer (some ⟨b,0,none⟩)) c1 c2 c3 c4 c5 tsv' (hdv (if headS xs<xs.length∧0<(ctAt tl (headS xs)).its then some vb else none)) c8) 170∧w'.ownsRow 0 202 22 tsv' (n+1) (cells++tlc tl)∧(∀kk,tsv'.ownBlock=some kk→tsv.ownBlock=some kk∨w.heap.size≤kk)∧tsv'.ownBlock≠some f∧Fr (fun kk=>kk=f∨tsv.ownBlock=some kk) w w':=by
 obtain ⟨oa,oc,rfl⟩:=own_slice ho
 have hfl:=hB.lt
 have d7:w.cell? ⟨f,7,none⟩=some (.pointer none):=hB.cell 7
 have IA0:=infoTally
 have ON0:=tlc_one tl
 have TL0:=tlc_len tl
 have OFH:Hid (∀W,Fr (fun k=>k=f∨(Value.slice oa n oc).ownBlock=some k) w W→Calls Tryz.prog 107 #[.pointer (some ⟨b,0,none⟩),.agg (tlc tl).toArray] W fun r w'=>r=.returned (.bool (decide (0<(ctAt tl (headS xs)).its)))∧Keeps W w'):=fun W hW=>p_ofhead (hp W hW) hx tl
 have LATE:Hid (∀W,Fr (fun k=>k=f∨(Value.slice oa n oc).ownBlock=some k) w W→Calls Tryz.prog 106 #[.pointer (some ⟨b,0,none⟩)] W fun r w'=>r=.returned (.bool (decide (headS xs<xs.length)))∧Keeps W w'):=fun W hW=>p_late (hp W hW)
 generalize (ctAt tl (headS xs)).its=its at *
 generalize tlc tl=ct at *
 obtain ⟨hdn,hhd⟩:∃hdn,hdn=(if headS xs<xs.length∧0<its then some vb else none):=⟨_,rfl⟩
 obtain ⟨lb,hlb⟩:∃lb,lb=decide (headS xs<xs.length):=⟨_,rfl⟩
 obtain ⟨ib,hib⟩:∃ib,ib=decide (0<its):=⟨_,rfl⟩
 have CASES:lb=true∧ib=true∧hdn=some vb∨lb=true∧ib=false∧hdn=none∨lb=false∧hdn=none:=by
  rw [hlb,hib,hhd]
  by_cases h1:headS xs<xs.length
  ·by_cases h2:0<its
   ·left; simp [h1,h2]
   right; left; simp [h1,h2]
  right; right; simp [h1]
 rw [← hhd]
 rw [← hib] at OFH
 rw [← hlb] at LATE
 clear hhd hlb hib
 obtain ⟨P4,hP4⟩:∃P4:Nat→World→Prop,P4=fun tb w'=>∃tsv',Blk w' f (fwc (.pointer (some ⟨b,0,none⟩)) c1 c2 c3 c4 c5 tsv' (.pointer none) c8) 170∧w'.ownsRow 0 202 22 tsv' (n+1) (cells++ct)∧(∀kk,tsv'.ownBlock=some kk→(Value.slice oa n oc).ownBlock=some kk∨w.heap.size≤kk)∧tsv'.ownBlock≠some f∧Fr (fun kk=>kk=f∨(Value.slice oa n oc).ownBlock=some kk) w w'∧w'.rangeAt tb 0 ct∧tb≠f∧w.heap.size≤tb:=⟨_,rfl⟩
 have NXT:Hid (∀w1,Keeps w w1→((w1.alloc (.cells zeroT 202)).there w1.heap.size 0 ct.toArray.size)∧∃W2,W2=(w1.alloc (.cells zeroT 202)).setCells w1.heap.size 0 ct.toArray.toList∧W2.drew.rangeAt w1.heap.size 0 ct∧W2.drew.cell? ⟨f,6,none⟩=some (.slice oa n oc) ∧
  ∃W3,W3=W2.drew.alloc (.cells ct.toArray 202)∧W3.rangeAt w1.heap.size 0 ct∧W3.cell? ⟨f,6,none⟩=some (.slice oa n oc)∧W3.ownsRow 0 202 22 (.slice oa n oc) n cells∧(∀(j:Nat) (u:Value),ct[j]?=some u→W3.cell? ((⟨W2.drew.heap.size,0,none⟩:Addr).add j)=some u) ∧
  ∀g4 cap4 w4,w4.ownsRow 0 202 22 (.slice (some ⟨g4,0,none⟩) (n+1) cap4) (n+1) (cells++ct)→W3.grownBy w4 (Value.slice oa n oc).ownBlock→((Value.slice oa n oc).ownBlock=some g4∨g4=W3.heap.size) →
   w4.rangeAt w1.heap.size 0 ct∧w4.cell? ⟨f,6,none⟩=some (.slice oa n oc)∧(∀i,w4.frozen? ⟨f,i,none⟩=false)∧(∀v,(w4.setCell ⟨f,6,none⟩ v).cell? ⟨f,6,none⟩=some v)∧(w4.setCell ⟨f,6,none⟩ (.slice (some ⟨g4,0,none⟩) (n+1) cap4)).rangeAt w1.heap.size 0 ct∧P4 w1.heap.size (w4.setCell ⟨f,6,none⟩ (.slice (some ⟨g4,0,none⟩) (n+1) cap4))):=fun w1 hk1=>by
  have bz:Blk (w1.alloc (.cells zeroT 202)) w1.heap.size zeroT 202:=Blk.new w1 _ _
  have hz:=hk1.size
  refine ⟨there_blk bz (zeroT_size.trans (by rw [List.size_toArray,TL0])),_,rfl,?_⟩
  obtain ⟨W2,hW2⟩:∃W2,W2=(w1.alloc (.cells zeroT 202)).setCells w1.heap.size 0 ct.toArray.toList:=⟨_,rfl⟩
  rw [← hW2]
  have b2:Blk W2 w1.heap.size ct.toArray 202:=by
   rw [hW2]
   exact blk_setCells ct [] zeroT.toList bz (zeroT_size.trans TL0.symm)
  have k2:Keeps w1 W2:=by rw [hW2]; exact fr_setCells _ _ ((Fr.refl _ w1).alloc _) (Or.inr (Nat.le_refl _))
  have k2':Keeps w W2.drew:=(hk1.trans k2).drewN 1
  have rg:∀{W:World},Blk W w1.heap.size ct.toArray 202→W.rangeAt w1.heap.size 0 ct:=fun {W} h j v hv=>by rw [Nat.zero_add,h.cell j,List.getElem?_toArray]; exact hv
  have k3:Keeps w (W2.drew.alloc (.cells ct.toArray 202)):=k2'.alloc _
  have b3:Blk (W2.drew.alloc (.cells ct.toArray 202)) w1.heap.size ct.toArray 202:=Blk.alloc (w:=W2.drew) b2 _
  refine ⟨rg (W:=W2.drew) b2,(hB.fr k2' id).cell 6,_,rfl,rg b3,(hB.fr k3 id).cell 6,own_at' ho (fun i hi=>k3.block i (ho.lt i hi).2 id),?_,?_⟩
  ·intro j u hj
   have hadd:(⟨W2.drew.heap.size,0,none⟩:Addr).add j=⟨W2.drew.heap.size,j,none⟩:=by unfold Addr.add; split<;>simp_all
   rw [hadd,(Blk.new W2.drew ct.toArray 202).cell j,List.getElem?_toArray]; exact hj
  obtain ⟨W3,hW3⟩:∃W3,W3=W2.drew.alloc (.cells ct.toArray 202):=⟨_,rfl⟩
  rw [← hW3] at b3 k3 ⊢
  intro g4 cap4 w4 ho4 hg4 hat
  have bf3:=hB.fr k3 id
  have b4:Blk w4 f (fwc (.pointer (some ⟨b,0,none⟩)) c1 c2 c3 c4 c5 (.slice oa n oc) (.pointer none) c8) 170:=by
   show w4.heap[f]?=_
   rw [hg4.block f (Nat.lt_of_lt_of_le hfl k3.size) (fun e=>hne e.symm)]
   exact bf3
  have t4:Blk w4 w1.heap.size ct.toArray 202:=by
   show w4.heap[w1.heap.size]?=_
   rw [hg4.block _ b3.lt (fun e=>by have:=(ho.lt _ e.symm).2; omega)]
   exact b3
  have hgf:g4≠f:=by
   rcases hat with e | e
   ·exact fun y=>hne (y▸e)
   have:=k3.size; intro y; rw [← y] at hfl; omega
  have htf:w1.heap.size≠f:=by omega
  have t5:Blk (w4.setCell ⟨f,6,none⟩ (.slice (some ⟨g4,0,none⟩) (n+1) cap4)) w1.heap.size ct.toArray 202:=by
   show (w4.setCell ⟨f,6,none⟩ _).heap[w1.heap.size]?=_
   rw [Below.heap_setCell _ _ _ _ (fun e=>htf e)]; exact t4
  refine ⟨rg t4,b4.cell 6,b4.fz,fun v=>(b4.set 6 v).cell 6,rg t5,?_⟩
  rw [hP4]
  refine ⟨.slice (some ⟨g4,0,none⟩) (n+1) cap4,b4.set 6 _,?_,fun kk hkk=>?_,fun e=>hgf (Option.some.inj e),?_,rg t5,htf,hz⟩
  ·exact own_at' ho4 (fun i hi=>Below.heap_setCell _ _ _ _ (fun e=>hgf ((Option.some.inj hi).trans e)))
  ·have e:g4=kk:=Option.some.inj hkk
   subst e
   rcases hat with e | e
   ·exact Or.inl e
   exact Or.inr (by rw [e]; exact k3.size)
  refine Fr.setCell ?_ ⟨f,6,none⟩ (Or.inl (Or.inl rfl)) _
  exact ⟨hg4.os.trans k3.os,hg4.tape.trans k3.tape,hg4.output.trans k3.output,Nat.le_trans k3.size hg4.size,fun i hi hn=>by
   rw [hg4.block i (Nat.lt_of_lt_of_le hi k3.size) (fun e=>hn (Or.inr e.symm))]; exact k3.block i hi id⟩
 have FIN:Hid (∀tb W5,P4 tb W5→(∀W,Keeps W5 W→W.cell? ⟨f,0,none⟩=some (.pointer (some ⟨b,0,none⟩))∧W.rangeAt tb 0 ct)∧(∀W,Keeps W5 W→Fr (fun k=>k=f∨(Value.slice oa n oc).ownBlock=some k) w W)∧(∀W,Keeps W5 W→W.cell? ⟨f,7,none⟩=some (.pointer none)∧(∀i,W.frozen? ⟨f,i,none⟩=false)) ∧
  (∀W,Keeps W5 W→∃tsv',Blk W f (fwc (.pointer (some ⟨b,0,none⟩)) c1 c2 c3 c4 c5 tsv' (.pointer none) c8) 170∧W.ownsRow 0 202 22 tsv' (n+1) (cells++ct)∧(∀kk,tsv'.ownBlock=some kk→(Value.slice oa n oc).ownBlock=some kk∨w.heap.size≤kk)∧tsv'.ownBlock≠some f∧Fr (fun kk=>kk=f∨(Value.slice oa n oc).ownBlock=some kk) w W) ∧
  (∀W,Keeps W5 W→∃tsv',Blk (W.setCell ⟨f,7,none⟩ (.pointer (some ⟨vb,0,none⟩))) f (fwc (.pointer (some ⟨b,0,none⟩)) c1 c2 c3 c4 c5 tsv' (vpt vb) c8) 170∧(W.setCell ⟨f,7,none⟩ (.pointer (some ⟨vb,0,none⟩))).ownsRow 0 202 22 tsv' (n+1) (cells++ct)∧(∀kk,tsv'.ownBlock=some kk→(Value.slice oa n oc).ownBlock=some kk∨w.heap.size≤kk)∧tsv'.ownBlock≠some f∧Fr (fun kk=>kk=f∨(Value.slice oa n oc).ownBlock=some kk) w (W.setCell ⟨f,7,none⟩ (.pointer (some ⟨vb,0,none⟩))))):=fun tb W5 h5=>by
  rw [hP4] at h5
  obtain ⟨tsv',q1,q2,q3,q4,q5,q6,q7,q8⟩:=h5
  have F:∀W,Keeps W5 W→Fr (fun k=>k=f∨(Value.slice oa n oc).ownBlock=some k) w W:=fun W k=>q5.new k (fun _ _ e=>e.elim)
  refine ⟨fun W k=>⟨(q1.fr k id).cell 0,fun j v hj=>(World.cell?_of_block (w:=W5) (k.block tb ?_ id)).trans (q6 j v hj)⟩,F,fun W k=>⟨(q1.fr k id).cell 7,(q1.fr k id).fz⟩,fun W k=>⟨tsv',q1.fr k id,own_at' q2 (fun i hi=>k.block i (q2.lt i hi).2 id),q3,q4,F W k⟩,fun W k=>⟨tsv',(q1.fr k id).set 7 _,?_,q3,q4,?_⟩⟩
  ·exact World.block_lt_of_cell? W5 ⟨tb,0+j,none⟩ (q6 j v hj)
  ·have o:=own_at' (w':=W) q2 (fun i hi=>k.block i (q2.lt i hi).2 id)
   exact own_at' o (fun i hi=>Below.heap_setCell _ _ _ _ (fun e=>q4 (hi.trans (by rw [e]))))
  exact (F W k).setCell ⟨f,7,none⟩ (Or.inl (Or.inl rfl)) _
 obtain ⟨i0,hi,hz0,hz1,hz2⟩:=info_parts infoTally3
 have FILL:Hid (∀a:Act,a.eval (.tmp 19)=.agg ct.toArray→Instr.fill (fun i=>some (i * i0.size,i0.size)) ((Array.range (1 * i0.size)).map ((Value.agg zeroT).cells[· % (Value.agg zeroT).cells.size]!)) ((#[(0,Operand.tmp 19)]:Array (Nat×Operand)).map fun (i,x)=>(i,a.eval x)).toList=some ct.toArray):=fun a ha=>by
  have hv:(Value.agg ct.toArray).cells=ct.toArray:=rfl
  have:=Great.fill_whole (s:=22) (by decide) [Value.agg ct.toArray] ((Array.range (1 * 22)).map ((Value.agg zeroT).cells[· % (Value.agg zeroT).cells.size]!)) (fun v hv'=>by rw [List.mem_singleton.1 hv',hv,List.size_toArray,TL0]) (by simp)
  rw [hz1]
  have e:((#[(0,Operand.tmp 19)]:Array (Nat×Operand)).map fun (i,x)=>(i,a.eval x)).toList=(([Value.agg ct.toArray].zipIdx 0).map fun x=>(x.2,x.1)):=by simp [ha]
  rw [e,this]
  simp [hv]
 have HI:=hide hi
 have HZ0:=hide hz0
 have HZ1:=hide hz1
 have HZ2:=hide hz2
 have IA:Hid ((Tryz.prog.info? 202).map (·.size)=some ct.length):=by rw [TL0]; exact IA0
 have IB:Hid ((Tryz.prog.info? 202).map (·.size)=some ct.toArray.size):=by rw [List.size_toArray,TL0]; exact IA0
 have ON:Hid (ct.toArray.all (·.oneCell')=true):=all_oneCell_toArray ON0
 have ONE:=hide ON0
 have TL:=hide TL0
 have TO:=hide hto
 have SML0:¬1 * i0.size > 2 ^ 24:=by rw [hz1]; decide
 have POS0:¬1 * i0.size=0:=by rw [hz1]; decide
 have SML:=hide SML0
 have POS:=hide POS0
 have HN:=hide hn
 clear hi hz0 hz1 hz2 SML0 POS0 hB ho hP4 hp hto IA0 ON0 TL0 hne hfl
 go_enter Tryz.func77,Tryz.ntmps77
 go_wp2_with fail
 refine TO.out.mono ?_
 rintro r w1 ⟨rfl,hk1⟩
 obtain ⟨th,W2,hW2,s2,e2,W3,hW3,s3,e3,o3,n3,AFT⟩:=NXT.out w1 hk1
 have T2:=hide th
 have HW2:=hide hW2
 have HW3:=hide hW3
 have S2:=hide s2
 have S3:=hide s3
 have O3:=hide o3
 have N3:=hide n3
 have AF:=hide AFT
 clear hk1 th hW2 hW3 s2 s3 o3 n3 AFT
 go_wp2_with (first | refine wpList_allocTo rfl 202 rfl (some 5) rfl w1.heap.size rfl (.agg zeroT) zeroTally zeroT rfl ?_ | refine wpList_store_mid rfl 202 (.tmp 5) (.tmp 13) rfl w1.heap.size 0 ct.toArray rfl rfl T2.out IB.out ON.out ?_)
 rw [← HW2.out]
 refine wp_region_held_drew (S:=fun w'=>w'.rangeAt w1.heap.size 0 ct) (by kernel_rfl) S2.out (fun _=>?_)
 refine wpAnyH_take (i:=0) (v:=?v1) rfl (by kernel_rfl) (by kernel_rfl) (by kernel_rfl) (fun _ _ _ h=>h) (Or.inl ⟨by rfl,?hy1⟩) (by assumption) ?rest1
 case hy1=>(intro w hSw; (try dsimp only at hSw); (go_simp<;>with_reducible rfl))
 try simp only [Act.put,nrm]
 refine wpAnyH_take (i:=1) (v:=?v2) rfl (by kernel_rfl) (by kernel_rfl) (by kernel_rfl) (fun _ _ _ h=>h) (Or.inl ⟨by rfl,?hy2⟩) (by assumption) ?rest2
 case hy2=>(intro w hSw; (try dsimp only at hSw); (go_simp<;>with_reducible rfl))
 try simp only [Act.put,nrm]
 refine wpAnyH_take (i:=2) (v:=?v3) rfl (by kernel_rfl) (by kernel_rfl) (by kernel_rfl) (fun _ _ _ h=>h) (Or.inl ⟨by rfl,?hy3⟩) (by assumption) ?rest3
 case hy3=>(intro w hSw; (try dsimp only at hSw); (go_simp<;>with_reducible rfl))
 try simp only [Act.put,nrm]
 refine wpAnyH_take (i:=3) (v:=?v4) rfl (by kernel_rfl) (by kernel_rfl) (by kernel_rfl) (fun _ _ _ h=>h) (Or.inl ⟨by rfl,?hy4⟩) (by assumption) ?rest4
 case hy4=>(intro w hSw; (try dsimp only at hSw); (go_simp<;>with_reducible rfl))
 try simp only [Act.put,nrm]
 refine wpAnyH_take (i:=5) (v:=.agg ct.toArray) rfl (by kernel_rfl) (by kernel_rfl) (by kernel_rfl) (fun _ _ _ h=>h) ?hy5 (by assumption) ?rest5
 case hy5=>exact yieldsIf_load_mid (by rfl) 202 (.tmp 5) rfl w1.heap.size 0 (by kernel_rfl) ct (.array 11 200) (fun w hS=>hS) (by kernel_rfl) rfl IA.out
 try simp only [Act.put,nrm]
 refine wpAnyH_ready (rs:=[4,6]) (by kernel_rfl) (by simp) ?_
 refine AllReadyH.cons rfl (fun K hK=>?_) ?_
 ·go_simp
  refine hK.out _ _ S2.out (fun _=>?_)
  clear hK K
  try simp only [Act.put,nrm]
  refine wpAnyH_ready (rs:=[6]) (by kernel_rfl) (by simp) ?_
  refine AllReadyH.cons rfl (fun K hK=>?_) AllReadyH.nil
  rw [if_pos (by rfl)]
  refine wp_buildSlice 168 202 1 #[(0,.tmp 19)] rfl ct.toArray i0 (.agg zeroT) Tryz.underlying168 HI.out HZ0.out SML.out POS.out (FILL.out _ rfl) ?_
  rw [← HW3.out]
  refine hK.out _ _ S3.out (fun _=>?_)
  clear hK K
  try simp only [Act.put,nrm]
  refine wpAnyH_ready (rs:=[7]) (by kernel_rfl) (by simp) ?_
  refine AllReadyH.cons rfl (fun K hK=>?_) AllReadyH.nil
  refine step_append_lies _ rfl (.tmp 18) (.tmp 20) 168 rfl 0 202 i0 _ 22 176 Tryz.underlying168 HI.out HZ0.out HZ1.out HZ2.out zeroT_cells (by decide) (.slice oa n oc) n cells rfl O3.out ⟨W2.drew.heap.size,0,none⟩ 1 1 ct rfl TL.out N3.out ONE.out (by omega) (by have:=HN.out; unfold maxLen; omega) (by have:=HN.out; omega) (by omega) _ rfl ?_
  intro g4 cap4 w4 hown4 hgrow4 hat4 _
  obtain ⟨s4,d2,d3,d4,s5,F4⟩:=AF.out g4 cap4 w4 hown4 hgrow4 hat4
  have FF4:=hide F4
  have S4:=hide s4
  have S5:=hide s5
  clear F4 hown4 hgrow4 hat4 s4 s5
  refine hK.out _ _ S4.out (fun _=>?_)
  clear hK K
  try simp only [Act.put,nrm]
  refine wpAnyH_take (i:=8) (v:=?v6) rfl (by kernel_rfl) (by kernel_rfl) (by kernel_rfl) (fun _ _ _ h=>h) (Or.inl ⟨by rfl,?hy6⟩) (by assumption) ?rest6
  case hy6=>(intro w hSw; (try dsimp only at hSw); (go_simp<;>with_reducible rfl))
  try simp only [Act.put,nrm]
  refine wpAnyH_take (i:=9) (v:=?v7) rfl (by kernel_rfl) (by kernel_rfl) (by kernel_rfl) (fun _ _ _ h=>h) (Or.inl ⟨by rfl,?hy7⟩) (by assumption) ?rest7
  case hy7=>(intro w hSw; (try dsimp only at hSw); (go_simp<;>with_reducible rfl))
  try simp only [Act.put,nrm]
  refine wpAnyH_ready (rs:=[10]) (by kernel_rfl) (by simp) ?_
  refine AllReadyH.cons rfl (fun K hK=>?_) AllReadyH.nil
  go_simp
  refine hK.out _ _ S5.out (fun _=>?_)
  clear hK K
  try simp only [Act.put,nrm]
  refine wpAnyH_done (by kernel_rfl) ?_ _
  obtain ⟨w5,hw5⟩:∃w5,w5=w4.setCell ⟨f,6,none⟩ (.slice (some ⟨g4,0,none⟩) (n+1) cap4):=⟨_,rfl⟩
  rw [← hw5] at FF4 ⊢
  have F5:=hide (FIN.out w1.heap.size w5 FF4.out)
  clear hw5 FF4 S4 S5 d2 d3 d4
  go_wp2_with fail
  rcases CASES with ⟨rfl,rfl,rfl⟩ | ⟨rfl,rfl,rfl⟩ | ⟨rfl,rfl⟩
  ·refine wp_region_held_drew (S:=fun w'=>w'.cell? ⟨f,0,none⟩=some (.pointer (some ⟨b,0,none⟩))∧w'.rangeAt w1.heap.size 0 ct) (by kernel_rfl) (F5.out.1 _ ((Fr.refl _ _).drewN 1)) (fun _=>?_)
   refine wpAnyH_take (i:=0) (v:=?v108) rfl (by kernel_rfl) (by kernel_rfl) (by kernel_rfl) (fun _ _ _ h=>h) (Or.inl ⟨by rfl,?hy108⟩) (by assumption) ?rest108
   case hy108=>(intro w hSw; (try dsimp only at hSw); (obtain ⟨hs0,_⟩:=hSw; (go_simp<;>with_reducible rfl)))
   try simp only [Act.put,nrm]
   refine wpAnyH_take (i:=1) (v:=?v109) rfl (by kernel_rfl) (by kernel_rfl) (by kernel_rfl) (fun _ _ _ h=>h) (Or.inl ⟨by rfl,?hy109⟩) (by assumption) ?rest109
   case hy109=>(intro w hSw; (try dsimp only at hSw); (obtain ⟨hs0,_⟩:=hSw; (go_simp<;>with_reducible rfl)))
   try simp only [Act.put,nrm]
   refine wpAnyH_take (i:=2) (v:=?v110) rfl (by kernel_rfl) (by kernel_rfl) (by kernel_rfl) (fun _ _ _ h=>h) (Or.inl ⟨by rfl,?hy110⟩) (by assumption) ?rest110
   case hy110=>(intro w hSw; (try dsimp only at hSw); (obtain ⟨hs0,_⟩:=hSw; (go_simp<;>with_reducible rfl)))
   try simp only [Act.put,nrm]
   refine wpAnyH_take (i:=3) (v:=?v111) rfl (by kernel_rfl) (by kernel_rfl) (by kernel_rfl) (fun _ _ _ h=>h) (Or.inl ⟨by rfl,?hy111⟩) (by assumption) ?rest111
   case hy111=>(intro w hSw; (try dsimp only at hSw); (obtain ⟨hs0,_⟩:=hSw; (go_simp<;>with_reducible rfl)))
   try simp only [Act.put,nrm]
   refine wpAnyH_ready (rs:=[4]) (by kernel_rfl) (by simp) ?_
   refine AllReadyH.cons rfl (fun K hK=>?_) AllReadyH.nil
   go_simp
   refine (LATE.out _ (F5.out.2.1 _ ((Fr.refl _ _).drewN 1))).mono ?_
   rintro r w6 ⟨rfl,hk6⟩
   have K6:Hid (Keeps w5 w6):=((Fr.refl _ _).drewN 1).trans hk6
   clear hk6
   refine hK.out _ _ (F5.out.1 _ K6.out) (fun _=>?_)
   clear hK K
   try simp only [Act.put,nrm]
   refine wpAnyH_take (i:=5) (v:=?v112) rfl (by kernel_rfl) (by kernel_rfl) (by kernel_rfl) (fun _ _ _ h=>h) (Or.inl ⟨by rfl,?hy112⟩) (by assumption) ?rest112
   case hy112=>(intro w hSw; (try dsimp only at hSw); (obtain ⟨hs0,_⟩:=hSw; (go_simp<;>with_reducible rfl)))
   try simp only [Act.put,nrm]
   refine wpAnyH_take (i:=6) (v:=?v113) rfl (by kernel_rfl) (by kernel_rfl) (by kernel_rfl) (fun _ _ _ h=>h) (Or.inl ⟨by rfl,?hy113⟩) (by assumption) ?rest113
   case hy113=>(intro w hSw; (try dsimp only at hSw); (obtain ⟨hs0,_⟩:=hSw; (go_simp<;>with_reducible rfl)))
   try simp only [Act.put,nrm]
   refine wpAnyH_take (i:=7) (v:=?v114) rfl (by kernel_rfl) (by kernel_rfl) (by kernel_rfl) (fun _ _ _ h=>h) (Or.inl ⟨by rfl,?hy114⟩) (by assumption) ?rest114
   case hy114=>(intro w hSw; (try dsimp only at hSw); (obtain ⟨hs0,_⟩:=hSw; (go_simp<;>with_reducible rfl)))
   try simp only [Act.put,nrm]
   refine wpAnyH_take (i:=8) (v:=?v115) rfl (by kernel_rfl) (by kernel_rfl) (by kernel_rfl) (fun _ _ _ h=>h) (Or.inl ⟨by rfl,?hy115⟩) (by assumption) ?rest115
   case hy115=>(intro w hSw; (try dsimp only at hSw); (obtain ⟨hs0,_⟩:=hSw; (go_simp<;>with_reducible rfl)))
   try simp only [Act.put,nrm]
   refine wpAnyH_take (i:=9) (v:=?v116) rfl (by kernel_rfl) (by kernel_rfl) (by kernel_rfl) (fun _ _ _ h=>h) (Or.inl ⟨by rfl,?hy116⟩) (by assumption) ?rest116
   case hy116=>(intro w hSw; (try dsimp only at hSw); (obtain ⟨hs0,_⟩:=hSw; (go_simp<;>with_reducible rfl)))
   try simp only [Act.put,nrm]
   refine wpAnyH_take (i:=10) (v:=.agg ct.toArray) rfl (by kernel_rfl) (by kernel_rfl) (by kernel_rfl) (fun _ _ _ h=>h) ?hy117 (by assumption) ?rest117
   case hy117=>exact yieldsIf_load_mid (by rfl) 202 (.tmp 5) rfl w1.heap.size 0 (by kernel_rfl) ct (.array 11 200) (fun w hS=>hS.2) (by kernel_rfl) rfl IA.out
   try simp only [Act.put,nrm]
   refine wpAnyH_ready (rs:=[11]) (by kernel_rfl) (by simp) ?_
   refine AllReadyH.cons rfl (fun K hK=>?_) AllReadyH.nil
   go_simp
   refine (OFH.out _ (F5.out.2.1 _ K6.out)).mono ?_
   rintro r w7 ⟨rfl,hk7⟩
   have K7:Hid (Keeps w5 w7):=K6.out.trans hk7
   clear hk7
   refine hK.out _ _ (F5.out.1 _ K7.out) (fun _=>?_)
   clear hK K
   try simp only [Act.put,nrm]
   refine wpAnyH_take (i:=12) (v:=?v118) rfl (by kernel_rfl) (by kernel_rfl) (by kernel_rfl) (fun _ _ _ h=>h) (Or.inl ⟨by rfl,?hy118⟩) (by assumption) ?rest118
   case hy118=>(intro w hSw; (try dsimp only at hSw); (obtain ⟨hs0,_⟩:=hSw; (go_simp<;>with_reducible rfl)))
   try simp only [Act.put,nrm]
   refine wpAnyH_done (by kernel_rfl) ?_ _
   obtain ⟨e7,fz7⟩:=F5.out.2.2.1 _ K7.out
   go_wp2
   go_ret
   exact ⟨rfl,F5.out.2.2.2.2 _ K7.out⟩
  ·refine wp_region_held_drew (S:=fun w'=>w'.cell? ⟨f,0,none⟩=some (.pointer (some ⟨b,0,none⟩))∧w'.rangeAt w1.heap.size 0 ct) (by kernel_rfl) (F5.out.1 _ ((Fr.refl _ _).drewN 1)) (fun _=>?_)
   refine wpAnyH_take (i:=0) (v:=?v219) rfl (by kernel_rfl) (by kernel_rfl) (by kernel_rfl) (fun _ _ _ h=>h) (Or.inl ⟨by rfl,?hy219⟩) (by assumption) ?rest219
   case hy219=>(intro w hSw; (try dsimp only at hSw); (obtain ⟨hs0,_⟩:=hSw; (go_simp<;>with_reducible rfl)))
   try simp only [Act.put,nrm]
   refine wpAnyH_take (i:=1) (v:=?v220) rfl (by kernel_rfl) (by kernel_rfl) (by kernel_rfl) (fun _ _ _ h=>h) (Or.inl ⟨by rfl,?hy220⟩) (by assumption) ?rest220
   case hy220=>(intro w hSw; (try dsimp only at hSw); (obtain ⟨hs0,_⟩:=hSw; (go_simp<;>with_reducible rfl)))
   try simp only [Act.put,nrm]
   refine wpAnyH_take (i:=2) (v:=?v221) rfl (by kernel_rfl) (by kernel_rfl) (by kernel_rfl) (fun _ _ _ h=>h) (Or.inl ⟨by rfl,?hy221⟩) (by assumption) ?rest221
   case hy221=>(intro w hSw; (try dsimp only at hSw); (obtain ⟨hs0,_⟩:=hSw; (go_simp<;>with_reducible rfl)))
   try simp only [Act.put,nrm]
   refine wpAnyH_take (i:=3) (v:=?v222) rfl (by kernel_rfl) (by kernel_rfl) (by kernel_rfl) (fun _ _ _ h=>h) (Or.inl ⟨by rfl,?hy222⟩) (by assumption) ?rest222
   case hy222=>(intro w hSw; (try dsimp only at hSw); (obtain ⟨hs0,_⟩:=hSw; (go_simp<;>with_reducible rfl)))
   try simp only [Act.put,nrm]
   refine wpAnyH_ready (rs:=[4]) (by kernel_rfl) (by simp) ?_
   refine AllReadyH.cons rfl (fun K hK=>?_) AllReadyH.nil
   go_simp
   refine (LATE.out _ (F5.out.2.1 _ ((Fr.refl _ _).drewN 1))).mono ?_
   rintro r w6 ⟨rfl,hk6⟩
   have K6:Hid (Keeps w5 w6):=((Fr.refl _ _).drewN 1).trans hk6
   clear hk6
   refine hK.out _ _ (F5.out.1 _ K6.out) (fun _=>?_)
   clear hK K
   try simp only [Act.put,nrm]
   refine wpAnyH_take (i:=5) (v:=?v223) rfl (by kernel_rfl) (by kernel_rfl) (by kernel_rfl) (fun _ _ _ h=>h) (Or.inl ⟨by rfl,?hy223⟩) (by assumption) ?rest223
   case hy223=>(intro w hSw; (try dsimp only at hSw); (obtain ⟨hs0,_⟩:=hSw; (go_simp<;>with_reducible rfl)))
   try simp only [Act.put,nrm]
   refine wpAnyH_take (i:=6) (v:=?v224) rfl (by kernel_rfl) (by kernel_rfl) (by kernel_rfl) (fun _ _ _ h=>h) (Or.inl ⟨by rfl,?hy224⟩) (by assumption) ?rest224
   case hy224=>(intro w hSw; (try dsimp only at hSw); (obtain ⟨hs0,_⟩:=hSw; (go_simp<;>with_reducible rfl)))
   try simp only [Act.put,nrm]
   refine wpAnyH_take (i:=7) (v:=?v225) rfl (by kernel_rfl) (by kernel_rfl) (by kernel_rfl) (fun _ _ _ h=>h) (Or.inl ⟨by rfl,?hy225⟩) (by assumption) ?rest225
   case hy225=>(intro w hSw; (try dsimp only at hSw); (obtain ⟨hs0,_⟩:=hSw; (go_simp<;>with_reducible rfl)))
   try simp only [Act.put,nrm]
   refine wpAnyH_take (i:=8) (v:=?v226) rfl (by kernel_rfl) (by kernel_rfl) (by kernel_rfl) (fun _ _ _ h=>h) (Or.inl ⟨by rfl,?hy226⟩) (by assumption) ?rest226
   case hy226=>(intro w hSw; (try dsimp only at hSw); (obtain ⟨hs0,_⟩:=hSw; (go_simp<;>with_reducible rfl)))
   try simp only [Act.put,nrm]
   refine wpAnyH_take (i:=9) (v:=?v227) rfl (by kernel_rfl) (by kernel_rfl) (by kernel_rfl) (fun _ _ _ h=>h) (Or.inl ⟨by rfl,?hy227⟩) (by assumption) ?rest227
   case hy227=>(intro w hSw; (try dsimp only at hSw); (obtain ⟨hs0,_⟩:=hSw; (go_simp<;>with_reducible rfl)))
   try simp only [Act.put,nrm]
   refine wpAnyH_take (i:=10) (v:=.agg ct.toArray) rfl (by kernel_rfl) (by kernel_rfl) (by kernel_rfl) (fun _ _ _ h=>h) ?hy228 (by assumption) ?rest228
   case hy228=>exact yieldsIf_load_mid (by rfl) 202 (.tmp 5) rfl w1.heap.size 0 (by kernel_rfl) ct (.array 11 200) (fun w hS=>hS.2) (by kernel_rfl) rfl IA.out
   try simp only [Act.put,nrm]
   refine wpAnyH_ready (rs:=[11]) (by kernel_rfl) (by simp) ?_
   refine AllReadyH.cons rfl (fun K hK=>?_) AllReadyH.nil
   go_simp
   refine (OFH.out _ (F5.out.2.1 _ K6.out)).mono ?_
   rintro r w7 ⟨rfl,hk7⟩
   have K7:Hid (Keeps w5 w7):=K6.out.trans hk7
   clear hk7
   refine hK.out _ _ (F5.out.1 _ K7.out) (fun _=>?_)
   clear hK K
   try simp only [Act.put,nrm]
   refine wpAnyH_take (i:=12) (v:=?v229) rfl (by kernel_rfl) (by kernel_rfl) (by kernel_rfl) (fun _ _ _ h=>h) (Or.inl ⟨by rfl,?hy229⟩) (by assumption) ?rest229
   case hy229=>(intro w hSw; (try dsimp only at hSw); (obtain ⟨hs0,_⟩:=hSw; (go_simp<;>with_reducible rfl)))
   try simp only [Act.put,nrm]
   refine wpAnyH_done (by kernel_rfl) ?_ _
   go_wp2
   go_ret
   exact ⟨rfl,F5.out.2.2.2.1 _ K7.out⟩
  refine wp_region_held_drew (S:=fun w'=>w'.cell? ⟨f,0,none⟩=some (.pointer (some ⟨b,0,none⟩))∧w'.rangeAt w1.heap.size 0 ct) (by kernel_rfl) (F5.out.1 _ ((Fr.refl _ _).drewN 1)) (fun _=>?_)
  refine wpAnyH_take (i:=0) (v:=?v330) rfl (by kernel_rfl) (by kernel_rfl) (by kernel_rfl) (fun _ _ _ h=>h) (Or.inl ⟨by rfl,?hy330⟩) (by assumption) ?rest330
  case hy330=>(intro w hSw; (try dsimp only at hSw); (obtain ⟨hs0,_⟩:=hSw; (go_simp<;>with_reducible rfl)))
  try simp only [Act.put,nrm]
  refine wpAnyH_take (i:=1) (v:=?v331) rfl (by kernel_rfl) (by kernel_rfl) (by kernel_rfl) (fun _ _ _ h=>h) (Or.inl ⟨by rfl,?hy331⟩) (by assumption) ?rest331
  case hy331=>(intro w hSw; (try dsimp only at hSw); (obtain ⟨hs0,_⟩:=hSw; (go_simp<;>with_reducible rfl)))
  try simp only [Act.put,nrm]
  refine wpAnyH_take (i:=2) (v:=?v332) rfl (by kernel_rfl) (by kernel_rfl) (by kernel_rfl) (fun _ _ _ h=>h) (Or.inl ⟨by rfl,?hy332⟩) (by assumption) ?rest332
  case hy332=>(intro w hSw; (try dsimp only at hSw); (obtain ⟨hs0,_⟩:=hSw; (go_simp<;>with_reducible rfl)))
  try simp only [Act.put,nrm]
  refine wpAnyH_take (i:=3) (v:=?v333) rfl (by kernel_rfl) (by kernel_rfl) (by kernel_rfl) (fun _ _ _ h=>h) (Or.inl ⟨by rfl,?hy333⟩) (by assumption) ?rest333
  case hy333=>(intro w hSw; (try dsimp only at hSw); (obtain ⟨hs0,_⟩:=hSw; (go_simp<;>with_reducible rfl)))
  try simp only [Act.put,nrm]
  refine wpAnyH_ready (rs:=[4]) (by kernel_rfl) (by simp) ?_
  refine AllReadyH.cons rfl (fun K hK=>?_) AllReadyH.nil
  go_simp
  refine (LATE.out _ (F5.out.2.1 _ ((Fr.refl _ _).drewN 1))).mono ?_
  rintro r w6 ⟨rfl,hk6⟩
  have K6:Hid (Keeps w5 w6):=((Fr.refl _ _).drewN 1).trans hk6
  clear hk6
  refine hK.out _ _ (F5.out.1 _ K6.out) (fun _=>?_)
  clear hK K
  try simp only [Act.put,nrm]
  refine wpAnyH_take (i:=5) (v:=?v334) rfl (by kernel_rfl) (by kernel_rfl) (by kernel_rfl) (fun _ _ _ h=>h) (Or.inl ⟨by rfl,?hy334⟩) (by assumption) ?rest334
  case hy334=>(intro w hSw; (try dsimp only at hSw); (obtain ⟨hs0,_⟩:=hSw; (go_simp<;>with_reducible rfl)))
  try simp only [Act.put,nrm]
  refine wpAnyH_take (i:=6) (v:=undef) rfl (by kernel_rfl) (by kernel_rfl) (by kernel_rfl) (fun _ _ _ h=>h) ?hy335 (by assumption) ?rest335
  case hy335=>exact Or.inr ⟨by kernel_rfl,rfl⟩
  try simp only [Act.put,nrm]
  refine wpAnyH_take (i:=7) (v:=undef) rfl (by kernel_rfl) (by kernel_rfl) (by kernel_rfl) (fun _ _ _ h=>h) ?hy336 (by assumption) ?rest336
  case hy336=>exact Or.inr ⟨by kernel_rfl,rfl⟩
  try simp only [Act.put,nrm]
  refine wpAnyH_take (i:=8) (v:=undef) rfl (by kernel_rfl) (by kernel_rfl) (by kernel_rfl) (fun _ _ _ h=>h) ?hy337 (by assumption) ?rest337
  case hy337=>exact Or.inr ⟨by kernel_rfl,rfl⟩
  try simp only [Act.put,nrm]
  refine wpAnyH_take (i:=9) (v:=undef) rfl (by kernel_rfl) (by kernel_rfl) (by kernel_rfl) (fun _ _ _ h=>h) ?hy338 (by assumption) ?rest338
  case hy338=>exact Or.inr ⟨by kernel_rfl,rfl⟩
  try simp only [Act.put,nrm]
  refine wpAnyH_take (i:=10) (v:=undef) rfl (by kernel_rfl) (by kernel_rfl) (by kernel_rfl) (fun _ _ _ h=>h) ?hy339 (by assumption) ?rest339
  case hy339=>exact Or.inr ⟨by kernel_rfl,rfl⟩
  try simp only [Act.put,nrm]
  refine wpAnyH_take (i:=11) (v:=undef) rfl (by kernel_rfl) (by kernel_rfl) (by kernel_rfl) (fun _ _ _ h=>h) ?hy340 (by assumption) ?rest340
  case hy340=>exact Or.inr ⟨by kernel_rfl,rfl⟩
  try simp only [Act.put,nrm]
  refine wpAnyH_take (i:=12) (v:=?v341) rfl (by kernel_rfl) (by kernel_rfl) (by kernel_rfl) (fun _ _ _ h=>h) (Or.inl ⟨by rfl,?hy341⟩) (by assumption) ?rest341
  case hy341=>(intro w hSw; (try dsimp only at hSw); (obtain ⟨hs0,_⟩:=hSw; (go_simp<;>with_reducible rfl)))
  try simp only [Act.put,nrm]
  refine wpAnyH_done (by kernel_rfl) ?_ _
  go_wp2
  go_ret
  exact ⟨rfl,F5.out.2.2.2.1 _ K6.out⟩
 refine AllReadyH.cons rfl (fun K hK=>?_) AllReadyH.nil
 rw [if_pos (by rfl)]
 refine wp_buildSlice 168 202 1 #[(0,.tmp 19)] rfl ct.toArray i0 (.agg zeroT) Tryz.underlying168 HI.out HZ0.out SML.out POS.out (FILL.out _ rfl) ?_
 rw [← HW3.out]
 refine hK.out _ _ S3.out (fun _=>?_)
 clear hK K
 try simp only [Act.put,nrm]
 refine wpAnyH_ready (rs:=[4]) (by kernel_rfl) (by simp) ?_
 refine AllReadyH.cons rfl (fun K hK=>?_) AllReadyH.nil
 go_simp
 refine hK.out _ _ S3.out (fun _=>?_)
 clear hK K
 try simp only [Act.put,nrm]
 refine wpAnyH_ready (rs:=[7]) (by kernel_rfl) (by simp) ?_
 refine AllReadyH.cons rfl (fun K hK=>?_) AllReadyH.nil
 refine step_append_lies _ rfl (.tmp 18) (.tmp 20) 168 rfl 0 202 i0 _ 22 176 Tryz.underlying168 HI.out HZ0.out HZ1.out HZ2.out zeroT_cells (by decide) (.slice oa n oc) n cells rfl O3.out ⟨W2.drew.heap.size,0,none⟩ 1 1 ct rfl TL.out N3.out ONE.out (by omega) (by have:=HN.out; unfold maxLen; omega) (by have:=HN.out; omega) (by omega) _ rfl ?_
 intro g4 cap4 w4 hown4 hgrow4 hat4 _
 obtain ⟨s4,d2,d3,d4,s5,F4⟩:=AF.out g4 cap4 w4 hown4 hgrow4 hat4
 have FF4:=hide F4
 have S4:=hide s4
 have S5:=hide s5
 clear F4 hown4 hgrow4 hat4 s4 s5
 refine hK.out _ _ S4.out (fun _=>?_)
 clear hK K
 try simp only [Act.put,nrm]
 refine wpAnyH_take (i:=8) (v:=?v342) rfl (by kernel_rfl) (by kernel_rfl) (by kernel_rfl) (fun _ _ _ h=>h) (Or.inl ⟨by rfl,?hy342⟩) (by assumption) ?rest342
 case hy342=>(intro w hSw; (try dsimp only at hSw); (go_simp<;>with_reducible rfl))
 try simp only [Act.put,nrm]
 refine wpAnyH_take (i:=9) (v:=?v343) rfl (by kernel_rfl) (by kernel_rfl) (by kernel_rfl) (fun _ _ _ h=>h) (Or.inl ⟨by rfl,?hy343⟩) (by assumption) ?rest343
 case hy343=>(intro w hSw; (try dsimp only at hSw); (go_simp<;>with_reducible rfl))
 try simp only [Act.put,nrm]
 refine wpAnyH_ready (rs:=[10]) (by kernel_rfl) (by simp) ?_
 refine AllReadyH.cons rfl (fun K hK=>?_) AllReadyH.nil
 go_simp
 refine hK.out _ _ S5.out (fun _=>?_)
 clear hK K
 try simp only [Act.put,nrm]
 refine wpAnyH_done (by kernel_rfl) ?_ _
 obtain ⟨w5,hw5⟩:∃w5,w5=w4.setCell ⟨f,6,none⟩ (.slice (some ⟨g4,0,none⟩) (n+1) cap4):=⟨_,rfl⟩
 rw [← hw5] at FF4 ⊢
 have F5:=hide (FIN.out w1.heap.size w5 FF4.out)
 clear hw5 FF4 S4 S5 d2 d3 d4
 go_wp2_with fail
 rcases CASES with ⟨rfl,rfl,rfl⟩ | ⟨rfl,rfl,rfl⟩ | ⟨rfl,rfl⟩
 ·refine wp_region_held_drew (S:=fun w'=>w'.cell? ⟨f,0,none⟩=some (.pointer (some ⟨b,0,none⟩))∧w'.rangeAt w1.heap.size 0 ct) (by kernel_rfl) (F5.out.1 _ ((Fr.refl _ _).drewN 1)) (fun _=>?_)
  refine wpAnyH_take (i:=0) (v:=?v444) rfl (by kernel_rfl) (by kernel_rfl) (by kernel_rfl) (fun _ _ _ h=>h) (Or.inl ⟨by rfl,?hy444⟩) (by assumption) ?rest444
  case hy444=>(intro w hSw; (try dsimp only at hSw); (obtain ⟨hs0,_⟩:=hSw; (go_simp<;>with_reducible rfl)))
  try simp only [Act.put,nrm]
  refine wpAnyH_take (i:=1) (v:=?v445) rfl (by kernel_rfl) (by kernel_rfl) (by kernel_rfl) (fun _ _ _ h=>h) (Or.inl ⟨by rfl,?hy445⟩) (by assumption) ?rest445
  case hy445=>(intro w hSw; (try dsimp only at hSw); (obtain ⟨hs0,_⟩:=hSw; (go_simp<;>with_reducible rfl)))
  try simp only [Act.put,nrm]
  refine wpAnyH_take (i:=2) (v:=?v446) rfl (by kernel_rfl) (by kernel_rfl) (by kernel_rfl) (fun _ _ _ h=>h) (Or.inl ⟨by rfl,?hy446⟩) (by assumption) ?rest446
  case hy446=>(intro w hSw; (try dsimp only at hSw); (obtain ⟨hs0,_⟩:=hSw; (go_simp<;>with_reducible rfl)))
  try simp only [Act.put,nrm]
  refine wpAnyH_take (i:=3) (v:=?v447) rfl (by kernel_rfl) (by kernel_rfl) (by kernel_rfl) (fun _ _ _ h=>h) (Or.inl ⟨by rfl,?hy447⟩) (by assumption) ?rest447
  case hy447=>(intro w hSw; (try dsimp only at hSw); (obtain ⟨hs0,_⟩:=hSw; (go_simp<;>with_reducible rfl)))
  try simp only [Act.put,nrm]
  refine wpAnyH_ready (rs:=[4]) (by kernel_rfl) (by simp) ?_
  refine AllReadyH.cons rfl (fun K hK=>?_) AllReadyH.nil
  go_simp
  refine (LATE.out _ (F5.out.2.1 _ ((Fr.refl _ _).drewN 1))).mono ?_
  rintro r w6 ⟨rfl,hk6⟩
  have K6:Hid (Keeps w5 w6):=((Fr.refl _ _).drewN 1).trans hk6
  clear hk6
  refine hK.out _ _ (F5.out.1 _ K6.out) (fun _=>?_)
  clear hK K
  try simp only [Act.put,nrm]
  refine wpAnyH_take (i:=5) (v:=?v448) rfl (by kernel_rfl) (by kernel_rfl) (by kernel_rfl) (fun _ _ _ h=>h) (Or.inl ⟨by rfl,?hy448⟩) (by assumption) ?rest448
  case hy448=>(intro w hSw; (try dsimp only at hSw); (obtain ⟨hs0,_⟩:=hSw; (go_simp<;>with_reducible rfl)))
  try simp only [Act.put,nrm]
  refine wpAnyH_take (i:=6) (v:=?v449) rfl (by kernel_rfl) (by kernel_rfl) (by kernel_rfl) (fun _ _ _ h=>h) (Or.inl ⟨by rfl,?hy449⟩) (by assumption) ?rest449
  case hy449=>(intro w hSw; (try dsimp only at hSw); (obtain ⟨hs0,_⟩:=hSw; (go_simp<;>with_reducible rfl)))
  try simp only [Act.put,nrm]
  refine wpAnyH_take (i:=7) (v:=?v450) rfl (by kernel_rfl) (by kernel_rfl) (by kernel_rfl) (fun _ _ _ h=>h) (Or.inl ⟨by rfl,?hy450⟩) (by assumption) ?rest450
  case hy450=>(intro w hSw; (try dsimp only at hSw); (obtain ⟨hs0,_⟩:=hSw; (go_simp<;>with_reducible rfl)))
  try simp only [Act.put,nrm]
  refine wpAnyH_take (i:=8) (v:=?v451) rfl (by kernel_rfl) (by kernel_rfl) (by kernel_rfl) (fun _ _ _ h=>h) (Or.inl ⟨by rfl,?hy451⟩) (by assumption) ?rest451
  case hy451=>(intro w hSw; (try dsimp only at hSw); (obtain ⟨hs0,_⟩:=hSw; (go_simp<;>with_reducible rfl)))
  try simp only [Act.put,nrm]
  refine wpAnyH_take (i:=9) (v:=?v452) rfl (by kernel_rfl) (by kernel_rfl) (by kernel_rfl) (fun _ _ _ h=>h) (Or.inl ⟨by rfl,?hy452⟩) (by assumption) ?rest452
  case hy452=>(intro w hSw; (try dsimp only at hSw); (obtain ⟨hs0,_⟩:=hSw; (go_simp<;>with_reducible rfl)))
  try simp only [Act.put,nrm]
  refine wpAnyH_take (i:=10) (v:=.agg ct.toArray) rfl (by kernel_rfl) (by kernel_rfl) (by kernel_rfl) (fun _ _ _ h=>h) ?hy453 (by assumption) ?rest453
  case hy453=>exact yieldsIf_load_mid (by rfl) 202 (.tmp 5) rfl w1.heap.size 0 (by kernel_rfl) ct (.array 11 200) (fun w hS=>hS.2) (by kernel_rfl) rfl IA.out
  try simp only [Act.put,nrm]
  refine wpAnyH_ready (rs:=[11]) (by kernel_rfl) (by simp) ?_
  refine AllReadyH.cons rfl (fun K hK=>?_) AllReadyH.nil
  go_simp
  refine (OFH.out _ (F5.out.2.1 _ K6.out)).mono ?_
  rintro r w7 ⟨rfl,hk7⟩
  have K7:Hid (Keeps w5 w7):=K6.out.trans hk7
  clear hk7
  refine hK.out _ _ (F5.out.1 _ K7.out) (fun _=>?_)
  clear hK K
  try simp only [Act.put,nrm]
  refine wpAnyH_take (i:=12) (v:=?v454) rfl (by kernel_rfl) (by kernel_rfl) (by kernel_rfl) (fun _ _ _ h=>h) (Or.inl ⟨by rfl,?hy454⟩) (by assumption) ?rest454
  case hy454=>(intro w hSw; (try dsimp only at hSw); (obtain ⟨hs0,_⟩:=hSw; (go_simp<;>with_reducible rfl)))
  try simp only [Act.put,nrm]
  refine wpAnyH_done (by kernel_rfl) ?_ _
  obtain ⟨e7,fz7⟩:=F5.out.2.2.1 _ K7.out
  go_wp2
  go_ret
  exact ⟨rfl,F5.out.2.2.2.2 _ K7.out⟩
 ·refine wp_region_held_drew (S:=fun w'=>w'.cell? ⟨f,0,none⟩=some (.pointer (some ⟨b,0,none⟩))∧w'.rangeAt w1.heap.size 0 ct) (by kernel_rfl) (F5.out.1 _ ((Fr.refl _ _).drewN 1)) (fun _=>?_)
  refine wpAnyH_take (i:=0) (v:=?v555) rfl (by kernel_rfl) (by kernel_rfl) (by kernel_rfl) (fun _ _ _ h=>h) (Or.inl ⟨by rfl,?hy555⟩) (by assumption) ?rest555
  case hy555=>(intro w hSw; (try dsimp only at hSw); (obtain ⟨hs0,_⟩:=hSw; (go_simp<;>with_reducible rfl)))
  try simp only [Act.put,nrm]
  refine wpAnyH_take (i:=1) (v:=?v556) rfl (by kernel_rfl) (by kernel_rfl) (by kernel_rfl) (fun _ _ _ h=>h) (Or.inl ⟨by rfl,?hy556⟩) (by assumption) ?rest556
  case hy556=>(intro w hSw; (try dsimp only at hSw); (obtain ⟨hs0,_⟩:=hSw; (go_simp<;>with_reducible rfl)))
  try simp only [Act.put,nrm]
  refine wpAnyH_take (i:=2) (v:=?v557) rfl (by kernel_rfl) (by kernel_rfl) (by kernel_rfl) (fun _ _ _ h=>h) (Or.inl ⟨by rfl,?hy557⟩) (by assumption) ?rest557
  case hy557=>(intro w hSw; (try dsimp only at hSw); (obtain ⟨hs0,_⟩:=hSw; (go_simp<;>with_reducible rfl)))
  try simp only [Act.put,nrm]
  refine wpAnyH_take (i:=3) (v:=?v558) rfl (by kernel_rfl) (by kernel_rfl) (by kernel_rfl) (fun _ _ _ h=>h) (Or.inl ⟨by rfl,?hy558⟩) (by assumption) ?rest558
  case hy558=>(intro w hSw; (try dsimp only at hSw); (obtain ⟨hs0,_⟩:=hSw; (go_simp<;>with_reducible rfl)))
  try simp only [Act.put,nrm]
  refine wpAnyH_ready (rs:=[4]) (by kernel_rfl) (by simp) ?_
  refine AllReadyH.cons rfl (fun K hK=>?_) AllReadyH.nil
  go_simp
  refine (LATE.out _ (F5.out.2.1 _ ((Fr.refl _ _).drewN 1))).mono ?_
  rintro r w6 ⟨rfl,hk6⟩
  have K6:Hid (Keeps w5 w6):=((Fr.refl _ _).drewN 1).trans hk6
  clear hk6
  refine hK.out _ _ (F5.out.1 _ K6.out) (fun _=>?_)
  clear hK K
  try simp only [Act.put,nrm]
  refine wpAnyH_take (i:=5) (v:=?v559) rfl (by kernel_rfl) (by kernel_rfl) (by kernel_rfl) (fun _ _ _ h=>h) (Or.inl ⟨by rfl,?hy559⟩) (by assumption) ?rest559
  case hy559=>(intro w hSw; (try dsimp only at hSw); (obtain ⟨hs0,_⟩:=hSw; (go_simp<;>with_reducible rfl)))
  try simp only [Act.put,nrm]
  refine wpAnyH_take (i:=6) (v:=?v560) rfl (by kernel_rfl) (by kernel_rfl) (by kernel_rfl) (fun _ _ _ h=>h) (Or.inl ⟨by rfl,?hy560⟩) (by assumption) ?rest560
  case hy560=>(intro w hSw; (try dsimp only at hSw); (obtain ⟨hs0,_⟩:=hSw; (go_simp<;>with_reducible rfl)))
  try simp only [Act.put,nrm]
  refine wpAnyH_take (i:=7) (v:=?v561) rfl (by kernel_rfl) (by kernel_rfl) (by kernel_rfl) (fun _ _ _ h=>h) (Or.inl ⟨by rfl,?hy561⟩) (by assumption) ?rest561
  case hy561=>(intro w hSw; (try dsimp only at hSw); (obtain ⟨hs0,_⟩:=hSw; (go_simp<;>with_reducible rfl)))
  try simp only [Act.put,nrm]
  refine wpAnyH_take (i:=8) (v:=?v562) rfl (by kernel_rfl) (by kernel_rfl) (by kernel_rfl) (fun _ _ _ h=>h) (Or.inl ⟨by rfl,?hy562⟩) (by assumption) ?rest562
  case hy562=>(intro w hSw; (try dsimp only at hSw); (obtain ⟨hs0,_⟩:=hSw; (go_simp<;>with_reducible rfl)))
  try simp only [Act.put,nrm]
  refine wpAnyH_take (i:=9) (v:=?v563) rfl (by kernel_rfl) (by kernel_rfl) (by kernel_rfl) (fun _ _ _ h=>h) (Or.inl ⟨by rfl,?hy563⟩) (by assumption) ?rest563
  case hy563=>(intro w hSw; (try dsimp only at hSw); (obtain ⟨hs0,_⟩:=hSw; (go_simp<;>with_reducible rfl)))
  try simp only [Act.put,nrm]
  refine wpAnyH_take (i:=10) (v:=.agg ct.toArray) rfl (by kernel_rfl) (by kernel_rfl) (by kernel_rfl) (fun _ _ _ h=>h) ?hy564 (by assumption) ?rest564
  case hy564=>exact yieldsIf_load_mid (by rfl) 202 (.tmp 5) rfl w1.heap.size 0 (by kernel_rfl) ct (.array 11 200) (fun w hS=>hS.2) (by kernel_rfl) rfl IA.out
  try simp only [Act.put,nrm]
  refine wpAnyH_ready (rs:=[11]) (by kernel_rfl) (by simp) ?_
  refine AllReadyH.cons rfl (fun K hK=>?_) AllReadyH.nil
  go_simp
  refine (OFH.out _ (F5.out.2.1 _ K6.out)).mono ?_
  rintro r w7 ⟨rfl,hk7⟩
  have K7:Hid (Keeps w5 w7):=K6.out.trans hk7
  clear hk7
  refine hK.out _ _ (F5.out.1 _ K7.out) (fun _=>?_)
  clear hK K
  try simp only [Act.put,nrm]
  refine wpAnyH_take (i:=12) (v:=?v565) rfl (by kernel_rfl) (by kernel_rfl) (by kernel_rfl) (fun _ _ _ h=>h) (Or.inl ⟨by rfl,?hy565⟩) (by assumption) ?rest565
  case hy565=>(intro w hSw; (try dsimp only at hSw); (obtain ⟨hs0,_⟩:=hSw; (go_simp<;>with_reducible rfl)))
  try simp only [Act.put,nrm]
  refine wpAnyH_done (by kernel_rfl) ?_ _
  go_wp2
  go_ret
  exact ⟨rfl,F5.out.2.2.2.1 _ K7.out⟩
 refine wp_region_held_drew (S:=fun w'=>w'.cell? ⟨f,0,none⟩=some (.pointer (some ⟨b,0,none⟩))∧w'.rangeAt w1.heap.size 0 ct) (by kernel_rfl) (F5.out.1 _ ((Fr.refl _ _).drewN 1)) (fun _=>?_)
 refine wpAnyH_take (i:=0) (v:=?v666) rfl (by kernel_rfl) (by kernel_rfl) (by kernel_rfl) (fun _ _ _ h=>h) (Or.inl ⟨by rfl,?hy666⟩) (by assumption) ?rest666
 case hy666=>(intro w hSw; (try dsimp only at hSw); (obtain ⟨hs0,_⟩:=hSw; (go_simp<;>with_reducible rfl)))
 try simp only [Act.put,nrm]
 refine wpAnyH_take (i:=1) (v:=?v667) rfl (by kernel_rfl) (by kernel_rfl) (by kernel_rfl) (fun _ _ _ h=>h) (Or.inl ⟨by rfl,?hy667⟩) (by assumption) ?rest667
 case hy667=>(intro w hSw; (try dsimp only at hSw); (obtain ⟨hs0,_⟩:=hSw; (go_simp<;>with_reducible rfl)))
 try simp only [Act.put,nrm]
 refine wpAnyH_take (i:=2) (v:=?v668) rfl (by kernel_rfl) (by kernel_rfl) (by kernel_rfl) (fun _ _ _ h=>h) (Or.inl ⟨by rfl,?hy668⟩) (by assumption) ?rest668
 case hy668=>(intro w hSw; (try dsimp only at hSw); (obtain ⟨hs0,_⟩:=hSw; (go_simp<;>with_reducible rfl)))
 try simp only [Act.put,nrm]
 refine wpAnyH_take (i:=3) (v:=?v669) rfl (by kernel_rfl) (by kernel_rfl) (by kernel_rfl) (fun _ _ _ h=>h) (Or.inl ⟨by rfl,?hy669⟩) (by assumption) ?rest669
 case hy669=>(intro w hSw; (try dsimp only at hSw); (obtain ⟨hs0,_⟩:=hSw; (go_simp<;>with_reducible rfl)))
 try simp only [Act.put,nrm]
 refine wpAnyH_ready (rs:=[4]) (by kernel_rfl) (by simp) ?_
 refine AllReadyH.cons rfl (fun K hK=>?_) AllReadyH.nil
 go_simp
 refine (LATE.out _ (F5.out.2.1 _ ((Fr.refl _ _).drewN 1))).mono ?_
 rintro r w6 ⟨rfl,hk6⟩
 have K6:Hid (Keeps w5 w6):=((Fr.refl _ _).drewN 1).trans hk6
 clear hk6
 refine hK.out _ _ (F5.out.1 _ K6.out) (fun _=>?_)
 clear hK K
 try simp only [Act.put,nrm]
 refine wpAnyH_take (i:=5) (v:=?v670) rfl (by kernel_rfl) (by kernel_rfl) (by kernel_rfl) (fun _ _ _ h=>h) (Or.inl ⟨by rfl,?hy670⟩) (by assumption) ?rest670
 case hy670=>(intro w hSw; (try dsimp only at hSw); (obtain ⟨hs0,_⟩:=hSw; (go_simp<;>with_reducible rfl)))
 try simp only [Act.put,nrm]
 refine wpAnyH_take (i:=6) (v:=undef) rfl (by kernel_rfl) (by kernel_rfl) (by kernel_rfl) (fun _ _ _ h=>h) ?hy671 (by assumption) ?rest671
 case hy671=>exact Or.inr ⟨by kernel_rfl,rfl⟩
 try simp only [Act.put,nrm]
 refine wpAnyH_take (i:=7) (v:=undef) rfl (by kernel_rfl) (by kernel_rfl) (by kernel_rfl) (fun _ _ _ h=>h) ?hy672 (by assumption) ?rest672
 case hy672=>exact Or.inr ⟨by kernel_rfl,rfl⟩
 try simp only [Act.put,nrm]
 refine wpAnyH_take (i:=8) (v:=undef) rfl (by kernel_rfl) (by kernel_rfl) (by kernel_rfl) (fun _ _ _ h=>h) ?hy673 (by assumption) ?rest673
 case hy673=>exact Or.inr ⟨by kernel_rfl,rfl⟩
 try simp only [Act.put,nrm]
 refine wpAnyH_take (i:=9) (v:=undef) rfl (by kernel_rfl) (by kernel_rfl) (by kernel_rfl) (fun _ _ _ h=>h) ?hy674 (by assumption) ?rest674
 case hy674=>exact Or.inr ⟨by kernel_rfl,rfl⟩
 try simp only [Act.put,nrm]
 refine wpAnyH_take (i:=10) (v:=undef) rfl (by kernel_rfl) (by kernel_rfl) (by kernel_rfl) (fun _ _ _ h=>h) ?hy675 (by assumption) ?rest675
 case hy675=>exact Or.inr ⟨by kernel_rfl,rfl⟩
 try simp only [Act.put,nrm]
 refine wpAnyH_take (i:=11) (v:=undef) rfl (by kernel_rfl) (by kernel_rfl) (by kernel_rfl) (fun _ _ _ h=>h) ?hy676 (by assumption) ?rest676
 case hy676=>exact Or.inr ⟨by kernel_rfl,rfl⟩
 try simp only [Act.put,nrm]
 refine wpAnyH_take (i:=12) (v:=?v677) rfl (by kernel_rfl) (by kernel_rfl) (by kernel_rfl) (fun _ _ _ h=>h) (Or.inl ⟨by rfl,?hy677⟩) (by assumption) ?rest677
 case hy677=>(intro w hSw; (try dsimp only at hSw); (obtain ⟨hs0,_⟩:=hSw; (go_simp<;>with_reducible rfl)))
 try simp only [Act.put,nrm]
 refine wpAnyH_done (by kernel_rfl) ?_ _
 go_wp2
 go_ret
 exact ⟨rfl,F5.out.2.2.2.1 _ K6.out⟩
end Go.Proofs.YtcbadebjpogmlaaGreatDoor
