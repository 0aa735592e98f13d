import Derived.Test.YtcbadebjpogmlaaGreatDoorPTc
import Derived.LaidEqlPtr
namespace Go.Proofs.YtcbadebjpogmlaaGreatDoor
open Go.RowKit Tr
theorem ret_ty {R:Ending→World→Prop} {a:Act} {W:World} {g:Nat} {cs:List Value} (hd:a.defers=[]) (ha:a.tmps[4]?.getD undef=.pointer (some ⟨g,0,none⟩))
 (hB:Blk W g cs.toArray 202) (hl:cs.length=22) (hR:R (.returned (.agg cs.toArray)) W):bodyPost Tryz.prog Tryz.f105 R .ret a W:=by
 refine bodyPost_ret (v:=.agg cs.toArray) ?_ hd hR
 have h:=run_loadVar_mid (P:=Tryz.prog) W g 0 202 cs (.array 11 200) (fun j v hv=>by rw [Nat.zero_add,hB.cell j,List.getElem?_toArray]; exact hv) (by kernel_rfl) rfl (by rw [hl]; exact infoTally)
 simp [results,Tryz.results105,ha,asAddr,h]
theorem tls_len:∀(l:List (List Ct)),(l.flatMap tlc).length=l.length * 22
 | []=>rfl
 | a::r=>by rw [List.flatMap_cons,List.length_append,tls_len r,tlc_len,List.length_cons]; omega
set_option maxHeartbeats 4000000 in
set_option maxRecDepth 100000 in
theorem f_tally0 {w:World} {f vb:Nat} {d:Dat} {ix:Nat} {sv:Value} (n:Nat) (hv:Blk w vb (pcl d (.pointer none) ix sv) 130) :
 Calls Tryz.prog 105 #[.pointer (some ⟨f,0,none⟩),.pointer (some ⟨vb,0,none⟩)] w fun r w'=>r=.returned (.agg (tlc (tlOut n)).toArray)∧Keeps w w':=by
 obtain ⟨W1,hW1⟩:∃W1,W1=w.alloc (.cells zeroT 202):=⟨_,rfl⟩
 have K1:Keeps w W1:=by rw [hW1]; exact (Fr.refl _ w).alloc _
 have b1:Blk W1 w.heap.size zeroT 202:=by rw [hW1]; exact Blk.new w _ _
 have c5:W1.cell? ⟨vb,5,none⟩=some (.pointer none):=(hv.fr K1 id).cell 5
 have OUT:Hid (Calls Tryz.prog 142 #[] W1 fun r w'=>r=.returned (.agg (tlc (tlOut n)).toArray)∧Keeps W1 w'):=p_outer n
 have TH:Hid (∀w2,Keeps W1 w2→w2.there w.heap.size 0 (tlc (tlOut n)).toArray.size):=fun w2 h=>there_blk (b1.fr h id) (zeroT_size.trans (tlc_len _).symm)
 have FIN:Hid (∀w2,Keeps W1 w2→Blk (w2.setCells w.heap.size 0 (tlc (tlOut n)).toArray.toList) w.heap.size (tlc (tlOut n)).toArray 202∧Keeps w (w2.setCells w.heap.size 0 (tlc (tlOut n)).toArray.toList)):=fun w2 h =>
  ⟨blk_setCells (tlc (tlOut n)) [] zeroT.toList (b1.fr h id) (zeroT_size.trans (tlc_len _).symm),fr_setCells _ _ (K1.trans h) (Or.inr (Nat.le_refl _))⟩
 have IB:Hid ((Tryz.prog.info? 202).map (·.size)=some (tlc (tlOut n)).toArray.size):=by rw [List.size_toArray,tlc_len]; exact infoTally
 have ON:Hid ((tlc (tlOut n)).toArray.all (·.oneCell')=true):=all_oneCell_toArray (tlc_one _)
 have TL:=hide (tlc_len (tlOut n))
 have HW1:=hide hW1
 clear K1 b1 hv hW1
 generalize tlc (tlOut n)=cs at *
 go_enter Tryz.func105,Tryz.ntmps105
 apply wp_seq_k; intro K0 hK0
 apply wp_region_lit
 refine wpList_allocTo rfl 202 rfl (some 4) rfl w.heap.size rfl (.agg zeroT) zeroTally zeroT rfl ?_
 apply wpList_nil
 refine hK0 _ _ ?_
 clear K0 hK0
 rw [← HW1.out]
 simp only [Act.put,List.setIfInBounds_toArray,List.set_cons_zero,List.set_cons_succ]
 go_wp2_with fail
 refine OUT.out.mono ?_
 rintro r w2 ⟨rfl,hk2⟩
 have T2:=hide (TH.out w2 hk2)
 have F2:=hide (FIN.out w2 hk2)
 clear hk2
 go_wp2_with (refine wpList_store_mid rfl 202 (.tmp 4) (.tmp 10) rfl w.heap.size 0 cs.toArray rfl rfl T2.out IB.out ON.out ?_)
 exact ret_ty rfl rfl F2.out.1 TL.out ⟨rfl,F2.out.2⟩
set_option linter.unusedSimpArgs false in
set_option maxHeartbeats 4000000 in
set_option maxRecDepth 100000 in
theorem f_tally1 {w:World} {f b:Nat} {tt:ByteArray} {xs:List Sg} {c1 c2 c3 c4 c5 tsv c7 c8:Value} (hB:Blk w f (fwc (.pointer (some ⟨b,0,none⟩)) c1 c2 c3 c4 c5 tsv c7 c8) 170) (hp:∀W,Keeps w W→PlanV W b tt xs) (hx:xs.length≤10) (hsel:selN xs≤10) {pre:List (List Ct)} {tl:List Ct} (hpl:pre.length≤100) (ho:w.ownsRow 0 202 22 tsv (pre.length+1) (pre.flatMap tlc++tlc tl)) {d:Nat} (hb:CtB xs d tl) (hd:d≤8) {vb pb:Nat} {c:Tv} {pk i L:Nat} {svp:Value} (hv:VAt w vb pb c pk i svp)
 (hlate:∀k (h:k<xs.length),0<(if xs[k].deep=true then (ctAt tl k).al else (ctAt tl k).its)→LateOk w xs[k].l vb c L svp) :
 Calls Tryz.prog 105 #[.pointer (some ⟨f,0,none⟩),.pointer (some ⟨vb,0,none⟩)] w fun r w'=>r=.returned (.agg (tlc (tlOf xs pk L i c tl)).toArray)∧Keeps w w':=by
 obtain ⟨g,cap,rfl,_,hgl⟩:=ho.form (by omega)
 obtain ⟨m,hm⟩:∃m,m=pre.length:=⟨_,rfl⟩
 have hlen:(pre.flatMap tlc).length=m * 22:=by rw [hm]; exact tls_len pre
 rw [← hm] at ho
 have hmm:(m:Int)<(m:Int)+1:=by omega
 have hwm:IntKind.i64.wrap (m:Int)=m:=by rw [IntWalk.i64_in _ (by omega)]
 obtain ⟨W1,hW1⟩:∃W1,W1=w.alloc (.cells zeroT 202):=⟨_,rfl⟩
 have K1:Keeps w W1:=by rw [hW1]; exact (Fr.refl _ w).alloc _
 have b1:Blk W1 w.heap.size zeroT 202:=by rw [hW1]; exact Blk.new w _ _
 have cv5:W1.cell? ⟨vb,5,none⟩=some (.pointer (some ⟨pb,0,none⟩)):=by
  obtain ⟨⟨svc,hc⟩,_,_⟩:=hv
  exact (hc.fr K1 id).cell 5
 have SS:Hid (∀W,Keeps W1 W→W.cell? ⟨f,0,none⟩=some (.pointer (some ⟨b,0,none⟩))∧W.cell? ⟨f,6,none⟩=some (.slice (some ⟨g,0,none⟩) (m+1) cap)∧W.rangeAt g (m * 22) (tlc tl)):=fun W hW=>by
  have k:=K1.trans hW
  refine ⟨(hB.fr k id).cell 0,by rw [(hB.fr k id).cell 6,hm]; rfl,fun j v hj=>?_⟩
  have hj2:j<22:=by have:=(List.getElem?_eq_some_iff.1 hj).1; rw [tlc_len] at this; exact this
  rw [k.cell (p:=⟨g,m * 22+j,none⟩) hgl id,ho.cellAt (m * 22+j) (by omega),List.getElem?_append_right (by omega),hlen]
  rw [show m * 22+j - m * 22=j by omega]
  exact hj
 have SST:Hid (∀w2,Keeps W1 w2→∀cs:Array Value,(w2.setCells w.heap.size 0 cs.toList).cell? ⟨f,0,none⟩=some (.pointer (some ⟨b,0,none⟩))∧(w2.setCells w.heap.size 0 cs.toList).cell? ⟨f,6,none⟩=some (.slice (some ⟨g,0,none⟩) (m+1) cap)∧(w2.setCells w.heap.size 0 cs.toList).rangeAt g (m * 22) (tlc tl)):=fun w2 h2 cs=>by
  have hfl:=hB.lt
  have h3:Fr (fun k=>k=w.heap.size) w2 (w2.setCells w.heap.size 0 cs.toList):=fr_setCells _ _ (Fr.refl _ _) (Or.inl rfl)
  have s:=SS.out w2 h2
  have hz:w.heap.size≤w2.heap.size:=(K1.trans h2).size
  refine ⟨(h3.cell (p:=⟨f,0,none⟩) (by show f<_; omega) (by show f≠_; omega)).trans s.1,(h3.cell (p:=⟨f,6,none⟩) (by show f<_; omega) (by show f≠_; omega)).trans s.2.1,fun j v hj=>?_⟩
  exact (h3.cell (p:=⟨g,m * 22+j,none⟩) (by show g<_; omega) (by show g≠_; omega)).trans (s.2.2 j v hj)
 have CALL:Hid (Calls Tryz.prog 143 #[.pointer (some ⟨b,0,none⟩),.pointer (some ⟨vb,0,none⟩),.agg (tlc tl).toArray] W1.drew fun r w'=>r=.returned (.agg (tlc (tlOf xs pk L i c tl)).toArray)∧Keeps W1 w'):=by
  have k:Keeps w W1.drew:=K1.drewN 1
  exact (p_tallyOf (hp _ k) hx hsel hb hd (hv.keep k) (fun j hj h0=>(hlate j hj h0).keep k)).mono (fun r w' ⟨q1,q2⟩=>⟨q1,((Fr.refl _ W1).drewN 1).trans q2⟩)
 generalize tlOf xs pk L i c tl=tl' at *
 have TH:Hid (∀w2,Keeps W1 w2→w2.there w.heap.size 0 (tlc tl').toArray.size):=fun w2 h=>there_blk (b1.fr h id) (zeroT_size.trans (tlc_len _).symm)
 have FIN:Hid (∀w2,Keeps W1 w2→Blk (w2.setCells w.heap.size 0 (tlc tl').toArray.toList) w.heap.size (tlc tl').toArray 202∧Keeps w (w2.setCells w.heap.size 0 (tlc tl').toArray.toList)):=fun w2 h =>
  ⟨blk_setCells (tlc tl') [] zeroT.toList (b1.fr h id) (zeroT_size.trans (tlc_len _).symm),fr_setCells _ _ (K1.trans h) (Or.inr (Nat.le_refl _))⟩
 have IA:Hid ((Tryz.prog.info? 202).map (·.size)=some (tlc tl).length):=by rw [tlc_len]; exact infoTally
 have IB:Hid ((Tryz.prog.info? 202).map (·.size)=some (tlc tl').toArray.size):=by rw [List.size_toArray,tlc_len]; exact infoTally
 have ON:Hid ((tlc tl').toArray.all (·.oneCell')=true):=all_oneCell_toArray (tlc_one _)
 have TL:=hide (tlc_len tl')
 have HW1:=hide hW1
 clear K1 b1 hv hW1 hlate hp hsel hb ho hlen hB hm
 generalize tlc tl'=cs at *
 generalize tlc tl=ct at *
 go_enter Tryz.func105,Tryz.ntmps105
 apply wp_seq_k; intro K0 hK0
 apply wp_region_lit
 refine wpList_allocTo rfl 202 rfl (some 4) rfl w.heap.size rfl (.agg zeroT) zeroTally zeroT rfl ?_
 apply wpList_nil
 refine hK0 _ _ ?_
 clear K0 hK0
 rw [← HW1.out]
 simp only [Act.put,List.setIfInBounds_toArray,List.set_cons_zero,List.set_cons_succ]
 go_wp2
 refine wp_region_held_drew (S:=fun w'=>w'.cell? ⟨f,0,none⟩=some (.pointer (some ⟨b,0,none⟩))∧w'.cell? ⟨f,6,none⟩=some (.slice (some ⟨g,0,none⟩) (m+1) cap)∧w'.rangeAt g (m * 22) ct) (by kernel_rfl) (SS.out W1.drew ((Fr.refl _ _).drewN 1)) (fun _=>?_)
 refine wpAnyH_take (i:=0) (v:=?v1) rfl (by kernel_rfl) (by kernel_rfl) (by kernel_rfl) (fun _ _ _ h=>h) (Or.inl ⟨by rfl,?hy1⟩) (by assumption) ?rest1
 case hy1=>(intro w hSw; (try dsimp only at hSw); (obtain ⟨hs0,hs1,_⟩:=hSw; (go_simp<;>with_reducible rfl)))
 try simp only [Act.put,List.setIfInBounds_toArray,List.set_cons_zero,List.set_cons_succ]
 refine wpAnyH_take (i:=1) (v:=?v2) rfl (by kernel_rfl) (by kernel_rfl) (by kernel_rfl) (fun _ _ _ h=>h) (Or.inl ⟨by rfl,?hy2⟩) (by assumption) ?rest2
 case hy2=>(intro w hSw; (try dsimp only at hSw); (obtain ⟨hs0,hs1,_⟩:=hSw; (go_simp<;>with_reducible rfl)))
 try simp only [Act.put,List.setIfInBounds_toArray,List.set_cons_zero,List.set_cons_succ]
 refine wpAnyH_take (i:=2) (v:=?v3) rfl (by kernel_rfl) (by kernel_rfl) (by kernel_rfl) (fun _ _ _ h=>h) (Or.inl ⟨by rfl,?hy3⟩) (by assumption) ?rest3
 case hy3=>(intro w hSw; (try dsimp only at hSw); (obtain ⟨hs0,hs1,_⟩:=hSw; (go_simp<;>with_reducible rfl)))
 try simp only [Act.put,List.setIfInBounds_toArray,List.set_cons_zero,List.set_cons_succ]
 refine wpAnyH_take (i:=3) (v:=?v4) rfl (by kernel_rfl) (by kernel_rfl) (by kernel_rfl) (fun _ _ _ h=>h) (Or.inl ⟨by rfl,?hy4⟩) (by assumption) ?rest4
 case hy4=>(intro w hSw; (try dsimp only at hSw); (obtain ⟨hs0,hs1,_⟩:=hSw; (go_simp<;>with_reducible rfl)))
 try simp only [Act.put,List.setIfInBounds_toArray,List.set_cons_zero,List.set_cons_succ]
 refine wpAnyH_take (i:=4) (v:=?v5) rfl (by kernel_rfl) (by kernel_rfl) (by kernel_rfl) (fun _ _ _ h=>h) (Or.inl ⟨by rfl,?hy5⟩) (by assumption) ?rest5
 case hy5=>(intro w hSw; (try dsimp only at hSw); (obtain ⟨hs0,hs1,_⟩:=hSw; (go_simp<;>with_reducible rfl)))
 try simp only [Act.put,List.setIfInBounds_toArray,List.set_cons_zero,List.set_cons_succ]
 refine wpAnyH_take (i:=5) (v:=?v6) rfl (by kernel_rfl) (by kernel_rfl) (by kernel_rfl) (fun _ _ _ h=>h) (Or.inl ⟨by rfl,?hy6⟩) (by assumption) ?rest6
 case hy6=>(intro w hSw; (try dsimp only at hSw); (obtain ⟨hs0,hs1,_⟩:=hSw; (go_simp<;>with_reducible rfl)))
 try simp only [Act.put,List.setIfInBounds_toArray,List.set_cons_zero,List.set_cons_succ]
 refine wpAnyH_take (i:=6) (v:=?v7) rfl (by kernel_rfl) (by kernel_rfl) (by kernel_rfl) (fun _ _ _ h=>h) (Or.inl ⟨by rfl,?hy7⟩) (by assumption) ?rest7
 case hy7=>(intro w hSw; (try dsimp only at hSw); (obtain ⟨hs0,hs1,_⟩:=hSw; (go_simp<;>with_reducible rfl)))
 try simp only [Act.put,List.setIfInBounds_toArray,List.set_cons_zero,List.set_cons_succ]
 refine wpAnyH_take (i:=7) (v:=?v8) rfl (by kernel_rfl) (by kernel_rfl) (by kernel_rfl) (fun _ _ _ h=>h) (Or.inl ⟨by rfl,?hy8⟩) (by assumption) ?rest8
 case hy8=>(intro w hSw; (try dsimp only at hSw); (obtain ⟨hs0,hs1,_⟩:=hSw; (go_simp<;>with_reducible rfl)))
 try simp only [Act.put,List.setIfInBounds_toArray,List.set_cons_zero,List.set_cons_succ]
 refine wpAnyH_take (i:=8) (v:=?v9) rfl (by kernel_rfl) (by kernel_rfl) (by kernel_rfl) (fun _ _ _ h=>h) (Or.inl ⟨by rfl,?hy9⟩) (by assumption) ?rest9
 case hy9=>(intro w hSw; (try dsimp only at hSw); (obtain ⟨hs0,hs1,_⟩:=hSw; (go_simp<;>with_reducible rfl)))
 try simp only [Act.put,List.setIfInBounds_toArray,List.set_cons_zero,List.set_cons_succ]
 refine wpAnyH_take (i:=9) (v:=?v10) rfl (by kernel_rfl) (by kernel_rfl) (by kernel_rfl) (fun _ _ _ h=>h) (Or.inl ⟨by rfl,?hy10⟩) (by assumption) ?rest10
 case hy10=>(intro w hSw; (try dsimp only at hSw); (obtain ⟨hs0,hs1,_⟩:=hSw; (go_simp<;>with_reducible rfl)))
 try simp only [Act.put,List.setIfInBounds_toArray,List.set_cons_zero,List.set_cons_succ]
 refine wpAnyH_take (i:=10) (v:=?v11) rfl (by kernel_rfl) (by kernel_rfl) (by kernel_rfl) (fun _ _ _ h=>h) (Or.inl ⟨by rfl,?hy11⟩) (by assumption) ?rest11
 case hy11=>(intro w hSw; (try dsimp only at hSw); (obtain ⟨hs0,hs1,_⟩:=hSw; (go_simp<;>with_reducible rfl)))
 try simp only [Act.put,List.setIfInBounds_toArray,List.set_cons_zero,List.set_cons_succ]
 refine wpAnyH_take (i:=11) (v:=?v12) rfl (by kernel_rfl) (by kernel_rfl) (by kernel_rfl) (fun _ _ _ h=>h) (Or.inl ⟨by rfl,?hy12⟩) (by assumption) ?rest12
 case hy12=>(intro w hSw; (try dsimp only at hSw); (obtain ⟨hs0,hs1,_⟩:=hSw; (go_simp<;>with_reducible rfl)))
 try simp only [Act.put,List.setIfInBounds_toArray,List.set_cons_zero,List.set_cons_succ]
 refine wpAnyH_take (i:=12) (v:=?v13) rfl (by kernel_rfl) (by kernel_rfl) (by kernel_rfl) (fun _ _ _ h=>h) (Or.inl ⟨by rfl,?hy13⟩) (by assumption) ?rest13
 case hy13=>(intro w hSw; (try dsimp only at hSw); (obtain ⟨hs0,hs1,_⟩:=hSw; (go_simp<;>with_reducible rfl)))
 try simp only [Act.put,List.setIfInBounds_toArray,List.set_cons_zero,List.set_cons_succ]
 refine wpAnyH_take (i:=13) (v:=?v14) rfl (by kernel_rfl) (by kernel_rfl) (by kernel_rfl) (fun _ _ _ h=>h) (Or.inl ⟨by rfl,?hy14⟩) (by assumption) ?rest14
 case hy14=>(intro w hSw; (try dsimp only at hSw); (obtain ⟨hs0,hs1,_⟩:=hSw; (go_simp<;>with_reducible rfl)))
 try simp only [Act.put,List.setIfInBounds_toArray,List.set_cons_zero,List.set_cons_succ]
 refine wpAnyH_take (i:=14) (v:=?v15) rfl (by kernel_rfl) (by kernel_rfl) (by kernel_rfl) (fun _ _ _ h=>h) (Or.inl ⟨by rfl,?hy15⟩) (by assumption) ?rest15
 case hy15=>(intro w hSw; (try dsimp only at hSw); (obtain ⟨hs0,hs1,_⟩:=hSw; (go_simp<;>with_reducible rfl)))
 try simp only [Act.put,List.setIfInBounds_toArray,List.set_cons_zero,List.set_cons_succ]
 refine wpAnyH_take (i:=15) (v:=?v16) rfl (by kernel_rfl) (by kernel_rfl) (by kernel_rfl) (fun _ _ _ h=>h) (Or.inl ⟨by rfl,?hy16⟩) (by assumption) ?rest16
 case hy16=>(intro w hSw; (try dsimp only at hSw); (obtain ⟨hs0,hs1,_⟩:=hSw; (go_simp<;>with_reducible rfl)))
 try simp only [Act.put,List.setIfInBounds_toArray,List.set_cons_zero,List.set_cons_succ]
 refine wpAnyH_take (i:=16) (v:=.agg ct.toArray) rfl (by kernel_rfl) (by kernel_rfl) (by kernel_rfl) (fun _ _ _ h=>h) ?hyL (by assumption) ?restL
 case hyL=>exact yieldsIf_load_mid (by rfl) 202 (.tmp 26) rfl g (m * 22) (by kernel_rfl) ct (.array 11 200) (fun w hS=>hS.2.2) (by kernel_rfl) rfl IA.out
 try simp only [Act.put,List.setIfInBounds_toArray,List.set_cons_zero,List.set_cons_succ]
 refine wpAnyH_ready (rs:=[17]) (by kernel_rfl) (by simp) ?_
 refine AllReadyH.cons rfl (fun K hK=>?_) AllReadyH.nil
 go_simp
 refine CALL.out.mono ?_
 rintro r w2 ⟨rfl,hk2⟩
 have K2:=hide hk2
 refine hK.out _ _ (SS.out w2 hk2) (fun _=>?_)
 clear hK K hk2
 try simp only [Act.put,List.setIfInBounds_toArray,List.set_cons_zero,List.set_cons_succ]
 refine wpAnyH_ready (rs:=[18]) (by kernel_rfl) (by simp) ?_
 refine AllReadyH.cons rfl (fun K hK=>?_) AllReadyH.nil
 rw [if_pos (by rfl)]
 refine wp_store_mid 202 (.tmp 4) (.tmp 28) rfl w.heap.size 0 cs.toArray rfl rfl (TH.out w2 K2.out) IB.out ON.out ?_
 refine hK.out _ _ (SST.out w2 K2.out cs.toArray) (fun _=>?_)
 clear hK K
 try simp only [Act.put,List.setIfInBounds_toArray,List.set_cons_zero,List.set_cons_succ]
 refine wpAnyH_done (by kernel_rfl) ?_ _
 have F2:=hide (FIN.out w2 K2.out)
 go_wp2
 exact ret_ty rfl rfl F2.out.1 TL.out ⟨rfl,F2.out.2⟩
end Go.Proofs.YtcbadebjpogmlaaGreatDoor
namespace Go.Proofs.YtcbadebjpogmlaaGreatDoor
open Go.RowKit Tr
theorem infoVal:(Tryz.prog.info? 130).map (·.size)=some 9:=by kernel_rfl
theorem neq_same (w:World) (vb:Nat):(binOp .neq 71 (.pointer (some ⟨vb,0,none⟩)) (.pointer (some ⟨vb,0,none⟩))).run Tryz.prog w=.ok (.bool false) w:=by
 obtain ⟨j,hj,_⟩:=Option.map_eq_some_iff.1 infoVal
 have h:∀d:Nat,(Op.equalIn (d+1) 71 (.pointer (some ⟨vb,0,none⟩)) (.pointer (some ⟨vb,0,none⟩))).run Tryz.prog w=.ok true w:=fun d=>by
  simp [Op.equalIn,run_underlying Tryz.underlying71,sizeOf,typeInfo,hj,run_sameAddr_same]
 simp only [binOp]
 simp [Op.equal,Op.maxDepth,h 9999]
theorem neq_other (w:World) {hb vb:Nat} {ca cb:Array Value} {ta tb:TypeId} (hne:hb≠vb) (h1:Blk w hb ca ta) (h2:Blk w vb cb tb):(binOp .neq 71 (.pointer (some ⟨hb,0,none⟩)) (.pointer (some ⟨vb,0,none⟩))).run Tryz.prog w=.ok (.bool true) w:=by
 obtain ⟨j,hj,hs⟩:=Option.map_eq_some_iff.1 infoVal
 have hsz:j.size≠0:=by rw [hs]; decide
 have h:∀d:Nat,(Op.equalIn (d+1) 71 (.pointer (some ⟨hb,0,none⟩)) (.pointer (some ⟨vb,0,none⟩))).run Tryz.prog w=.ok false w:=fun d=>by
  simp [Op.equalIn,run_underlying Tryz.underlying71,sizeOf,typeInfo,hj,hsz,run_sameAddr_other w (a:=⟨hb,0,none⟩) (b:=⟨vb,0,none⟩) (fun e=>hne (by injection e)) h1 h2]
 simp only [binOp]
 simp [Op.equal,Op.maxDepth,h 9999]
set_option maxRecDepth 100000 in
theorem f_closed0 {w:World} {f hb vb:Nat} {c0 c1 c2 c3 c4 c5 c6 c8:Value} (hB:Blk w f (fwc c0 c1 c2 c3 c4 c5 c6 (vpt hb) c8) 170) (hne:hb≠vb) {ca cb:Array Value} {ta tb:TypeId} (h1:Blk w hb ca ta) (h2:Blk w vb cb tb) :
 Calls Tryz.prog 78 #[.pointer (some ⟨f,0,none⟩),.pointer (some ⟨vb,0,none⟩)] w fun r w'=>r=.returned (.tuple #[])∧Keeps w w':=by
 have c7:w.cell? ⟨f,7,none⟩=some (.pointer (some ⟨hb,0,none⟩)):=hB.cell 7
 have hcmp:=neq_other w hne h1 h2
 clear hB h1 h2 hne
 go_enter Tryz.func78,Tryz.ntmps78
 go_wp2
 (try simp only [Exit.inBlock,Exit.then]); refine bodyPost_ret (results_none rfl _ _ _) rfl ?_
 exact ⟨rfl,Fr.refl _ _⟩
set_option linter.unusedSimpArgs false in
set_option maxHeartbeats 8000000 in
set_option maxRecDepth 100000 in
theorem f_closed1 {w:World} {f b vb g m cap:Nat} {c1 c2 c3 c4 c5 hold osv:Value} {ct:List Value} (hB:Blk w f (fwc (.pointer (some ⟨b,0,none⟩)) c1 c2 c3 c4 c5 (.slice (some ⟨g,0,none⟩) (m+1) cap) hold osv) 170) (hh:hold=.pointer none∨hold=.pointer (some ⟨vb,0,none⟩)) (hm:m≤100) (hcap:m+1≤cap) (hr:w.rangeAt g (m * 22) ct) (hl:ct.length=22) {Q:Value→World→Prop}
 (hcnt:Calls Tryz.prog 108 #[.pointer (some ⟨b,0,none⟩),.pointer (some ⟨vb,0,none⟩),.agg ct.toArray,.func (.func 109) #[.pointer (some ⟨f,0,none⟩)] #[]] w.drew fun r w'=>r=.returned (.tuple #[])∧∃osv',Blk w' f (fwc (.pointer (some ⟨b,0,none⟩)) c1 c2 c3 c4 c5 (.slice (some ⟨g,0,none⟩) (m+1) cap) hold osv') 170∧w'.rangeAt g (m * 22) ct∧Q osv' w') :
 Calls Tryz.prog 78 #[.pointer (some ⟨f,0,none⟩),.pointer (some ⟨vb,0,none⟩)] w fun r w'=>r=.returned (.tuple #[])∧∃w1 osv',Q osv' w1∧Blk w' f (fwc (.pointer (some ⟨b,0,none⟩)) c1 c2 c3 c4 c5 (.slice (some ⟨g,0,none⟩) m cap) (.pointer none) osv') 170∧Fr (fun k=>k=f) w1 w':=by
 have d7:w.cell? ⟨f,7,none⟩=some hold:=hB.cell 7
 have d6:w.cell? ⟨f,6,none⟩=some (.slice (some ⟨g,0,none⟩) (m+1) cap):=hB.cell 6
 have d0:w.cell? ⟨f,0,none⟩=some (.pointer (some ⟨b,0,none⟩)):=hB.cell 0
 have SS:Hid (w.drew.cell? ⟨f,0,none⟩=some (.pointer (some ⟨b,0,none⟩))∧w.drew.cell? ⟨f,6,none⟩=some (.slice (some ⟨g,0,none⟩) (m+1) cap)∧w.drew.rangeAt g (m * 22) ct):=⟨d0,d6,hr⟩
 have CNT:=hide hcnt
 have NXT:Hid (∀w1 osv',Blk w1 f (fwc (.pointer (some ⟨b,0,none⟩)) c1 c2 c3 c4 c5 (.slice (some ⟨g,0,none⟩) (m+1) cap) hold osv') 170→w1.rangeAt g (m * 22) ct→Q osv' w1 →
  (w1.cell? ⟨f,0,none⟩=some (.pointer (some ⟨b,0,none⟩))∧w1.cell? ⟨f,6,none⟩=some (.slice (some ⟨g,0,none⟩) (m+1) cap)∧w1.rangeAt g (m * 22) ct)∧(∀i,w1.frozen? ⟨f,i,none⟩=false)∧(∀i,(w1.setCell ⟨f,6,none⟩ (.slice (some ⟨g,0,none⟩) m cap)).frozen? ⟨f,i,none⟩=false)∧(w1.setCell ⟨f,6,none⟩ (.slice (some ⟨g,0,none⟩) m cap)).cell? ⟨f,7,none⟩=some hold ∧
  ∃w2 osv',Q osv' w2∧Blk ((w1.setCell ⟨f,6,none⟩ (.slice (some ⟨g,0,none⟩) m cap)).setCell ⟨f,7,none⟩ (.pointer none)) f (fwc (.pointer (some ⟨b,0,none⟩)) c1 c2 c3 c4 c5 (.slice (some ⟨g,0,none⟩) m cap) (.pointer none) osv') 170∧Fr (fun k=>k=f) w2 ((w1.setCell ⟨f,6,none⟩ (.slice (some ⟨g,0,none⟩) m cap)).setCell ⟨f,7,none⟩ (.pointer none))):=fun w1 osv' q1 q2 q3=>by
  have b2:=q1.set 6 (.slice (some ⟨g,0,none⟩) m cap)
  exact ⟨⟨q1.cell 0,q1.cell 6,q2⟩,q1.fz,b2.fz,b2.cell 7,w1,osv',q3,b2.set 7 _,((Fr.refl (fun k=>k=f) w1).setCell ⟨f,6,none⟩ (Or.inl rfl) _).setCell ⟨f,7,none⟩ (Or.inl rfl) _⟩
 have hmm:(m:Int)<(m:Int)+1:=by omega
 have hwm:IntKind.i64.wrap (m:Int)=m:=by rw [IntWalk.i64_in _ (by omega)]
 have hmc:(m:Int)≤(cap:Int):=by omega
 have hm0:(0:Int)≤(m:Int):=by omega
 have hcmp:=neq_same w vb
 have IA:Hid ((Tryz.prog.info? 202).map (·.size)=some ct.length):=by rw [hl]; exact infoTally
 clear hB hcnt hr hl
 rcases hh with rfl | rfl
 ·go_enter Tryz.func78,Tryz.ntmps78
  go_wp2
  refine wp_region_held_drew (S:=fun w'=>w'.cell? ⟨f,0,none⟩=some (.pointer (some ⟨b,0,none⟩))∧w'.cell? ⟨f,6,none⟩=some (.slice (some ⟨g,0,none⟩) (m+1) cap)∧w'.rangeAt g (m * 22) ct) (by kernel_rfl) SS.out (fun _=>?_)
  refine wpAnyH_take (i:=0) (v:=?v1) rfl (by kernel_rfl) (by kernel_rfl) (by kernel_rfl) (fun _ _ _ h=>h) (Or.inl ⟨by rfl,?hy1⟩) (by assumption) ?rest1
  case hy1=>(intro w hSw; (try dsimp only at hSw); (obtain ⟨hs0,hs6,_⟩:=hSw; (go_simp<;>with_reducible rfl)))
  try simp only [Act.put,List.setIfInBounds_toArray,List.set_cons_zero,List.set_cons_succ]
  refine wpAnyH_take (i:=1) (v:=?v2) rfl (by kernel_rfl) (by kernel_rfl) (by kernel_rfl) (fun _ _ _ h=>h) (Or.inl ⟨by rfl,?hy2⟩) (by assumption) ?rest2
  case hy2=>(intro w hSw; (try dsimp only at hSw); (obtain ⟨hs0,hs6,_⟩:=hSw; (go_simp<;>with_reducible rfl)))
  try simp only [Act.put,List.setIfInBounds_toArray,List.set_cons_zero,List.set_cons_succ]
  refine wpAnyH_take (i:=2) (v:=?v3) rfl (by kernel_rfl) (by kernel_rfl) (by kernel_rfl) (fun _ _ _ h=>h) (Or.inl ⟨by rfl,?hy3⟩) (by assumption) ?rest3
  case hy3=>(intro w hSw; (try dsimp only at hSw); (obtain ⟨hs0,hs6,_⟩:=hSw; (go_simp<;>with_reducible rfl)))
  try simp only [Act.put,List.setIfInBounds_toArray,List.set_cons_zero,List.set_cons_succ]
  refine wpAnyH_take (i:=3) (v:=?v4) rfl (by kernel_rfl) (by kernel_rfl) (by kernel_rfl) (fun _ _ _ h=>h) (Or.inl ⟨by rfl,?hy4⟩) (by assumption) ?rest4
  case hy4=>(intro w hSw; (try dsimp only at hSw); (obtain ⟨hs0,hs6,_⟩:=hSw; (go_simp<;>with_reducible rfl)))
  try simp only [Act.put,List.setIfInBounds_toArray,List.set_cons_zero,List.set_cons_succ]
  refine wpAnyH_take (i:=4) (v:=?v5) rfl (by kernel_rfl) (by kernel_rfl) (by kernel_rfl) (fun _ _ _ h=>h) (Or.inl ⟨by rfl,?hy5⟩) (by assumption) ?rest5
  case hy5=>(intro w hSw; (try dsimp only at hSw); (obtain ⟨hs0,hs6,_⟩:=hSw; (go_simp<;>with_reducible rfl)))
  try simp only [Act.put,List.setIfInBounds_toArray,List.set_cons_zero,List.set_cons_succ]
  refine wpAnyH_take (i:=5) (v:=?v6) rfl (by kernel_rfl) (by kernel_rfl) (by kernel_rfl) (fun _ _ _ h=>h) (Or.inl ⟨by rfl,?hy6⟩) (by assumption) ?rest6
  case hy6=>(intro w hSw; (try dsimp only at hSw); (obtain ⟨hs0,hs6,_⟩:=hSw; (go_simp<;>with_reducible rfl)))
  try simp only [Act.put,List.setIfInBounds_toArray,List.set_cons_zero,List.set_cons_succ]
  refine wpAnyH_take (i:=6) (v:=?v7) rfl (by kernel_rfl) (by kernel_rfl) (by kernel_rfl) (fun _ _ _ h=>h) (Or.inl ⟨by rfl,?hy7⟩) (by assumption) ?rest7
  case hy7=>(intro w hSw; (try dsimp only at hSw); (obtain ⟨hs0,hs6,_⟩:=hSw; (go_simp<;>with_reducible rfl)))
  try simp only [Act.put,List.setIfInBounds_toArray,List.set_cons_zero,List.set_cons_succ]
  refine wpAnyH_take (i:=7) (v:=?v8) rfl (by kernel_rfl) (by kernel_rfl) (by kernel_rfl) (fun _ _ _ h=>h) (Or.inl ⟨by rfl,?hy8⟩) (by assumption) ?rest8
  case hy8=>(intro w hSw; (try dsimp only at hSw); (obtain ⟨hs0,hs6,_⟩:=hSw; (go_simp<;>with_reducible rfl)))
  try simp only [Act.put,List.setIfInBounds_toArray,List.set_cons_zero,List.set_cons_succ]
  refine wpAnyH_take (i:=8) (v:=?v9) rfl (by kernel_rfl) (by kernel_rfl) (by kernel_rfl) (fun _ _ _ h=>h) (Or.inl ⟨by rfl,?hy9⟩) (by assumption) ?rest9
  case hy9=>(intro w hSw; (try dsimp only at hSw); (obtain ⟨hs0,hs6,_⟩:=hSw; (go_simp<;>with_reducible rfl)))
  try simp only [Act.put,List.setIfInBounds_toArray,List.set_cons_zero,List.set_cons_succ]
  refine wpAnyH_take (i:=9) (v:=?v10) rfl (by kernel_rfl) (by kernel_rfl) (by kernel_rfl) (fun _ _ _ h=>h) (Or.inl ⟨by rfl,?hy10⟩) (by assumption) ?rest10
  case hy10=>(intro w hSw; (try dsimp only at hSw); (obtain ⟨hs0,hs6,_⟩:=hSw; (go_simp<;>with_reducible rfl)))
  try simp only [Act.put,List.setIfInBounds_toArray,List.set_cons_zero,List.set_cons_succ]
  refine wpAnyH_take (i:=10) (v:=?v11) rfl (by kernel_rfl) (by kernel_rfl) (by kernel_rfl) (fun _ _ _ h=>h) (Or.inl ⟨by rfl,?hy11⟩) (by assumption) ?rest11
  case hy11=>(intro w hSw; (try dsimp only at hSw); (obtain ⟨hs0,hs6,_⟩:=hSw; (go_simp<;>with_reducible rfl)))
  try simp only [Act.put,List.setIfInBounds_toArray,List.set_cons_zero,List.set_cons_succ]
  refine wpAnyH_take (i:=11) (v:=.agg ct.toArray) rfl (by kernel_rfl) (by kernel_rfl) (by kernel_rfl) (fun _ _ _ h=>h) ?hy12 (by assumption) ?rest12
  case hy12=>exact yieldsIf_load_mid (by rfl) 202 (.tmp 34) rfl g (m * 22) (by kernel_rfl) ct (.array 11 200) (fun w hS=>hS.2.2) (by kernel_rfl) rfl IA.out
  try simp only [Act.put,List.setIfInBounds_toArray,List.set_cons_zero,List.set_cons_succ]
  refine wpAnyH_take (i:=12) (v:=?v13) rfl (by kernel_rfl) (by kernel_rfl) (by kernel_rfl) (fun _ _ _ h=>h) (Or.inl ⟨by rfl,?hy13⟩) (by assumption) ?rest13
  case hy13=>(intro w hSw; (try dsimp only at hSw); (obtain ⟨hs0,hs6,_⟩:=hSw; (go_simp<;>with_reducible rfl)))
  try simp only [Act.put,List.setIfInBounds_toArray,List.set_cons_zero,List.set_cons_succ]
  refine wpAnyH_take (i:=13) (v:=?v14) rfl (by kernel_rfl) (by kernel_rfl) (by kernel_rfl) (fun _ _ _ h=>h) (Or.inl ⟨by rfl,?hy14⟩) (by assumption) ?rest14
  case hy14=>(intro w hSw; (try dsimp only at hSw); (obtain ⟨hs0,hs6,_⟩:=hSw; (go_simp<;>with_reducible rfl)))
  try simp only [Act.put,List.setIfInBounds_toArray,List.set_cons_zero,List.set_cons_succ]
  refine wpAnyH_ready (rs:=[14]) (by kernel_rfl) (by simp) ?_
  refine AllReadyH.cons rfl (fun K hK=>?_) AllReadyH.nil
  go_simp
  refine CNT.out.mono ?_
  rintro r w1 ⟨rfl,osv',q1,q2,q3⟩
  obtain ⟨s1,fz1,fz2,e7,fin⟩:=NXT.out w1 osv' q1 q2 q3
  have e6:=s1.2.1
  have S1:=hide s1
  have FINAL:=hide fin
  clear q1 q2 q3 s1 fin
  refine hK.out _ _ S1.out (fun _=>?_)
  clear hK K
  try simp only [Act.put,List.setIfInBounds_toArray,List.set_cons_zero,List.set_cons_succ]
  refine wpAnyH_done (by kernel_rfl) ?_ _
  go_wp2
  go_end0
  exact ⟨rfl,FINAL.out⟩
 go_enter Tryz.func78,Tryz.ntmps78
 go_wp2
 refine wp_region_held_drew (S:=fun w'=>w'.cell? ⟨f,0,none⟩=some (.pointer (some ⟨b,0,none⟩))∧w'.cell? ⟨f,6,none⟩=some (.slice (some ⟨g,0,none⟩) (m+1) cap)∧w'.rangeAt g (m * 22) ct) (by kernel_rfl) SS.out (fun _=>?_)
 refine wpAnyH_take (i:=0) (v:=?v15) rfl (by kernel_rfl) (by kernel_rfl) (by kernel_rfl) (fun _ _ _ h=>h) (Or.inl ⟨by rfl,?hy15⟩) (by assumption) ?rest15
 case hy15=>(intro w hSw; (try dsimp only at hSw); (obtain ⟨hs0,hs6,_⟩:=hSw; (go_simp<;>with_reducible rfl)))
 try simp only [Act.put,List.setIfInBounds_toArray,List.set_cons_zero,List.set_cons_succ]
 refine wpAnyH_take (i:=1) (v:=?v16) rfl (by kernel_rfl) (by kernel_rfl) (by kernel_rfl) (fun _ _ _ h=>h) (Or.inl ⟨by rfl,?hy16⟩) (by assumption) ?rest16
 case hy16=>(intro w hSw; (try dsimp only at hSw); (obtain ⟨hs0,hs6,_⟩:=hSw; (go_simp<;>with_reducible rfl)))
 try simp only [Act.put,List.setIfInBounds_toArray,List.set_cons_zero,List.set_cons_succ]
 refine wpAnyH_take (i:=2) (v:=?v17) rfl (by kernel_rfl) (by kernel_rfl) (by kernel_rfl) (fun _ _ _ h=>h) (Or.inl ⟨by rfl,?hy17⟩) (by assumption) ?rest17
 case hy17=>(intro w hSw; (try dsimp only at hSw); (obtain ⟨hs0,hs6,_⟩:=hSw; (go_simp<;>with_reducible rfl)))
 try simp only [Act.put,List.setIfInBounds_toArray,List.set_cons_zero,List.set_cons_succ]
 refine wpAnyH_take (i:=3) (v:=?v18) rfl (by kernel_rfl) (by kernel_rfl) (by kernel_rfl) (fun _ _ _ h=>h) (Or.inl ⟨by rfl,?hy18⟩) (by assumption) ?rest18
 case hy18=>(intro w hSw; (try dsimp only at hSw); (obtain ⟨hs0,hs6,_⟩:=hSw; (go_simp<;>with_reducible rfl)))
 try simp only [Act.put,List.setIfInBounds_toArray,List.set_cons_zero,List.set_cons_succ]
 refine wpAnyH_take (i:=4) (v:=?v19) rfl (by kernel_rfl) (by kernel_rfl) (by kernel_rfl) (fun _ _ _ h=>h) (Or.inl ⟨by rfl,?hy19⟩) (by assumption) ?rest19
 case hy19=>(intro w hSw; (try dsimp only at hSw); (obtain ⟨hs0,hs6,_⟩:=hSw; (go_simp<;>with_reducible rfl)))
 try simp only [Act.put,List.setIfInBounds_toArray,List.set_cons_zero,List.set_cons_succ]
 refine wpAnyH_take (i:=5) (v:=?v20) rfl (by kernel_rfl) (by kernel_rfl) (by kernel_rfl) (fun _ _ _ h=>h) (Or.inl ⟨by rfl,?hy20⟩) (by assumption) ?rest20
 case hy20=>(intro w hSw; (try dsimp only at hSw); (obtain ⟨hs0,hs6,_⟩:=hSw; (go_simp<;>with_reducible rfl)))
 try simp only [Act.put,List.setIfInBounds_toArray,List.set_cons_zero,List.set_cons_succ]
 refine wpAnyH_take (i:=6) (v:=?v21) rfl (by kernel_rfl) (by kernel_rfl) (by kernel_rfl) (fun _ _ _ h=>h) (Or.inl ⟨by rfl,?hy21⟩) (by assumption) ?rest21
 case hy21=>(intro w hSw; (try dsimp only at hSw); (obtain ⟨hs0,hs6,_⟩:=hSw; (go_simp<;>with_reducible rfl)))
 try simp only [Act.put,List.setIfInBounds_toArray,List.set_cons_zero,List.set_cons_succ]
 refine wpAnyH_take (i:=7) (v:=?v22) rfl (by kernel_rfl) (by kernel_rfl) (by kernel_rfl) (fun _ _ _ h=>h) (Or.inl ⟨by rfl,?hy22⟩) (by assumption) ?rest22
 case hy22=>(intro w hSw; (try dsimp only at hSw); (obtain ⟨hs0,hs6,_⟩:=hSw; (go_simp<;>with_reducible rfl)))
 try simp only [Act.put,List.setIfInBounds_toArray,List.set_cons_zero,List.set_cons_succ]
 refine wpAnyH_take (i:=8) (v:=?v23) rfl (by kernel_rfl) (by kernel_rfl) (by kernel_rfl) (fun _ _ _ h=>h) (Or.inl ⟨by rfl,?hy23⟩) (by assumption) ?rest23
 case hy23=>(intro w hSw; (try dsimp only at hSw); (obtain ⟨hs0,hs6,_⟩:=hSw; (go_simp<;>with_reducible rfl)))
 try simp only [Act.put,List.setIfInBounds_toArray,List.set_cons_zero,List.set_cons_succ]
 refine wpAnyH_take (i:=9) (v:=?v24) rfl (by kernel_rfl) (by kernel_rfl) (by kernel_rfl) (fun _ _ _ h=>h) (Or.inl ⟨by rfl,?hy24⟩) (by assumption) ?rest24
 case hy24=>(intro w hSw; (try dsimp only at hSw); (obtain ⟨hs0,hs6,_⟩:=hSw; (go_simp<;>with_reducible rfl)))
 try simp only [Act.put,List.setIfInBounds_toArray,List.set_cons_zero,List.set_cons_succ]
 refine wpAnyH_take (i:=10) (v:=?v25) rfl (by kernel_rfl) (by kernel_rfl) (by kernel_rfl) (fun _ _ _ h=>h) (Or.inl ⟨by rfl,?hy25⟩) (by assumption) ?rest25
 case hy25=>(intro w hSw; (try dsimp only at hSw); (obtain ⟨hs0,hs6,_⟩:=hSw; (go_simp<;>with_reducible rfl)))
 try simp only [Act.put,List.setIfInBounds_toArray,List.set_cons_zero,List.set_cons_succ]
 refine wpAnyH_take (i:=11) (v:=.agg ct.toArray) rfl (by kernel_rfl) (by kernel_rfl) (by kernel_rfl) (fun _ _ _ h=>h) ?hy26 (by assumption) ?rest26
 case hy26=>exact yieldsIf_load_mid (by rfl) 202 (.tmp 34) rfl g (m * 22) (by kernel_rfl) ct (.array 11 200) (fun w hS=>hS.2.2) (by kernel_rfl) rfl IA.out
 try simp only [Act.put,List.setIfInBounds_toArray,List.set_cons_zero,List.set_cons_succ]
 refine wpAnyH_take (i:=12) (v:=?v27) rfl (by kernel_rfl) (by kernel_rfl) (by kernel_rfl) (fun _ _ _ h=>h) (Or.inl ⟨by rfl,?hy27⟩) (by assumption) ?rest27
 case hy27=>(intro w hSw; (try dsimp only at hSw); (obtain ⟨hs0,hs6,_⟩:=hSw; (go_simp<;>with_reducible rfl)))
 try simp only [Act.put,List.setIfInBounds_toArray,List.set_cons_zero,List.set_cons_succ]
 refine wpAnyH_take (i:=13) (v:=?v28) rfl (by kernel_rfl) (by kernel_rfl) (by kernel_rfl) (fun _ _ _ h=>h) (Or.inl ⟨by rfl,?hy28⟩) (by assumption) ?rest28
 case hy28=>(intro w hSw; (try dsimp only at hSw); (obtain ⟨hs0,hs6,_⟩:=hSw; (go_simp<;>with_reducible rfl)))
 try simp only [Act.put,List.setIfInBounds_toArray,List.set_cons_zero,List.set_cons_succ]
 refine wpAnyH_ready (rs:=[14]) (by kernel_rfl) (by simp) ?_
 refine AllReadyH.cons rfl (fun K hK=>?_) AllReadyH.nil
 go_simp
 refine CNT.out.mono ?_
 rintro r w1 ⟨rfl,osv',q1,q2,q3⟩
 obtain ⟨s1,fz1,fz2,e7,fin⟩:=NXT.out w1 osv' q1 q2 q3
 have e6:=s1.2.1
 have S1:=hide s1
 have FINAL:=hide fin
 clear q1 q2 q3 s1 fin
 refine hK.out _ _ S1.out (fun _=>?_)
 clear hK K
 try simp only [Act.put,List.setIfInBounds_toArray,List.set_cons_zero,List.set_cons_succ]
 refine wpAnyH_done (by kernel_rfl) ?_ _
 go_wp2
 go_end0
 exact ⟨rfl,FINAL.out⟩
end Go.Proofs.YtcbadebjpogmlaaGreatDoor
