import Derived.Test.YtcbadebjpogmlaaGreatDoorPGq
import Derived.Conc.LoneCalls
import Derived.KernelRfl
import Derived.Test.YtcbadebjpogmlaaGreatDoorPTx
import Derived.Lib.IndexAny
import Derived.Conc.SmallLaws
import Derived.Conc.EventLaws
namespace Go.Proofs.YtcbadebjpogmlaaGreatDoor
open Go.RowKit Tr Go.Conc
set_option maxRecDepth 100000 in
set_option maxHeartbeats 2000000 in
theorem c_send {w:World} {cb ch cap s r:Nat} {buf:Array Value} {tm:Bool} (t:Tok) (hb:Blk w cb #[.chan (some ch)] 171) (hc:w.heap[ch]?=some (.chan cap buf false s r tm)) (hroom:buf.size<cap) :
 Calls Tryz.prog 80 #[tagg t,.pointer (some ⟨cb,0,none⟩)] w fun res w'=>res=.returned (.tuple #[])∧w'=(w.alloc (.cells (tkCells t) 108)).setChan ch cap (buf.push (tagg t)) false (s+1) r tm:=by
 refine calls_of_loneTo fun cs=>?_
 have e:Frame.enter Tryz.prog 80 #[tagg t,.pointer (some ⟨cb,0,none⟩)] .normal=(Conc.base 80).at ⟨#[tagg t,.pointer (some ⟨cb,0,none⟩),undef,undef,undef],[]⟩ [.code (Tryz.f80.body.getD .skip)]:=by
  simp [Frame.enter,Frame.at,Tryz.func80,Conc.base,Tryz.f80]
 rw [e]
 obtain ⟨w1,hw1⟩:∃w1,w1=w.alloc (.cells (tkCells t) 108):=⟨_,rfl⟩
 have c0:w1.cell? ⟨cb,0,none⟩=some (.chan (some ch)):=by rw [hw1]; exact (hb.alloc _).cell 0
 have hc1:w1.heap[ch]?=some (.chan cap buf false s r tm):=by rw [hw1,Below.heap_alloc _ _ _ (lt_of_some hc)]; exact hc
 rw [hw1] at c0
 unfold tkCells at c0
 have HW1:Hid (w1=w.alloc (.cells #[.int .i64 (t.k:Nat),.int .i64 (t.of:Nat),.int .i64 (t.frm:Nat),.int .i64 (t.to:Nat),.int .i64 t.n,.string (bsb (tkx t.k t.t))] 108)):=hw1
 unfold tagg
 refine LoneTo.goes (n:=20) ?_
 simp only [Tryz.f80,Option.getD_some]
 s_c stepG_seq
 s_reg
 s_op
 s_c stepG_region_end
 s_reg
 s_op
 s_op
 s_stop
 rw [← HW1.out]
 refine LoneTo.step (step_lone_send_room (c:=ch) (cap:=cap) (buf:=buf) (s:=s) (r:=r) (tm:=tm) (stepG_comm (cases:=#[scase ch (tagg t) (.tuple #[])]) (blocking:=true) (shape:=.send) (w':=w1) rfl rfl (by decide) (by simp [execOp,scase,Act.eval,tagg])) hc1 hroom) ?_
 rw [Frame.finish_at]
 walk_nrm
 refine LoneTo.goes (n:=4) ?_
 s_c stepG_region_end
 s_c stepG_end
 s_stop
 rw [hw1]
 refine LoneTo.done ⟨.returned (.tuple #[]),_,rfl,⟨rfl,rfl⟩,rfl,rfl,rfl,rfl,_,Tryz.func80,by simp [results,Tryz.f80,Frame.at]⟩
theorem loneTo_wp {Q:Goroutine→World→Prop} {c:Code} {R:Exit→Act→World→Prop} {b:Frame} {a:Act} {k:List Item} {cs:List Frame} {w:World} (h:c.wp Tryz.prog R a w) (hq:∀e a' w',R e a' w'→e=.normal∧LoneTo Tryz.prog Q (Conc.G (b.at a' k) cs) w'):LoneTo Tryz.prog Q (Conc.G (b.at a (.code c::k)) cs) w:=by
 obtain ⟨e,a',w',h1,h2⟩:=h b k cs
 obtain ⟨rfl,g2,w2,h3,h4⟩:=hq e a' w' h1
 exact ⟨g2,w2,Steps.trans h2 h3,h4⟩
end Go.Proofs.YtcbadebjpogmlaaGreatDoor
namespace Go.Proofs.YtcbadebjpogmlaaGreatDoor
open Go.RowKit Tr Go.Conc
def seqA:Code→Code
 | .seq x _=>x
 | c=>c
def seqB:Code→Code
 | .seq _ y=>y
 | c=>c
def inBlk:Code→Code
 | .block _ c=>c
 | c=>c
def inLp:Code→Code
 | .loop c=>c
 | c=>c
def fwTmps (f ch:Nat) (v5 v8 v9 v10 v11 v12 v13 v14 v15:Value):Array Value:=#[fvp f,.chan (some ch),undef,undef,.slice none 0 0,v5,undef,.chan (some ch),v8,v9,v10,v11,v12,v13,v14,v15,undef,undef,undef,undef,undef,undef,undef,undef]
set_option linter.unusedSimpArgs false in
set_option maxRecDepth 100000 in
set_option maxHeartbeats 2000000 in
theorem fw_tok {b f ch B:Nat} {tt:ByteArray} {xs:List Sg} {Dp:Nat→Prop} {H:Nat→Option Obj} (hx:xs.length≤10) (hsel:selN xs≤10) (hpos:∀g ∈ xs,0<g.l.length) {w:World} {E:Nat→Prop} {s:Fw} (h:FE b f tt xs Dp H w E s) {t:Tok} (ht:TokOk s.g.sh t) (hl:t.t.length≤4000000) (bt:Blk w B (tkCells t) 108) (hBE:¬E B) (v8 v9 v10 v11 v12 v13 v14 v15:Value) :
 Code.wp Tryz.prog (seqB (inBlk (seqB (seqB (inLp (inBlk (seqB (seqA (seqB (Tryz.f81.body.getD .skip)))))))))) (fun e a' w'=>e=.normal∧(∃v5 v8 v9 v10 v11 v12 v13 v14 v15,a'=⟨fwTmps f ch v5 v8 v9 v10 v11 v12 v13 v14 v15,[]⟩)∧∃E',FE b f tt xs Dp H w' E' (fTake xs s t)∧(∀k,E' k→E k∨w.heap.size≤k)∧Fr E w w') ⟨fwTmps f ch (.pointer (some ⟨B,0,none⟩)) v8 v9 v10 v11 v12 v13 v14 v15,[]⟩ w:=by
 have K1:Keeps w w.drew:=(Fr.refl _ w).drew
 have F1:FE b f tt xs Dp H w.drew E s:=h.keep hx hsel (fun k hk=>K1.block k (h.lt hk) id) K1.size
 have TK:=hide (fe_take hx hsel hpos F1 ht hl)
 have SS:Hid (∀w',Fr E w w'→w'.cell? ⟨B,0,none⟩=some (.int .i64 (t.k:Nat))∧w'.cell? ⟨B,1,none⟩=some (.int .i64 (t.of:Nat))∧w'.cell? ⟨B,2,none⟩=some (.int .i64 (t.frm:Nat))∧w'.cell? ⟨B,3,none⟩=some (.int .i64 (t.to:Nat))∧w'.cell? ⟨B,4,none⟩=some (.int .i64 t.n)∧w'.cell? ⟨B,5,none⟩=some (.string (bsb (tkx t.k t.t)))):=fun w' q=>by
  have:=bt.fr q hBE
  exact ⟨this.cell 0,this.cell 1,this.cell 2,this.cell 3,this.cell 4,this.cell 5⟩
 have FIN:Hid (∀w',(∃E',FE b f tt xs Dp H w' E' (fTake xs s t)∧(∀k,E' k→E k∨w.drew.heap.size≤k)∧Fr E w.drew w')→∃E',FE b f tt xs Dp H w' E' (fTake xs s t)∧(∀k,E' k→E k∨w.heap.size≤k)∧Fr E w w'):=fun w' ⟨E',p1,p2,p3⟩=>⟨E',p1,p2,(K1.mono (fun _ _ e=>e.elim)).trans p3⟩
 clear K1 F1 bt h ht hl hx hsel hpos
 simp only [Tryz.f81,Option.getD_some,seqA,seqB,inBlk,inLp,fwTmps,fvp]
 unfold tagg at *
 refine wp_region_held_drew (S:=fun w'=>w'.cell? ⟨B,0,none⟩=some (.int .i64 (t.k:Nat))∧w'.cell? ⟨B,1,none⟩=some (.int .i64 (t.of:Nat))∧w'.cell? ⟨B,2,none⟩=some (.int .i64 (t.frm:Nat))∧w'.cell? ⟨B,3,none⟩=some (.int .i64 (t.to:Nat))∧w'.cell? ⟨B,4,none⟩=some (.int .i64 t.n)∧w'.cell? ⟨B,5,none⟩=some (.string (bsb (tkx t.k t.t)))) (by kernel_rfl) (SS.out _ ((Fr.refl _ _).drewN 1)) (fun _=>?_)
 refine wpAnyH_take (i:=0) (v:=?v1) rfl (by kernel_rfl) (by kernel_rfl) (by kernel_rfl) (fun _ _ _ h=>by cases h.1) (Or.inl ⟨by rfl,?hy1⟩) (by assumption) ?rest1
 case hy1=>(intro w hSw; (try dsimp only at hSw); (obtain ⟨q0,q1,q2,q3,q4,q5⟩:=hSw; (go_simp<;>with_reducible rfl)))
 try simp only [Act.put,nrm]
 refine wpAnyH_take (i:=1) (v:=?v2) rfl (by kernel_rfl) (by kernel_rfl) (by kernel_rfl) (fun _ _ _ h=>by cases h.1) (Or.inl ⟨by rfl,?hy2⟩) (by assumption) ?rest2
 case hy2=>(intro w hSw; (try dsimp only at hSw); (obtain ⟨q0,q1,q2,q3,q4,q5⟩:=hSw; (go_simp<;>with_reducible rfl)))
 try simp only [Act.put,nrm]
 refine wpAnyH_take (i:=2) (v:=?v3) rfl (by kernel_rfl) (by kernel_rfl) (by kernel_rfl) (fun _ _ _ h=>by cases h.1) (Or.inl ⟨by rfl,?hy3⟩) (by assumption) ?rest3
 case hy3=>(intro w hSw; (try dsimp only at hSw); (obtain ⟨q0,q1,q2,q3,q4,q5⟩:=hSw; (go_simp<;>with_reducible rfl)))
 try simp only [Act.put,nrm]
 refine wpAnyH_take (i:=3) (v:=?v4) rfl (by kernel_rfl) (by kernel_rfl) (by kernel_rfl) (fun _ _ _ h=>by cases h.1) (Or.inl ⟨by rfl,?hy4⟩) (by assumption) ?rest4
 case hy4=>(intro w hSw; (try dsimp only at hSw); (obtain ⟨q0,q1,q2,q3,q4,q5⟩:=hSw; (go_simp<;>with_reducible rfl)))
 try simp only [Act.put,nrm]
 refine wpAnyH_ready (rs:=[4]) (by kernel_rfl) (by simp) ?_
 refine AllReadyH.cons rfl (fun K hK=>?_) AllReadyH.nil
 go_simp
 refine TK.out.mono ?_
 rintro r w2 ⟨rfl,E',p1,p2,p3⟩
 have F2:=hide (FIN.out w2 ⟨E',p1,p2,p3⟩)
 have B2:=hide (SS.out w2 (((Fr.refl _ _).drewN 1).trans p3))
 clear p1 p2 p3
 refine hK.out _ _ B2.out (fun _=>?_)
 clear hK K
 try simp only [Act.put,nrm]
 refine wpAnyH_done (by kernel_rfl) ?_ _
 exact ⟨rfl,⟨_,_,_,_,_,_,_,_,_,rfl⟩,F2.out⟩
def tkZ:Value:=.agg #[.int .i64 0,.int .i64 0,.int .i64 0,.int .i64 0,.int .i64 0,.string ⟨#[]⟩]
theorem fTake_sh (xs:List Sg) (s:Fw) {t:Tok} (ht:TokOk s.g.sh t):(fTake xs s t).g.sh=shTake s.g.sh t:=by rw [fTake_g,sh_take _ _ _ ht]
set_option linter.unusedSimpArgs false in
set_option maxRecDepth 100000 in
set_option maxHeartbeats 4000000 in
theorem fw_loop {b f ch cap:Nat} {tm:Bool} {tt:ByteArray} {xs:List Sg} {Dp:Nat→Prop} {H:Nat→Option Obj} (hx:xs.length≤10) (hsel:selN xs≤10) (hpos:∀g ∈ xs,0<g.l.length) {Q:Goroutine→World→Prop} {cs:List Frame} {k:List Item} :
 ∀(ts:List Tok) {w:World} {E:Nat→Prop} {s:Fw} {sn rn:Nat} (v5 v8 v9 v10 v11 v12 v13 v14 v15:Value),FE b f tt xs Dp H w E s→w.heap[ch]?=some (.chan cap (ts.map tagg).toArray true sn rn tm)→¬E ch→OkL s.g.sh ts→(∀t ∈ ts,t.t.length≤4000000) →
 (∀w' E' v5 v8 v9 v10 v11 v12 v13 v14 v15,FE b f tt xs Dp H w' E' (fRun xs s ts)→(∀k,E' k→E k∨w.heap.size≤k)→Fr (fun k=>E k∨k=ch) w w'→LoneTo Tryz.prog Q (Conc.G ((Conc.base 81).at ⟨fwTmps f ch v5 v8 v9 v10 v11 v12 v13 v14 v15,[]⟩ k) cs) w') →
 LoneTo Tryz.prog Q (Conc.G ((Conc.base 81).at ⟨fwTmps f ch v5 v8 v9 v10 v11 v12 v13 v14 v15,[]⟩ (.code (inLp (inBlk (seqB (seqA (seqB (Tryz.f81.body.getD .skip))))))::.inLoop (inLp (inBlk (seqB (seqA (seqB (Tryz.f81.body.getD .skip))))))::.inBlock 0::k)) cs) w
 | [],w,E,s,sn,rn,v5,v8,v9,v10,v11,v12,v13,v14,v15,h,hc,_,_,_,END=>by
  have END2:=hide (END w E v5 (.tuple #[tkZ,.bool false]) (.bool false) v10 v11 v12 v13 v14 v15 h (fun k hk=>Or.inl hk) (Fr.refl _ _))
  clear END h
  have hc:w.heap[ch]?=some (.chan cap #[] true sn rn tm):=hc
  generalize hLP:Item.inLoop (inLp (inBlk (seqB (seqA (seqB (Tryz.f81.body.getD .skip))))))=LP
  have HLP:=hide hLP
  clear hLP
  simp only [Tryz.f81,Option.getD_some,seqA,seqB,inBlk,inLp,fwTmps,fvp]
  refine LoneTo.goes (n:=20) ?_
  s_c stepG_seq
  s_reg
  s_stop
  refine LoneTo.step (step_lone_recv_shut true (c:=ch) (z:=tkZ) (cap:=cap) (s:=sn) (r:=rn) (tm:=tm) (stepG_comm (cases:=#[rcase ch tkZ]) (blocking:=true) (shape:=.recv true) (w':=w) rfl rfl (by decide) (by first | (simp [execOp,rcase,tkZ,go_sem]; done) | kernel_rfl)) hc) ?_
  rw [Frame.finish_at]
  simp only [got]
  walk_nrm
  refine LoneTo.goes (n:=20) ?_
  s_op
  s_c stepG_region_end
  s_c stepG_seq
  s_cond false
  rw [← HLP.out]
  s_exit
  s_stop
  exact END2.out
 | t::ts,w,E,s,sn,rn,v5,v8,v9,v10,v11,v12,v13,v14,v15,h,hc,hE,hok,hl,END=>by
  have hcl:=lt_of_some hc
  obtain ⟨w1,hw1⟩:∃w1,w1=w.setChan ch cap (ts.map tagg).toArray true sn (rn+1) tm:=⟨_,rfl⟩
  have hc1:w1.heap[ch]?=some (.chan cap (ts.map tagg).toArray true sn (rn+1) tm):=by rw [hw1]; exact heap_setChan _ _ _ _ _ _ _ _ hcl
  have hk1:∀k,k≠ch→w1.heap[k]?=w.heap[k]?:=fun k hk=>by rw [hw1]; simp [World.setChan,Array.getElem?_setIfInBounds,Ne.symm hk]
  have hs1:w1.heap.size=w.heap.size:=by rw [hw1]; exact size_setChan _ _ _ _ _ _ _ _
  have F1:Fr (fun k=>E k∨k=ch) w w1:=⟨by rw [hw1]; rfl,by rw [hw1]; rfl,by rw [hw1]; rfl,by rw [hs1]; exact Nat.le_refl _,fun k _ hn=>hk1 k (fun e=>hn (Or.inr e))⟩
  have h1:FE b f tt xs Dp H w1 E s:=h.keep hx hsel (fun k hk=>hk1 k (fun e=>hE (e▸hk))) (by rw [hs1]; exact Nat.le_refl _)
  obtain ⟨w2,hw2⟩:∃w2,w2=w1.alloc (.cells (tkCells t) 108):=⟨_,rfl⟩
  have K2:Keeps w1 w2:=by rw [hw2]; exact (Fr.refl _ w1).alloc _
  have h2:FE b f tt xs Dp H w2 E s:=h1.keep hx hsel (fun k hk=>K2.block k (h1.lt hk) id) K2.size
  have bt:Blk w2 w1.heap.size (tkCells t) 108:=by rw [hw2]; exact Blk.new w1 _ _
  have hBE:¬E w1.heap.size:=fun e=>by have:=h1.lt e; omega
  have TOK:=hide (fw_tok (ch:=ch) hx hsel hpos h2 hok.1 (hl t List.mem_cons_self) bt hBE (.tuple #[tagg t,.bool true]) (.bool true) (tagg t) v11 v12 v13 v14 v15)
  have NXT:Hid (∀w3 E' v5 v8 v9 v10 v11 v12 v13 v14 v15,FE b f tt xs Dp H w3 E' (fTake xs s t)→(∀k,E' k→E k∨w2.heap.size≤k)→Fr E w2 w3→LoneTo Tryz.prog Q (Conc.G ((Conc.base 81).at ⟨fwTmps f ch v5 v8 v9 v10 v11 v12 v13 v14 v15,[]⟩ (.code (inLp (inBlk (seqB (seqA (seqB (Tryz.f81.body.getD .skip))))))::.inLoop (inLp (inBlk (seqB (seqA (seqB (Tryz.f81.body.getD .skip))))))::.inBlock 0::k)) cs) w3):=fun w3 E' v5 v8 v9 v10 v11 v12 v13 v14 v15 q1 q2 q3=>by
   have hsz:w1.heap.size≤w2.heap.size:=K2.size
   have hc3:w3.heap[ch]?=some (.chan cap (ts.map tagg).toArray true sn (rn+1) tm):=by
    rw [q3.block ch (by omega) hE,K2.block ch (by omega) id]; exact hc1
   refine fw_loop hx hsel hpos ts v5 v8 v9 v10 v11 v12 v13 v14 v15 q1 hc3 (fun e=>?_) (by rw [fTake_sh xs s hok.1]; exact hok.2) (fun u hu=>hl u (List.mem_cons_of_mem _ hu)) (fun w' E2 u5 u8 u9 u10 u11 u12 u13 u14 u15 p1 p2 p3=>END w' E2 u5 u8 u9 u10 u11 u12 u13 u14 u15 p1 (fun j hj=>?_) ?_)
   ·rcases q2 ch e with y | y
    ·exact hE y
    omega
   ·have z3:=q3.size
    rcases p2 j hj with y | y
    ·rcases q2 j y with z | z
     ·exact Or.inl z
     exact Or.inr (by omega)
    exact Or.inr (by omega)
   have F3:Fr (fun k=>E k∨k=ch) w w3:=(F1.trans (K2.mono (fun _ _ e=>e.elim))).trans (q3.mono (fun _ _ e=>Or.inl e))
   refine F3.new p3 (fun j hj e=>?_)
   rcases e with y | y
   ·rcases q2 j y with z | z
    ·exact Or.inl z
    omega
   exact Or.inr y
  have HW1:=hide hw1
  have HW2:Hid (w2=w1.alloc (.cells #[.int .i64 (t.k:Nat),.int .i64 (t.of:Nat),.int .i64 (t.frm:Nat),.int .i64 (t.to:Nat),.int .i64 t.n,.string (bsb (tkx t.k t.t))] 108)):=hw2
  have hc:w.heap[ch]?=some (.chan cap ((tagg t::ts.map tagg).toArray) true sn rn tm):=hc
  clear END h h1 h2 bt hBE F1 K2 hc1 hk1 hs1 hw1 hw2
  generalize hLP:Item.inLoop (inLp (inBlk (seqB (seqA (seqB (Tryz.f81.body.getD .skip))))))=LP
  have HLP:=hide hLP
  clear hLP
  simp only [Tryz.f81,Option.getD_some,seqA,seqB,inBlk,inLp,fwTmps,fvp]
  refine LoneTo.goes (n:=20) ?_
  s_c stepG_seq
  s_reg
  s_stop
  refine LoneTo.step (step_lone_recv_buf true (c:=ch) (z:=tkZ) (cap:=cap) (buf:=(tagg t::ts.map tagg).toArray) (closed:=true) (s:=sn) (r:=rn) (tm:=tm) (stepG_comm (cases:=#[rcase ch tkZ]) (blocking:=true) (shape:=.recv true) (w':=w) rfl rfl (by decide) (by first | (simp [execOp,rcase,tkZ,go_sem]; done) | kernel_rfl)) hc (by simp)) ?_
  have e1:(tagg t::ts.map tagg).toArray.extract 1 (tagg t::ts.map tagg).toArray.size=(ts.map tagg).toArray:=by simp [List.take_of_length_le]
  have e2:(tagg t::ts.map tagg).toArray.getD 0 undef=tagg t:=by simp
  rw [e1,e2,← HW1.out,Frame.finish_at]
  simp only [got]
  walk_nrm
  refine LoneTo.goes (n:=40) ?_
  s_op
  s_c stepG_region_end
  s_c stepG_seq
  s_cond true
  s_c stepG_skip
  s_c stepG_block
  s_c stepG_seq
  unfold tagg
  s_reg
  s_op
  s_op
  s_op
  s_c stepG_region_end
  s_stop
  rw [← HW2.out]
  refine loneTo_wp TOK.out ?_
  rintro e a' w3 ⟨rfl,⟨u5,u8,u9,u10,u11,u12,u13,u14,u15,rfl⟩,E',q1,q2,q3⟩
  refine ⟨rfl,?_⟩
  refine LoneTo.goes (n:=5) ?_
  s_c stepG_inBlock
  rw [← HLP.out]
  s_c stepG_inLoop
  s_stop
  exact NXT.out w3 E' u5 u8 u9 u10 u11 u12 u13 u14 u15 q1 q2 q3
def FwP (b f ch:Nat) (tt:ByteArray) (xs:List Sg) (Dp:Nat→Prop) (H:Nat→Option Obj) (E:Nat→Prop) (s':Fw) (w:World) (r:Ending) (w':World):Prop :=
 ∃sv E',r=.returned sv∧FE b f tt xs Dp H w' E' (noT s')∧w'.ownsRow 0 44 4 sv s'.told.length (s'.told.flatMap tcl)∧(∀k,sv.ownBlock=some k→¬E' k∧(E k∨w.heap.size≤k))∧(∀k,E' k→E k∨w.heap.size≤k)∧Fr (fun k=>E k∨k=ch) w w'
set_option linter.unusedSimpArgs false in
set_option maxRecDepth 100000 in
set_option maxHeartbeats 4000000 in
theorem f_follow {b f ch cap:Nat} {tm:Bool} {tt:ByteArray} {xs:List Sg} {Dp:Nat→Prop} {H:Nat→Option Obj} (hx:xs.length≤10) (hsel:selN xs≤10) (hpos:∀g ∈ xs,0<g.l.length) {ts:List Tok} {w:World} {E:Nat→Prop} {s:Fw} {sn rn:Nat} (h:FE b f tt xs Dp H w E s) (hc:w.heap[ch]?=some (.chan cap (ts.map tagg).toArray true sn rn tm)) (hE:¬E ch) (hok:OkL s.g.sh ts) (hl:∀t ∈ ts,t.t.length≤4000000) :
 Calls Tryz.prog 81 #[fvp f,.chan (some ch)] w (FwP b f ch tt xs Dp H E (fRun xs s ts) w):=by
 refine calls_of_loneTo (fun cs=>?_) (by rintro _ ⟨_,_,h,_⟩; cases h)
 have e:Frame.enter Tryz.prog 81 #[fvp f,.chan (some ch)] .normal=(Conc.base 81).at ⟨#[fvp f,.chan (some ch),undef,undef,undef,undef,undef,undef,undef,undef,undef,undef,undef,undef,undef,undef,undef,undef,undef,undef,undef,undef,undef,undef],[]⟩ [.code (Tryz.f81.body.getD .skip)]:=by
  simp [Frame.enter,Frame.at,Tryz.func81,Conc.base,Tryz.f81]
 rw [e]
 have END:Hid (∀w' E' v5 v8 v9 v10 v11 v12 v13 v14 v15,FE b f tt xs Dp H w' E' (fRun xs s ts)→(∀k,E' k→E k∨w.heap.size≤k)→Fr (fun k=>E k∨k=ch) w w'→LoneTo Tryz.prog (fun g' w'=>∃e fr,g'=Conc.G fr cs∧FwP b f ch tt xs Dp H E (fRun xs s ts) w e w'∧fr.fn=81∧fr.leaving Tryz.prog w' e) (Conc.G ((Conc.base 81).at ⟨fwTmps f ch v5 v8 v9 v10 v11 v12 v13 v14 v15,[]⟩ [.code (seqB (seqB (Tryz.f81.body.getD .skip)))]) cs) w'):=fun w' E' v5 v8 v9 v10 v11 v12 v13 v14 v15 q1 q2 q3=>by
  obtain ⟨osv,c8,fz,hEf,E2,p1,p2,p3,p4⟩:=fe_told q1
  have FIN:Hid (FwP b f ch tt xs Dp H E (fRun xs s ts) w (.returned osv) (w'.setCell ⟨f,8,none⟩ (.slice none 0 0))):=by
   refine ⟨osv,E2,rfl,p1,p3,fun k hk=>⟨(p4 k hk).2,q2 k (p4 k hk).1⟩,fun k hk=>q2 k (p2 k hk),?_⟩
   have:Fr (fun k=>k=f) w' (w'.setCell ⟨f,8,none⟩ (.slice none 0 0)):=(Fr.refl (fun k=>k=f) w').setCell ⟨f,8,none⟩ (Or.inl rfl) _
   refine q3.new this (fun j hj e=>?_)
   rw [e] at hj ⊢
   rcases q2 f hEf with y | y
   ·exact Or.inl y
   omega
  clear p1 p2 p3 p4 q1 q2 q3 hEf h hc
  simp only [Tryz.f81,Option.getD_some,seqA,seqB,inBlk,inLp,fwTmps,fvp]
  refine LoneTo.goes (n:=40) ?_
  s_c stepG_seq
  s_reg
  s_op
  s_op
  s_op
  s_op
  s_op
  s_c stepG_region_end
  s_c stepG_seq
  s_reg
  s_op
  s_op
  s_op
  s_op
  s_c stepG_region_end
  s_c stepG_seq
  s_reg
  s_op
  s_op
  s_c stepG_region_end
  s_c stepG_ret'
  s_stop
  exact LoneTo.done ⟨.returned osv,_,rfl,FIN.out,rfl,rfl,rfl,rfl,_,Tryz.func81,by simp [results,Tryz.f81,Frame.at]⟩
 generalize hRS:(seqB (seqB (Tryz.f81.body.getD .skip)))=RS at END
 have HRS:=hide hRS
 clear hRS
 simp only [Tryz.f81,Option.getD_some,fvp]
 refine LoneTo.goes (n:=40) ?_
 s_c stepG_seq
 s_reg
 s_op
 s_c stepG_region_end
 s_c stepG_seq
 s_c stepG_seq
 s_reg
 s_op
 s_c stepG_region_end
 s_c stepG_block
 s_c stepG_loop
 s_stop
 refine fw_loop hx hsel hpos ts undef undef undef undef undef undef undef undef undef h hc hE hok hl (fun w' E' v5 v8 v9 v10 v11 v12 v13 v14 v15 q1 q2 q3=>?_)
 have:=END.out w' E' v5 v8 v9 v10 v11 v12 v13 v14 v15 q1 q2 q3
 rw [← HRS.out] at this
 exact this
end Go.Proofs.YtcbadebjpogmlaaGreatDoor
namespace Go.Proofs.YtcbadebjpogmlaaGreatDoor
open Go.RowKit Tr Go.Conc
def lastB:ByteArray:=⟨#[91,93,123,125,34,48,49,50,51,52,53,54,55,56,57,101,108]⟩
set_option maxRecDepth 10000 in
theorem lastB_has (b:UInt8):(0≤Lib.indexByte lastB.data.toList b)↔isLast b.toNat=true:=by
 have h:∀n:Nat,n<256→(lastB.data.toList.contains (UInt8.ofNat n))=isLast n:=by decide
 have:=Lib.contains_iff_indexByte lastB.data.toList b
 have h2:=h b.toNat b.toNat_lt
 rw [UInt8.ofNat_toNat,this] at h2
 rw [← h2]; simp
theorem room_take {l:List UInt8} {k:Nat} (h:k<l.length):room (l.take (k+1))=room (l.take k)+(if isLast (l[k]).toNat=true then 1 else 0):=by
 unfold room
 rw [List.take_succ_eq_append_getElem h,List.countP_append,List.countP_singleton]
 omega
theorem room_le (l:List UInt8):room l≤l.length+1:=by
 unfold room; have:=List.countP_le_length (p:=fun b:UInt8=>isLast b.toNat) (l:=l); omega
set_option maxHeartbeats 2000000 in
set_option maxRecDepth 100000 in
theorem p_room {w:World} (q:ByteArray) (hq:q.size≤4000000):Calls Tryz.prog 79 #[.string q] w fun r w'=>r=.returned (.int .i64 (room (bs q):Nat))∧w'=w:=by
 have hlen:(bs q).length=q.size:=bs_len q
 go_enter Tryz.func79,Tryz.ntmps79
 go_wp2
 go_loopw [3,7] (fun c i wr=>∃k:Nat,k≤q.size∧i=.int .i64 k∧c=.int .i64 (room ((bs q).take k):Nat)∧wr=w) (fun _ i _=>q.size - (intOf i).toNat)
 case atStart=>exact ⟨0,Nat.zero_le _,rfl,by simp [room],rfl⟩
 case round =>
  obtain ⟨k,hk,rfl,rfl,rfl⟩:=hrel
  by_cases hlt:k<q.size
  ·have hkl:k<(bs q).length:=by omega
   have hb:((bs q)[k]'hkl).toNat=q[k].toNat:=(bt_get (by omega)).symm.trans (btB_lt hlt)
   have IB:Hid (Calls Tryz.prog 110 #[.string ⟨#[91,93,123,125,34,48,49,50,51,52,53,54,55,56,57,101,108]⟩,.int .u8 ((q[k]).toNat:Int)] wr fun e w'=>e=.returned (.int .i64 (Lib.indexByte lastB.data.toList q[k]))∧w'=wr):=by
    have:=Any.strings_IndexByte Tryz.lays137 lastB ((q[k]).toNat:Int) wr
    have e:Tryz.lays137_ren.f 137=110:=rfl
    rw [e] at this
    have e2:((q[k]).toNat:Int).toNat.toUInt8=q[k]:=by simp
    rw [e2] at this
    exact this
   have hR:=room_take hkl
   rw [hb] at hR
   have hL:=lastB_has q[k]
   have hr4:=room_le ((bs q).take k)
   rw [List.length_take] at hr4
   generalize Lib.indexByte lastB.data.toList q[k]=ix at *
   have hw1:IntKind.i64.wrap ((room ((bs q).take k):Int)+1)=(room ((bs q).take k):Int)+1:=by rw [IntWalk.i64_in _ (by omega)]
   have hw2:IntKind.i64.wrap ((k:Int)+1)=(k:Int)+1:=by rw [IntWalk.i64_in _ (by omega)]
   have hkk:(k:Int)<(q.size:Int):=by omega
   by_cases hl:isLast q[k].toNat=true
   ·have hix:(0:Int)≤ix:=hL.2 hl
    rw [if_pos hl] at hR
    have HR:=hide hR
    clear hR hL hb hr4 hl
    go_wp2_with fail
    refine IB.out.mono ?_
    rintro r w1 ⟨rfl,rfl⟩
    go_wp2
    refine ⟨⟨k+1,by omega,by simp,by rw [HR.out]; simp,trivial⟩,by simp [intOf]; omega⟩
   have hix:ix<0:=by
    have:¬(0:Int)≤ix:=fun y=>hl (hL.1 y)
    omega
   have hix2:¬(0:Int)≤ix:=by omega
   rw [if_neg hl] at hR
   have HR:=hide hR
   clear hR hL hb hr4 hl
   go_wp2_with fail
   refine IB.out.mono ?_
   rintro r w1 ⟨rfl,rfl⟩
   go_wp2
   refine ⟨⟨k+1,by omega,by simp,by rw [HR.out]; simp,trivial⟩,by simp [intOf]; omega⟩
  have e:k=q.size:=by omega
  have e2:(bs q).take k=bs q:=List.take_of_length_le (by omega)
  rw [e2]
  go_wp2
  go_ret
  exact ⟨rfl,rfl⟩
def cS (cb ch cap:Nat) (w:World) (D:Nat→Prop) (ts:List Tok):Prop:=Blk w cb #[.chan (some ch)] 171∧(∃sn rn tm,w.heap[ch]?=some (.chan cap (ts.map tagg).toArray false sn rn tm))∧cb≠ch∧∀k,D k↔k=cb∨k=ch
def cV (cap:Nat) (ts:List Tok) (_:Tok):Prop:=ts.length<cap
theorem c_sink (cb ch cap:Nat):Sink (.func (.func 80) #[] #[.pointer (some ⟨cb,0,none⟩)]) (cS cb ch cap) (cV cap) where
 lt:=fun {w D ts k} h hk=>by
  obtain ⟨h1,⟨sn,rn,tm,h2⟩,_,h4⟩:=h
  rcases (h4 k).1 hk with e | e
  ·rw [e]; exact h1.lt
  rw [e]; exact lt_of_some h2
 keep:=fun {w w' D ts} h s hz=>by
  obtain ⟨h1,⟨sn,rn,tm,h2⟩,h3,h4⟩:=h
  exact ⟨(s _ ((h4 _).2 (Or.inl rfl))).trans h1,⟨sn,rn,tm,(s _ ((h4 _).2 (Or.inr rfl))).trans h2⟩,h3,h4⟩
 call:=⟨_,_,_,rfl,fun _ _=>Tryz.call80 _ _,fun w D ts t h hV=>by
  obtain ⟨h1,⟨sn,rn,tm,h2⟩,h3,h4⟩:=h
  have hlt:=lt_of_some h2
  refine (c_send t h1 h2 (by simpa [cV] using hV)).mono ?_
  rintro res w' ⟨rfl,rfl⟩
  have hsz:(w.alloc (.cells (tkCells t) 108)).heap.size=w.heap.size+1:=World.size_alloc _ _
  have K:Keeps w (w.alloc (.cells (tkCells t) 108)):=(Fr.refl _ w).alloc _
  have hk:∀k,k≠ch→((w.alloc (.cells (tkCells t) 108)).setChan ch cap ((ts.map tagg).toArray.push (tagg t)) false (sn+1) rn tm).heap[k]?=(w.alloc (.cells (tkCells t) 108)).heap[k]?:=fun k hk=>by simp [World.setChan,Ne.symm hk]
  refine ⟨rfl,D,⟨?_,⟨sn+1,rn,tm,?_⟩,h3,h4⟩,fun k hk=>Or.inl hk,⟨rfl,rfl,rfl,?_,fun k hkl hn=>?_⟩⟩
  ·show _=_
   rw [hk cb h3]
   exact (h1.alloc _)
  ·rw [heap_setChan _ _ _ _ _ _ _ _ (by omega)]; simp
  ·rw [size_setChan]; omega
  rw [hk k (fun e=>hn ((h4 k).2 (Or.inr e)))]
  exact K.block k hkl id⟩
theorem cV_all (cap:Nat):∀(b a:List Tok),a.length+b.length≤cap→VL (cV cap) a b
 | [],_,_=>trivial
 | t::b,a,h=>⟨by simp at h; show a.length<cap; omega,cV_all cap b (a++[t]) (by simp at h ⊢; omega)⟩
end Go.Proofs.YtcbadebjpogmlaaGreatDoor
namespace Go.Proofs.YtcbadebjpogmlaaGreatDoor
open Go.RowKit Tr Go.Conc
def RZ (w:World) (r:Nat) (Er:Nat→Prop) (z:Sn):Prop:=∃ov bp bv,RS w r z.st z .nilFunc ov bp bv∧∀k,Er k↔k=r∨ov.ownBlock=some k∨bv.ownBlock=some k
theorem RZ.lt {w:World} {r:Nat} {Er:Nat→Prop} {z:Sn} (h:RZ w r Er z) {k:Nat} (hk:Er k):k<w.heap.size:=by
 obtain ⟨ov,bp,bv,h1,h2⟩:=h
 rcases (h2 k).1 hk with e | e | e
 ·rw [e]; exact h1.b.lt
 ·exact (h1.o.lt k e).2
 exact (h1.t.lt k e).2
theorem RZ.keep {w w':World} {r:Nat} {Er:Nat→Prop} {z:Sn} (h:RZ w r Er z) (s:Sm Er w w'):RZ w' r Er z:=by
 obtain ⟨ov,bp,bv,h1,h2⟩:=h
 exact ⟨ov,bp,bv,⟨(s r ((h2 r).2 (Or.inl rfl))).trans h1.b,own_at' h1.o (fun k hk=>s k ((h2 k).2 (Or.inr (Or.inl hk)))),own_at' h1.t (fun k hk=>s k ((h2 k).2 (Or.inr (Or.inr hk)))),h1.p,h1.e⟩,h2⟩
def RdP (r cb ch cap:Nat) (Er:Nat→Prop) (e at':Nat) (z':Sn) (ts:List Tok) (w:World) (res:Ending) (w':World):Prop :=
 res=.returned (.tuple #[.int .i64 (e:Nat),.int .i64 (at':Nat)])∧∃Er',RZ w' r Er' z'∧cS cb ch cap w' (fun k=>k=cb∨k=ch) ts∧¬Er' cb∧¬Er' ch∧(∀k,Er' k→Er k∨w.heap.size≤k)∧Fr (fun k=>Er k∨k=cb∨k=ch) w w'
theorem rm_of {w:World} {r cb ch cap:Nat} {Er:Nat→Prop} {z:Sn} {ts:List Tok} (hz:RZ w r Er z) (hc:cS cb ch cap w (fun k=>k=cb∨k=ch) ts) (h1:¬Er cb) (h2:¬Er ch):RM (cS cb ch cap) .nilFunc r z.st z ts (fun k=>Er k∨k=cb∨k=ch) w:=by
 obtain ⟨ov,bp,bv,q1,q2⟩:=hz
 refine ⟨ov,bp,bv,_,q1,hc,fun k hk=>?_,fun k=>?_⟩
 ·have hn:¬Er k:=by
   rcases hk with e | e
   ·rw [e]; exact h1
   rw [e]; exact h2
  exact ⟨fun e=>hn ((q2 k).2 (Or.inl e)),fun e=>hn ((q2 k).2 (Or.inr (Or.inl e))),fun e=>hn ((q2 k).2 (Or.inr (Or.inr e)))⟩
 rw [q2 k]
 constructor
 ·rintro ((e | e | e) | e)
  ·exact Or.inl e
  ·exact Or.inr (Or.inl e)
  ·exact Or.inr (Or.inr (Or.inl e))
  exact Or.inr (Or.inr (Or.inr e))
 rintro (e | e | e | e)
 ·exact Or.inl (Or.inl e)
 ·exact Or.inl (Or.inr (Or.inl e))
 ·exact Or.inl (Or.inr (Or.inr e))
 exact Or.inr e
theorem rd_of {w w':World} {r cb ch cap:Nat} {Er E':Nat→Prop} {z':Sn} {ts:List Tok} (hM:RM (cS cb ch cap) .nilFunc r z'.st z' ts E' w') (hE:Ev (fun k=>Er k∨k=cb∨k=ch) w E' w'):∃Er',RZ w' r Er' z'∧cS cb ch cap w' (fun k=>k=cb∨k=ch) ts∧¬Er' cb∧¬Er' ch∧(∀k,Er' k→Er k∨w.heap.size≤k)∧Fr (fun k=>Er k∨k=cb∨k=ch) w w':=by
 obtain ⟨ov,bp,bv,D,q1,⟨c1,c2,c3,c4⟩,q3,q4⟩:=hM.ex
 have nb:∀k,(k=cb∨k=ch)→¬(k=r∨ov.ownBlock=some k∨bv.ownBlock=some k):=fun k hk e=>by
  obtain ⟨y1,y2,y3⟩:=q3 k ((c4 k).2 hk)
  rcases e with e | e | e
  ·exact y1 e
  ·exact y2 e
  exact y3 e
 refine ⟨fun k=>k=r∨ov.ownBlock=some k∨bv.ownBlock=some k,⟨ov,bp,bv,q1,fun _=>Iff.rfl⟩,⟨c1,c2,c3,fun _=>Iff.rfl⟩,nb cb (Or.inl rfl),nb ch (Or.inr rfl),fun k hk=>?_,hE.f⟩
 have hk2:E' k:=(q4 k).2 (by
  rcases hk with e | e | e
  ·exact Or.inl e
  ·exact Or.inr (Or.inl e)
  exact Or.inr (Or.inr (Or.inl e)))
 rcases hE.s k hk2 with (y | y) | y
 ·exact Or.inl y
 ·exact absurd hk (nb k y)
 exact Or.inr y
theorem rz_read {w:World} {r cb ch cap:Nat} {Er:Nat→Prop} {z:Sn} (hz:RZ w r Er z) (hc:cS cb ch cap w (fun k=>k=cb∨k=ch) []) (h1:¬Er cb) (h2:¬Er ch) (hok:SOk z) {sh:Sh} (hlk:Lk z sh) (hst:z.st≤10) (piece:ByteArray) (hl:z.at'+piece.size≤4000000) (hx:z.tx.length+piece.size≤4000000) (hr:(sRun z (bs piece)).ts.length≤cap) :
 Calls Tryz.prog 52 #[.pointer (some ⟨r,0,none⟩),.string piece,.func (.func 80) #[] #[.pointer (some ⟨cb,0,none⟩)]] w (RdP r cb ch cap Er (sRun z (bs piece)).e (if (sRun z (bs piece)).e=0 then 0 else (sRun z (bs piece)).z.at') (sRun z (bs piece)).z (sRun z (bs piece)).ts w):=by
 refine (t_Read (c_sink cb ch cap) (rm_of hz hc h1 h2) hok hlk hst piece hl hx (cV_all cap _ [] (by simpa using hr))).mono ?_
 rintro res w' ⟨rfl,E',hM,hE⟩
 exact ⟨rfl,rd_of (by simpa using hM) hE⟩
end Go.Proofs.YtcbadebjpogmlaaGreatDoor
namespace Go.Proofs.YtcbadebjpogmlaaGreatDoor
open Go.RowKit Tr Go.Conc
theorem infoTok:(Tryz.prog.info? 108).map (·.bytes)=some 56:=by kernel_rfl
theorem mk_chan (w:World) (n:Nat) (hn:n≤5000000):(Instr.makeChan 171 (.int .i64 (n:Nat))).run Tryz.prog w=.ok (.chan (some w.heap.size)) (w.alloc (.chan n #[] false 0 0 false)):=by
 obtain ⟨j,hj,hb⟩:=Option.map_eq_some_iff.1 infoTok
 exact run_makeChan (P:=Tryz.prog) (w:=w) Tryz.underlying171 hj .i64 n (by omega) (by rw [hb]; omega)
def GoP (sb r b f:Nat) (tt:ByteArray) (xs:List Sg) (Dp:Nat→Prop) (H:Nat→Option Obj) (Er E:Nat→Prop) (e at':Nat) (z':Sn) (s':Fw) (w:World) (res:Ending) (w':World):Prop :=
 ∃sv Er' E',res=.returned (.tuple #[sv,.int .i64 (e:Nat),.int .i64 (at':Nat)])∧RZ w' r Er' z'∧FE b f tt xs Dp H w' E' (noT s')∧w'.ownsRow 0 44 4 sv s'.told.length (s'.told.flatMap tcl)∧Blk w' sb #[fvp r,fvp f,.int .i64 0,.int .i64 0] 135∧(∀k,Er' k→¬E' k∧k≠sb)∧¬E' sb∧(∀k,sv.ownBlock=some k→¬E' k∧¬Er' k∧k≠sb∧(E k∨w.heap.size≤k))∧(∀k,Er' k→Er k∨w.heap.size≤k)∧(∀k,E' k→E k∨w.heap.size≤k)∧Fr (fun k=>Er k∨E k) w w'
set_option linter.unusedSimpArgs false in
set_option maxHeartbeats 4000000 in
set_option maxRecDepth 100000 in
theorem s_goOn {sb r b f:Nat} {tt:ByteArray} {xs:List Sg} {Dp:Nat→Prop} {H:Nat→Option Obj} {Er E:Nat→Prop} (hx:xs.length≤10) (hsel:selN xs≤10) (hpos:∀g ∈ xs,0<g.l.length) {w:World} {z z':Sn} {s:Fw} {e at':Nat} {ts:List Tok} (hB:Blk w sb #[fvp r,fvp f,.int .i64 0,.int .i64 0] 135) (hz:RZ w r Er z) (hF:FE b f tt xs Dp H w E s) (hdj:∀k,Er k→¬E k∧k≠sb) (hds:¬E sb) (q:ByteArray) (hq:q.size≤4000000) {N:Nat} {caps:Array Value} (hE:∀args w,(callFunc N args).run Tryz.prog w=.ok (.enter N args) w)
 (hrd:∀(w1:World) (cb ch:Nat),Keeps w w1→w.heap.size≤cb→w.heap.size≤ch→cS cb ch (room (bs q)) w1 (fun k=>k=cb∨k=ch) []→Calls Tryz.prog N (#[.func (.func 80) #[] #[.pointer (some ⟨cb,0,none⟩)]]++caps) w1 (RdP r cb ch (room (bs q)) Er e at' z' ts w1))
 (hok:OkL s.g.sh ts) (hl:∀t ∈ ts,t.t.length≤4000000) :
 Calls Tryz.prog 57 #[fvp sb,.string q,.func (.func N) #[] caps] w (GoP sb r b f tt xs Dp H Er E e at' z' (fRun xs s ts) w):=by
 have c2:w.cell? ⟨sb,2,none⟩=some (.int .i64 0):=hB.cell 2
 have RM:=hide (p_room (w:=w) q hq)
 obtain ⟨ch,hch⟩:∃ch,ch=w.heap.size:=⟨_,rfl⟩
 obtain ⟨cb,hcb⟩:∃cb,cb=w.heap.size+1:=⟨_,rfl⟩
 obtain ⟨W1,hW1⟩:∃W1,W1=(w.alloc (.chan (room (bs q)) #[] false 0 0 false)).alloc (.cells #[.chan (some ch)] 171):=⟨_,rfl⟩
 have K1:Keeps w W1:=by rw [hW1]; exact ((Fr.refl _ w).alloc _).alloc _
 have z1:W1.heap.size=w.heap.size+2:=by rw [hW1,World.size_alloc,World.size_alloc]
 have hsb:=hB.lt
 have hEl:∀k,E k→k<w.heap.size:=fun k hk=>hF.lt hk
 have hErl:∀k,Er k→k<w.heap.size:=fun k hk=>hz.lt hk
 have S1:cS cb ch (room (bs q)) W1 (fun k=>k=cb∨k=ch) []:=by
  refine ⟨?_,⟨0,0,false,?_⟩,by omega,fun _=>Iff.rfl⟩
  ·have:=Blk.new (w.alloc (.chan (room (bs q)) #[] false 0 0 false)) #[.chan (some ch)] 171
   rw [World.size_alloc,← hcb,← hW1] at this; exact this
  rw [hW1,Below.heap_alloc _ _ _ (by rw [World.size_alloc]; omega),hch]
  exact heap_alloc_new w _
 have RD:=hide (hrd W1 cb ch K1 (by omega) (by omega) S1)
 have NXT:Hid (∀w2 Er',RZ w2 r Er' z'→cS cb ch (room (bs q)) w2 (fun k=>k=cb∨k=ch) ts→¬Er' cb→¬Er' ch→(∀k,Er' k→Er k∨W1.heap.size≤k)→Fr (fun k=>Er k∨k=cb∨k=ch) W1 w2 →
  w2.cell? ⟨cb,0,none⟩=some (.chan (some ch))∧∃sn rn tm,w2.heap[ch]?=some (.chan (room (bs q)) (ts.map tagg).toArray false sn rn tm)∧∃w3:World,w3={ w2 with heap:=w2.heap.setIfInBounds ch (.chan (room (bs q)) (ts.map tagg).toArray true sn rn tm) }∧(w3.drew.cell? ⟨sb,1,none⟩=some (.pointer (some ⟨f,0,none⟩))∧w3.drew.cell? ⟨cb,0,none⟩=some (.chan (some ch))) ∧
  Calls Tryz.prog 81 #[.pointer (some ⟨f,0,none⟩),.chan (some ch)] w3.drew (fun res w4=>∃sv,res=.returned sv∧(w4.cell? ⟨sb,1,none⟩=some (.pointer (some ⟨f,0,none⟩))∧w4.cell? ⟨cb,0,none⟩=some (.chan (some ch)))∧GoP sb r b f tt xs Dp H Er E e at' z' (fRun xs s ts) w (.returned (.tuple #[sv,.int .i64 (e:Nat),.int .i64 (at':Nat)])) w4)):=fun w2 Er' r1 ⟨s1,⟨sn,rn,tm,s2⟩,s3,_⟩ r2 r3 r4 r5=>by
  refine ⟨s1.cell 0,sn,rn,tm,s2,_,rfl,?_⟩
  obtain ⟨w3,hw3⟩:∃w3:World,w3={ w2 with heap:=w2.heap.setIfInBounds ch (.chan (room (bs q)) (ts.map tagg).toArray true sn rn tm) }:=⟨_,rfl⟩
  rw [← hw3]
  have hcl:=lt_of_some s2
  have hk3:∀k,k≠ch→w3.heap[k]?=w2.heap[k]?:=fun k hk=>by rw [hw3]; simp [Ne.symm hk]
  have hc3:w3.heap[ch]?=some (.chan (room (bs q)) (ts.map tagg).toArray true sn rn tm):=by rw [hw3]; simp [hcl]
  have z3:w3.heap.size=w2.heap.size:=by rw [hw3]; simp
  have z2:=r5.size
  have old:∀k,k<w.heap.size→¬Er k→w3.drew.heap[k]?=w.heap[k]?:=fun k hk hn=>by
   show w3.heap[k]?=_
   rw [hk3 k (by omega),r5.block k (by omega) (fun y=>by
    rcases y with y | y | y
    ·exact hn y
    ·omega
    omega)]
   exact K1.block k hk id
  have F3:FE b f tt xs Dp H w3.drew E s:=hF.keep hx hsel (fun k hk=>old k (hEl k hk) (fun y=>(hdj k y).1 hk)) (by show w.heap.size≤w3.heap.size; omega)
  have B3:Blk w3.drew sb #[fvp r,fvp f,.int .i64 0,.int .i64 0] 135:=(old sb hsb (fun y=>(hdj sb y).2 rfl)).trans hB
  have C3:Blk w3.drew cb #[.chan (some ch)] 171:=(hk3 cb s3).trans s1
  have R3:RZ w3.drew r Er' z':=r1.keep (fun k hk=>hk3 k (fun y=>r3 (y▸hk)))
  have hEc:¬E ch:=fun y=>by have:=hEl _ y; omega
  refine ⟨⟨B3.cell 1,C3.cell 0⟩,?_⟩
  refine (f_follow hx hsel hpos F3 hc3 hEc hok hl).mono ?_
  rintro res w4 ⟨sv,E',rfl,p1,p2,p3,p4,p5⟩
  have hz3:w3.drew.heap.size=w2.heap.size:=z3
  have nE:∀k,E' k→E k∨w2.heap.size≤k:=fun k hk=>by rw [← hz3]; exact p4 k hk
  have B4:Blk w4 sb #[fvp r,fvp f,.int .i64 0,.int .i64 0] 135:=B3.fr p5 (fun y=>by
   rcases y with y | y
   ·exact hds y
   omega)
  have C4:Blk w4 cb #[.chan (some ch)] 171:=C3.fr p5 (fun y=>by
   rcases y with y | y
   ·have:=hEl _ y; omega
   exact s3 y)
  have nEr:∀k,Er' k→¬E k:=fun k hk y=>by
   rcases r4 k hk with u | u
   ·exact (hdj k u).1 y
   have:=hEl k y; omega
  refine ⟨sv,rfl,⟨B4.cell 1,C4.cell 0⟩,sv,Er',E',rfl,R3.keep (fun k hk=>p5.block k (R3.lt hk) (fun y=>?_)),p1,p2,B4,fun k hk=>⟨fun y=>?_,fun y=>?_⟩,fun y=>?_,fun k hk=>⟨(p3 k hk).1,fun y=>?_,fun y=>?_,?_⟩,fun k hk=>?_,fun k hk=>?_,?_⟩
  ·rcases y with y | y
   ·exact nEr k hk y
   exact r3 (y▸hk)
  ·rcases nE k y with u | u
   ·exact nEr k hk u
   have:=r1.lt hk; omega
  ·rcases r4 k hk with u | u
   ·exact (hdj k u).2 y
   omega
  ·rcases nE sb y with u | u
   ·exact hds u
   omega
  ·rcases (p3 k hk).2 with u | u
   ·exact nEr k y u
   have:=R3.lt y; omega
  ·rcases (p3 k hk).2 with u | u
   ·exact hds (y▸u)
   rw [hz3] at u; omega
  ·rcases (p3 k hk).2 with u | u
   ·exact Or.inl u
   exact Or.inr (by rw [hz3] at u; omega)
  ·rcases r4 k hk with u | u
   ·exact Or.inl u
   exact Or.inr (by omega)
  ·rcases nE k hk with u | u
   ·exact Or.inl u
   exact Or.inr (by omega)
  have o3:w3.drew.os=w2.os:=by rw [hw3]; rfl
  have t3:w3.drew.tape=w2.tape:=by rw [hw3]; rfl
  have u3:w3.drew.output=w2.output:=by rw [hw3]; rfl
  refine ⟨p5.os.trans (o3.trans (r5.os.trans K1.os)),p5.tape.trans (t3.trans (r5.tape.trans K1.tape)),p5.output.trans (u3.trans (r5.output.trans K1.output)),by have:=p5.size; omega,fun k hk hn=>?_⟩
  rw [p5.block k (by omega) (fun y=>?_)]
  ·exact old k hk (fun y=>hn (Or.inl y))
  rcases y with y | y
  ·exact hn (Or.inr y)
  omega
 have hrl:=room_le (bs q)
 rw [bs_len] at hrl
 have hmk:=mk_chan w (room (bs q)) (by omega)
 have HW1:=hide hW1
 have HCH:=hide hch
 have HCB:=hide hcb
 clear hB hz hF hdj hds hrd hok hl hW1 K1 z1 hsb hEl hErl S1 hch hcb hx hsel hpos hrl
 unfold fvp
 go_enter Tryz.func57,Tryz.ntmps57
 go_wp2_with fail
 refine RM.out.mono ?_
 rintro res w0 ⟨rfl,rfl⟩
 go_wp2
 rw [← HCB.out,← HCH.out,← HW1.out]
 refine RD.out.mono ?_
 rintro res w2 ⟨rfl,Er',r1,s1,r2,r3,r4,r5⟩
 obtain ⟨c0,sn,rn,tm,s2,w3,hw3,ss,FOL⟩:=NXT.out w2 Er' r1 s1 r2 r3 r4 r5
 have HW3:=hide hw3
 have SS:=hide ss
 have FL:=hide FOL
 have hcls:=fun ats ty=>run_close_open (P:=Tryz.prog) (w:=w2) ats ty s2
 clear r1 s1 r2 r3 r4 r5 hw3 ss FOL hmk NXT RD RM
 go_wp2
 rw [← HW3.out]
 refine wp_region_held_drew (S:=fun w'=>w'.cell? ⟨sb,1,none⟩=some (.pointer (some ⟨f,0,none⟩))∧w'.cell? ⟨cb,0,none⟩=some (.chan (some ch))) (by kernel_rfl) SS.out (fun _=>?_)
 refine wpAnyH_take (i:=0) (v:=?v1) rfl (by kernel_rfl) (by kernel_rfl) (by kernel_rfl) (fun _ _ _ h=>h) (Or.inl ⟨by rfl,?hy1⟩) (by assumption) ?rest1
 case hy1=>(intro w hSw; (try dsimp only at hSw); (obtain ⟨q0,q1⟩:=hSw; (go_simp<;>with_reducible rfl)))
 try simp only [Act.put,nrm]
 refine wpAnyH_take (i:=1) (v:=?v2) rfl (by kernel_rfl) (by kernel_rfl) (by kernel_rfl) (fun _ _ _ h=>h) (Or.inl ⟨by rfl,?hy2⟩) (by assumption) ?rest2
 case hy2=>(intro w hSw; (try dsimp only at hSw); (obtain ⟨q0,q1⟩:=hSw; (go_simp<;>with_reducible rfl)))
 try simp only [Act.put,nrm]
 refine wpAnyH_take (i:=2) (v:=?v3) rfl (by kernel_rfl) (by kernel_rfl) (by kernel_rfl) (fun _ _ _ h=>h) (Or.inl ⟨by rfl,?hy3⟩) (by assumption) ?rest3
 case hy3=>(intro w hSw; (try dsimp only at hSw); (obtain ⟨q0,q1⟩:=hSw; (go_simp<;>with_reducible rfl)))
 try simp only [Act.put,nrm]
 refine wpAnyH_take (i:=3) (v:=?v4) rfl (by kernel_rfl) (by kernel_rfl) (by kernel_rfl) (fun _ _ _ h=>h) (Or.inl ⟨by rfl,?hy4⟩) (by assumption) ?rest4
 case hy4=>(intro w hSw; (try dsimp only at hSw); (obtain ⟨q0,q1⟩:=hSw; (go_simp<;>with_reducible rfl)))
 try simp only [Act.put,nrm]
 refine wpAnyH_take (i:=4) (v:=?v5) rfl (by kernel_rfl) (by kernel_rfl) (by kernel_rfl) (fun _ _ _ h=>h) (Or.inl ⟨by rfl,?hy5⟩) (by assumption) ?rest5
 case hy5=>(intro w hSw; (try dsimp only at hSw); (obtain ⟨q0,q1⟩:=hSw; (go_simp<;>with_reducible rfl)))
 try simp only [Act.put,nrm]
 refine wpAnyH_take (i:=6) (v:=?v6) rfl (by kernel_rfl) (by kernel_rfl) (by kernel_rfl) (fun _ _ _ h=>h) (Or.inl ⟨by rfl,?hy6⟩) (by assumption) ?rest6
 case hy6=>(intro w hSw; (try dsimp only at hSw); (obtain ⟨q0,q1⟩:=hSw; (go_simp<;>with_reducible rfl)))
 try simp only [Act.put,nrm]
 refine wpAnyH_take (i:=7) (v:=?v7) rfl (by kernel_rfl) (by kernel_rfl) (by kernel_rfl) (fun _ _ _ h=>h) (Or.inl ⟨by rfl,?hy7⟩) (by assumption) ?rest7
 case hy7=>(intro w hSw; (try dsimp only at hSw); (obtain ⟨q0,q1⟩:=hSw; (go_simp<;>with_reducible rfl)))
 try simp only [Act.put,nrm]
 refine wpAnyH_ready (rs:=[5]) (by kernel_rfl) (by simp) ?_
 refine AllReadyH.cons rfl (fun K hK=>?_) AllReadyH.nil
 go_simp
 refine FL.out.mono ?_
 rintro res w4 ⟨sv,rfl,ss4,gp⟩
 have GP:=hide gp
 have SS4:=hide ss4
 clear gp ss4 hcls
 refine hK.out _ _ SS4.out (fun _=>?_)
 clear hK K
 try simp only [Act.put,nrm]
 refine wpAnyH_take (i:=8) (v:=?v8) rfl (by kernel_rfl) (by kernel_rfl) (by kernel_rfl) (fun _ _ _ h=>h) (Or.inl ⟨by rfl,?hy8⟩) (by assumption) ?rest8
 case hy8=>(intro w hSw; (try dsimp only at hSw); (obtain ⟨q0,q1⟩:=hSw; (go_simp<;>with_reducible rfl)))
 try simp only [Act.put,nrm]
 refine wpAnyH_take (i:=9) (v:=?v9) rfl (by kernel_rfl) (by kernel_rfl) (by kernel_rfl) (fun _ _ _ h=>h) (Or.inl ⟨by rfl,?hy9⟩) (by assumption) ?rest9
 case hy9=>(intro w hSw; (try dsimp only at hSw); (obtain ⟨q0,q1⟩:=hSw; (go_simp<;>with_reducible rfl)))
 try simp only [Act.put,nrm]
 refine wpAnyH_take (i:=10) (v:=?v10) rfl (by kernel_rfl) (by kernel_rfl) (by kernel_rfl) (fun _ _ _ h=>h) (Or.inl ⟨by rfl,?hy10⟩) (by assumption) ?rest10
 case hy10=>(intro w hSw; (try dsimp only at hSw); (obtain ⟨q0,q1⟩:=hSw; (go_simp<;>with_reducible rfl)))
 try simp only [Act.put,nrm]
 refine wpAnyH_done (by kernel_rfl) ?_ _
 go_wp2
 go_ret3
 exact GP.out
end Go.Proofs.YtcbadebjpogmlaaGreatDoor
