import Derived.Test.YtcbadebjpogmlaaGreatDoorPCh
import Derived.Test.YtcbadebjpogmlaaGreatDoorPMkZ
import Derived.Test.YtcbadebjpogmlaaGreatDoorPAa
import Derived.Test.YtcbadebjpogmlaaGreatDoorPBase
namespace Go.Proofs.YtcbadebjpogmlaaGreatDoor
open Go.RowKit Tr Go.Conc
set_option maxRecDepth 100000 in
theorem s_goOn0 {w:World} {sb e at':Nat} {c0 c1:Value} (hB:Blk w sb #[c0,c1,.int .i64 (e:Nat),.int .i64 (at':Nat)] 135) (he:e≠0) (q:ByteArray) (rv:Value) :
 Calls Tryz.prog 57 #[fvp sb,.string q,rv] w fun r w'=>r=.returned (.tuple #[.slice none 0 0,.int .i64 (e:Nat),.int .i64 (at':Nat)])∧Keeps w w':=by
 have d2:w.cell? ⟨sb,2,none⟩=some (.int .i64 (e:Nat)):=hB.cell 2
 have d3:w.cell? ⟨sb,3,none⟩=some (.int .i64 (at':Nat)):=hB.cell 3
 have hne:((e:Int) != 0)=true:=by rw [bne_iff_ne]; omega
 have he2:¬(e:Int)=0:=by omega
 clear hB he
 unfold fvp
 go_enter Tryz.func57,Tryz.ntmps57
 go_wp2
 go_quiet (fail)
 go_wp2
 go_ret3
 exact ⟨rfl,(Fr.refl _ _).drewN _⟩
set_option maxRecDepth 100000 in
theorem s_stop {w:World} {sb:Nat} {c0 c1 c2 c3:Value} (hB:Blk w sb #[c0,c1,c2,c3] 135) (e at':Nat) :
 Calls Tryz.prog 59 #[fvp sb,.int .i64 (e:Nat),.int .i64 (at':Nat)] w fun r w'=>r=.returned (.tuple #[])∧Blk w' sb #[.pointer none,.pointer none,.int .i64 (e:Nat),.int .i64 (at':Nat)] 135∧Fr (fun k=>k=sb) w w':=by
 have d0:w.cell? ⟨sb,0,none⟩=some c0:=hB.cell 0
 have d1:w.cell? ⟨sb,1,none⟩=some c1:=hB.cell 1
 have d2:w.cell? ⟨sb,2,none⟩=some c2:=hB.cell 2
 have d3:w.cell? ⟨sb,3,none⟩=some c3:=hB.cell 3
 have fz:=hB.fz
 unfold fvp
 go_enter Tryz.func59,Tryz.ntmps59
 go_wp2
 go_end0
 refine ⟨rfl,((((hB.set 0 _).set 1 _).set 2 _).set 3 _),?_⟩
 exact ((((Fr.refl (fun k=>k=sb) w).setCell ⟨sb,0,none⟩ (Or.inl rfl) _).setCell ⟨sb,1,none⟩ (Or.inl rfl) _).setCell ⟨sb,2,none⟩ (Or.inl rfl) _).setCell ⟨sb,3,none⟩ (Or.inl rfl) _
set_option linter.unusedSimpArgs false in
set_option maxHeartbeats 2000000 in
set_option maxRecDepth 100000 in
theorem s_feed1 {w:World} {sb xb pb r:Nat} {c1 c2 c3:Value} {q:ByteArray} (hX:Blk w xb #[fvp sb] 80) (hP:Blk w pb #[.string q] 9) (hB:Blk w sb #[fvp r,c1,c2,c3] 135) {tell:Value} {Q:Ending→World→Prop} {e at':Nat} (hQ:∀res w',Q res w'→res=.returned (.tuple #[.int .i64 (e:Nat),.int .i64 (at':Nat)])∧Blk w' xb #[fvp sb] 80∧Blk w' pb #[.string q] 9∧Blk w' sb #[fvp r,c1,c2,c3] 135)
 (hrd:Calls Tryz.prog 52 #[fvp r,.string q,tell] w.drew Q) :
 Calls Tryz.prog 58 #[tell,fvp xb,fvp pb] w Q:=by
 have SS:Hid (∀W,Blk W xb #[fvp sb] 80→Blk W pb #[.string q] 9→Blk W sb #[fvp r,c1,c2,c3] 135→W.cell? ⟨xb,0,none⟩=some (.pointer (some ⟨sb,0,none⟩))∧W.cell? ⟨pb,0,none⟩=some (.string q)∧W.cell? ⟨sb,0,none⟩=some (.pointer (some ⟨r,0,none⟩))):=fun W h1 h2 h3=>⟨h1.cell 0,h2.cell 0,h3.cell 0⟩
 have S0:=hide (SS.out w.drew hX hP hB)
 have RD:=hide hrd
 have HQ:=hide hQ
 clear hX hP hB hrd hQ
 unfold fvp at *
 go_enter Tryz.func58,Tryz.ntmps58
 go_wp2
 refine wp_region_held_drew (S:=fun w'=>w'.cell? ⟨xb,0,none⟩=some (.pointer (some ⟨sb,0,none⟩))∧w'.cell? ⟨pb,0,none⟩=some (.string q)∧w'.cell? ⟨sb,0,none⟩=some (.pointer (some ⟨r,0,none⟩))) (by kernel_rfl) S0.out (fun _=>?_)
 refine wpAnyH_take (i:=0) (v:=?v1) rfl (by kernel_rfl) (by kernel_rfl) (by kernel_rfl) (fun _ _ _ h=>h) (Or.inl ⟨by rfl,?hy1⟩) (by assumption) ?rest1
 case hy1=>(intro w hSw; (try dsimp only at hSw); (obtain ⟨q0,q1,q2⟩:=hSw; (go_simp<;>with_reducible rfl)))
 try simp only [Act.put,nrm]
 refine wpAnyH_take (i:=1) (v:=?v2) rfl (by kernel_rfl) (by kernel_rfl) (by kernel_rfl) (fun _ _ _ h=>h) (Or.inl ⟨by rfl,?hy2⟩) (by assumption) ?rest2
 case hy2=>(intro w hSw; (try dsimp only at hSw); (obtain ⟨q0,q1,q2⟩:=hSw; (go_simp<;>with_reducible rfl)))
 try simp only [Act.put,nrm]
 refine wpAnyH_take (i:=2) (v:=?v3) rfl (by kernel_rfl) (by kernel_rfl) (by kernel_rfl) (fun _ _ _ h=>h) (Or.inl ⟨by rfl,?hy3⟩) (by assumption) ?rest3
 case hy3=>(intro w hSw; (try dsimp only at hSw); (obtain ⟨q0,q1,q2⟩:=hSw; (go_simp<;>with_reducible rfl)))
 try simp only [Act.put,nrm]
 refine wpAnyH_take (i:=3) (v:=?v4) rfl (by kernel_rfl) (by kernel_rfl) (by kernel_rfl) (fun _ _ _ h=>h) (Or.inl ⟨by rfl,?hy4⟩) (by assumption) ?rest4
 case hy4=>(intro w hSw; (try dsimp only at hSw); (obtain ⟨q0,q1,q2⟩:=hSw; (go_simp<;>with_reducible rfl)))
 try simp only [Act.put,nrm]
 refine wpAnyH_take (i:=4) (v:=?v5) rfl (by kernel_rfl) (by kernel_rfl) (by kernel_rfl) (fun _ _ _ h=>h) (Or.inl ⟨by rfl,?hy5⟩) (by assumption) ?rest5
 case hy5=>(intro w hSw; (try dsimp only at hSw); (obtain ⟨q0,q1,q2⟩:=hSw; (go_simp<;>with_reducible rfl)))
 try simp only [Act.put,nrm]
 refine wpAnyH_take (i:=5) (v:=?v6) rfl (by kernel_rfl) (by kernel_rfl) (by kernel_rfl) (fun _ _ _ h=>h) (Or.inl ⟨by rfl,?hy6⟩) (by assumption) ?rest6
 case hy6=>(intro w hSw; (try dsimp only at hSw); (obtain ⟨q0,q1,q2⟩:=hSw; (go_simp<;>with_reducible rfl)))
 try simp only [Act.put,nrm]
 refine wpAnyH_ready (rs:=[6]) (by kernel_rfl) (by simp) ?_
 refine AllReadyH.cons rfl (fun K hK=>?_) AllReadyH.nil
 go_simp
 refine RD.out.mono ?_
 intro res w2 hq2
 obtain ⟨rfl,y1,y2,y3⟩:=HQ.out res w2 hq2
 have H2:=hide hq2
 have S2:=hide (SS.out w2 y1 y2 y3)
 clear hq2 y1 y2 y3
 refine hK.out _ _ S2.out (fun _=>?_)
 clear hK K
 try simp only [Act.put,nrm]
 refine wpAnyH_take (i:=7) (v:=?v7) rfl (by kernel_rfl) (by kernel_rfl) (by kernel_rfl) (fun _ _ _ h=>h) (Or.inl ⟨by rfl,?hy7⟩) (by assumption) ?rest7
 case hy7=>(intro w hSw; (try dsimp only at hSw); (obtain ⟨q0,q1,q2⟩:=hSw; (go_simp<;>with_reducible rfl)))
 try simp only [Act.put,nrm]
 refine wpAnyH_take (i:=8) (v:=?v8) rfl (by kernel_rfl) (by kernel_rfl) (by kernel_rfl) (fun _ _ _ h=>h) (Or.inl ⟨by rfl,?hy8⟩) (by assumption) ?rest8
 case hy8=>(intro w hSw; (try dsimp only at hSw); (obtain ⟨q0,q1,q2⟩:=hSw; (go_simp<;>with_reducible rfl)))
 try simp only [Act.put,nrm]
 refine wpAnyH_take (i:=9) (v:=?v9) rfl (by kernel_rfl) (by kernel_rfl) (by kernel_rfl) (fun _ _ _ h=>h) (Or.inl ⟨by rfl,?hy9⟩) (by assumption) ?rest9
 case hy9=>(intro w hSw; (try dsimp only at hSw); (obtain ⟨q0,q1,q2⟩:=hSw; (go_simp<;>with_reducible rfl)))
 try simp only [Act.put,nrm]
 refine wpAnyH_take (i:=10) (v:=?v10) rfl (by kernel_rfl) (by kernel_rfl) (by kernel_rfl) (fun _ _ _ h=>h) (Or.inl ⟨by rfl,?hy10⟩) (by assumption) ?rest10
 case hy10=>(intro w hSw; (try dsimp only at hSw); (obtain ⟨q0,q1,q2⟩:=hSw; (go_simp<;>with_reducible rfl)))
 try simp only [Act.put,nrm]
 refine wpAnyH_done (by kernel_rfl) ?_ _
 go_wp2
 exact H2.out
end Go.Proofs.YtcbadebjpogmlaaGreatDoor
namespace Go.Proofs.YtcbadebjpogmlaaGreatDoor
open Go.RowKit Tr Go.Conc
theorem FE.same {b f:Nat} {tt:ByteArray} {xs:List Sg} {Dp:Nat→Prop} {H:Nat→Option Obj} {w:World} {E:Nat→Prop} {s:Fw} (h:FE b f tt xs Dp H w E s) {k:Nat} (hk:Dp k∨gEN k):w.heap[k]?=H k∧E k:=by
 obtain ⟨x,A,C,M,D,h1,h2⟩:=h
 exact ⟨h1.g.s.sm k hk,(h2 k).2 (Or.inl ((h1.g.s.d k).2 (hk.elim Or.inl (fun y=>Or.inr (Or.inl y)))))⟩
def FdP (sb r b f:Nat) (tt:ByteArray) (xs:List Sg) (Dp:Nat→Prop) (H:Nat→Option Obj) (Er E:Nat→Prop) (F:Sf) (s':Fw) (w:World) (res:Ending) (w':World):Prop :=
 ∃sv,res=.returned (.tuple #[sv,.int .i64 (F.e:Nat),.int .i64 ((if F.e=0 then 0 else F.z.at':Nat):Int)])∧w'.ownsRow 0 44 4 sv s'.told.length (s'.told.flatMap tcl)∧(∀k,sv.ownBlock=some k→(k≠sb∧¬(Dp k∨gEN k))∧(E k∨w.heap.size≤k))∧Fr (fun k=>Er k∨E k∨k=sb) w w'∧(∀k,Dp k∨gEN k→w'.heap[k]?=H k) ∧
  (F.e=0→∃Er' E',RZ w' r Er' F.z∧FE b f tt xs Dp H w' E' (noT s')∧Blk w' sb #[fvp r,fvp f,.int .i64 0,.int .i64 0] 135∧(∀k,Er' k→¬E' k∧k≠sb)∧¬E' sb∧(∀k,sv.ownBlock=some k→¬E' k∧¬Er' k)∧(∀k,Er' k→Er k∨w.heap.size≤k)∧∀k,E' k→E k∨w.heap.size≤k) ∧
  (F.e≠0→Blk w' sb #[.pointer none,.pointer none,.int .i64 (F.e:Nat),.int .i64 (F.z.at':Nat)] 135)
set_option maxHeartbeats 4000000 in
set_option maxRecDepth 100000 in
theorem s_feed {sb r b f:Nat} {tt:ByteArray} {xs:List Sg} {Dp:Nat→Prop} {H:Nat→Option Obj} {Er E:Nat→Prop} (hx:xs.length≤10) (hsel:selN xs≤10) (hpos:∀g ∈ xs,0<g.l.length) {w:World} {z:Sn} {s:Fw} (hB:Blk w sb #[fvp r,fvp f,.int .i64 0,.int .i64 0] 135) (hz:RZ w r Er z) (hF:FE b f tt xs Dp H w E s) (hdj:∀k,Er k→¬E k∧k≠sb) (hds:¬E sb) (q:ByteArray) (hok:SOk z) (hlk:Lk z s.g.sh) (hst:z.st≤10) (hwd:WdOk z) (hl:z.at'+q.size≤4000000) (hxx:z.tx.length+q.size≤4000000) (hnm:∀t ∈ (sRun z (bs q)).ts,t.t.length≤4000000) :
 Calls Tryz.prog 38 #[fvp sb,.string q] w (FdP sb r b f tt xs Dp H Er E (sRun z (bs q)) (fRun xs s (sRun z (bs q)).ts) w):=by
 have hlen:(bs q).length=q.size:=bs_len q
 have R:=run_ok' (bs q) hok hlk hst (by omega)
 have hroom:=room_ok (l:=bs q) hok hlk hst (by omega) hwd
 obtain ⟨F,hFd⟩:∃F,F=sRun z (bs q):=⟨_,rfl⟩
 have hRr:∀{w1:World} {cb ch:Nat},RZ w1 r Er z→cS cb ch (room (bs q)) w1 (fun k=>k=cb∨k=ch) []→¬Er cb→¬Er ch→Calls Tryz.prog 52 #[.pointer (some ⟨r,0,none⟩),.string q,.func (.func 80) #[] #[.pointer (some ⟨cb,0,none⟩)]] w1 (RdP r cb ch (room (bs q)) Er F.e (if F.e=0 then 0 else F.z.at') F.z F.ts w1):=fun h1 h2 h3 h4=>by rw [hFd]; exact rz_read h1 h2 h3 h4 hok hlk hst q hl hxx hroom
 rw [← hFd] at R hnm ⊢
 obtain ⟨xb,hxb⟩:∃xb,xb=w.heap.size:=⟨_,rfl⟩
 obtain ⟨pb,hpb⟩:∃pb,pb=w.heap.size+1:=⟨_,rfl⟩
 obtain ⟨W1,hW1⟩:∃W1,W1=(w.alloc (.cells #[.pointer (some ⟨sb,0,none⟩)] 80)).alloc (.cells #[.string q] 9):=⟨_,rfl⟩
 have K1:Keeps w W1:=by rw [hW1]; exact ((Fr.refl _ w).alloc _).alloc _
 have z1:W1.heap.size=w.heap.size+2:=by rw [hW1,World.size_alloc,World.size_alloc]
 have hsb:=hB.lt
 have X1:Blk W1 xb #[fvp sb] 80:=by rw [hW1,hxb]; exact (Blk.new w _ _).alloc _
 have P1:Blk W1 pb #[.string q] 9:=by
  have:=Blk.new (w.alloc (.cells #[.pointer (some ⟨sb,0,none⟩)] 80)) #[.string q] 9
  rw [World.size_alloc,← hpb,← hW1] at this; exact this
 have B1:=hB.fr K1 id
 have Z1:RZ W1 r Er z:=hz.keep (fun k hk=>K1.block k (hz.lt hk) id)
 have F1:FE b f tt xs Dp H W1 E s:=hF.keep hx hsel (fun k hk=>K1.block k (hF.lt hk) id) K1.size
 have hErl:∀k,Er k→k<w.heap.size:=fun k hk=>hz.lt hk
 have hEl:∀k,E k→k<w.heap.size:=fun k hk=>hF.lt hk
 have c0:W1.cell? ⟨xb,0,none⟩=some (.pointer (some ⟨sb,0,none⟩)):=X1.cell 0
 have c1:W1.cell? ⟨pb,0,none⟩=some (.string q):=P1.cell 0
 have GO:Hid (Calls Tryz.prog 57 #[.pointer (some ⟨sb,0,none⟩),.string q,.func (.func 58) #[] #[.pointer (some ⟨xb,0,none⟩),.pointer (some ⟨pb,0,none⟩)]] W1 (GoP sb r b f tt xs Dp H Er E F.e (if F.e=0 then 0 else F.z.at') F.z (fRun xs s F.ts) W1)):=by
  refine s_goOn hx hsel hpos B1 Z1 F1 hdj hds q (by omega) (fun _ _=>Tryz.call58 _ _) (fun w2 cb ch k2 hcb hch hc=>?_) R.tok hnm
  have k2':Keeps W1 w2.drew:=k2.drewN 1
  have hcd:cS cb ch (room (bs q)) w2.drew (fun k=>k=cb∨k=ch) []:=(c_sink cb ch _).keep hc (fun _ _=>rfl) (Nat.le_refl _)
  have nc:¬Er cb:=fun y=>by have:=hErl _ y; omega
  have nh:¬Er ch:=fun y=>by have:=hErl _ y; omega
  have Z2:RZ w2.drew r Er z:=Z1.keep (fun k hk=>k2'.block k (Z1.lt hk) id)
  refine (s_feed1 (X1.fr k2 id) (P1.fr k2 id) (B1.fr k2 id) (e:=F.e) (at':=if F.e=0 then 0 else F.z.at') (fun res w' h=>?_) (hRr Z2 hcd nc nh)).mono ?_
  ·obtain ⟨h1,_,_,_,_,_,_,h5⟩:=h
   have nK:∀k,k<W1.heap.size→¬Er k→¬(Er k∨k=cb∨k=ch):=fun k hk hn y=>by
    rcases y with y | y | y
    ·exact hn y
    ·omega
    omega
   exact ⟨h1,(X1.fr k2' id).fr h5 (nK xb X1.lt (fun y=>by have:=hErl _ y; omega)),(P1.fr k2' id).fr h5 (nK pb P1.lt (fun y=>by have:=hErl _ y; omega)),(B1.fr k2' id).fr h5 (nK sb B1.lt (fun y=>(hdj sb y).2 rfl))⟩
  rintro res w' ⟨h1,Er',h2,h3,h4,h5,h6,h7⟩
  exact ⟨h1,Er',h2,h3,h4,h5,h6,((Fr.refl _ w2).drewN 1).trans h7⟩
 have FIN0:Hid (∀sv w2,GoP sb r b f tt xs Dp H Er E F.e (if F.e=0 then 0 else F.z.at') F.z (fRun xs s F.ts) W1 (.returned (.tuple #[sv,.int .i64 (F.e:Nat),.int .i64 ((if F.e=0 then 0 else F.z.at':Nat):Int)])) w2→F.e=0→FdP sb r b f tt xs Dp H Er E F (fRun xs s F.ts) w (.returned (.tuple #[sv,.int .i64 (F.e:Nat),.int .i64 ((if F.e=0 then 0 else F.z.at':Nat):Int)])) w2):=fun sv w2 ⟨sv',Er',E',g1,g2,g3,g4,g5,g6,g7,g8,g9,g10,g11⟩ he=>by
  have e1:sv=sv':=by simpa using g1
  subst e1
  refine ⟨sv,rfl,g4,fun k hk=>⟨⟨(g8 k hk).2.2.1,fun y=>(g8 k hk).1 (g3.same y).2⟩,(g8 k hk).2.2.2.imp id (fun y=>by omega)⟩,(K1.mono (fun _ _ e=>e.elim)).trans (g11.mono (fun k _ e=>e.imp id Or.inl)),fun k hk=>(g3.same hk).1,fun _=>⟨Er',E',g2,g3,g5,g6,g7,fun k hk=>⟨(g8 k hk).1,(g8 k hk).2.1⟩,fun k hk=>(g9 k hk).imp id (fun y=>by omega),fun k hk=>(g10 k hk).imp id (fun y=>by omega)⟩,fun y=>absurd he y⟩
 have FIN1:Hid (∀sv w2,GoP sb r b f tt xs Dp H Er E F.e (if F.e=0 then 0 else F.z.at') F.z (fRun xs s F.ts) W1 (.returned (.tuple #[sv,.int .i64 (F.e:Nat),.int .i64 ((if F.e=0 then 0 else F.z.at':Nat):Int)])) w2→F.e≠0→w2.cell? ⟨xb,0,none⟩=some (.pointer (some ⟨sb,0,none⟩))∧Calls Tryz.prog 59 #[.pointer (some ⟨sb,0,none⟩),.int .i64 (F.e:Nat),.int .i64 ((if F.e=0 then 0 else F.z.at':Nat):Int)] w2 (fun r' w3=>r'=.returned (.tuple #[])∧FdP sb r b f tt xs Dp H Er E F (fRun xs s F.ts) w (.returned (.tuple #[sv,.int .i64 (F.e:Nat),.int .i64 ((if F.e=0 then 0 else F.z.at':Nat):Int)])) w3)):=fun sv w2 ⟨sv',Er',E',g1,g2,g3,g4,g5,g6,g7,g8,g9,g10,g11⟩ he=>by
  have e1:sv=sv':=by simpa using g1
  subst e1
  refine ⟨((X1.fr g11 (fun y=>?_)).cell 0),(s_stop g5 F.e (if F.e=0 then 0 else F.z.at')).mono ?_⟩
  ·rcases y with y | y
   ·have:=hErl _ y; omega
   have:=hEl _ y; omega
  rintro r' w3 ⟨rfl,t1,t2⟩
  refine ⟨rfl,sv,rfl,own_at' g4 (fun k hk=>t2.block k (g4.lt k hk).2 (fun y=>(g8 k hk).2.2.1 y)),fun k hk=>⟨⟨(g8 k hk).2.2.1,fun y=>(g8 k hk).1 (g3.same y).2⟩,(g8 k hk).2.2.2.imp id (fun y=>by omega)⟩,?_,fun k hk=>(t2.block k (g3.lt (g3.same hk).2) (fun y=>g7 (y▸(g3.same hk).2))).trans (g3.same hk).1,fun y=>absurd y he,fun _=>?_⟩
  ·exact ((K1.mono (fun _ _ e=>e.elim)).trans (g11.mono (fun k _ e=>e.imp id Or.inl))).trans (t2.mono (fun k _ e=>Or.inr (Or.inr e)))
  rw [if_neg he] at t1; exact t1
 have HW1:=hide hW1
 have HXB:=hide hxb
 have HPB:=hide hpb
 generalize hat:(if F.e=0 then 0 else F.z.at')=at' at *
 clear R hroom hRr hB hz hF hdj hds hok hlk hst hwd hl hxx hnm K1 z1 X1 P1 B1 Z1 F1 hErl hEl hW1 hxb hpb hsb hFd hx hsel hpos hlen
 unfold fvp
 go_enter Tryz.func38,Tryz.ntmps38
 go_wp2_with fail
 rw [← HPB.out,← HXB.out,← HW1.out]
 refine GO.out.mono ?_
 intro res w2 hg
 obtain ⟨sv,_,_,rfl,_⟩:=id hg
 by_cases he:F.e=0
 ·have R0:=hide (FIN0.out sv w2 hg he)
  have hd:((F.e:Int) != 0)=false:=by rw [he]; rfl
  have hd2:(F.e:Int)=0:=by omega
  rw [hd2] at R0
  clear hg c0 c1 FIN0 FIN1 GO he
  go_wp2
  go_ret3
  exact R0.out
 obtain ⟨c3,ST⟩:=FIN1.out sv w2 hg he
 have TT:=hide ST
 have hd:((F.e:Int) != 0)=true:=by rw [bne_iff_ne]; omega
 have hd2:¬(F.e:Int)=0:=by omega
 clear hg c0 c1 FIN0 FIN1 GO he ST
 go_wp2_with fail
 refine TT.out.mono ?_
 rintro r' w3 ⟨rfl,hf⟩
 have HF:=hide hf
 clear hf
 go_wp2
 go_ret3
 exact HF.out
end Go.Proofs.YtcbadebjpogmlaaGreatDoor
namespace Go.Proofs.YtcbadebjpogmlaaGreatDoor
open Go.RowKit Tr
def QryV (w:World) (gq:Nat) (tt:ByteArray) (xs:List Sg):Prop:=∃b D,Ft D 0 w∧OkD D w (fun w=>Blk w gq #[.pointer (some ⟨b,0,none⟩)] 77∧PlanV w b tt xs)
def CmD (s:ByteArray) (w:World) (r:Ending) (w':World):Prop :=
 Keeps w w'∧((120<s.size∧r=.returned (.tuple #[.pointer none,.int .i64 1,.int .i64 0])) ∨
  (s.size≤120∧∃e p:Nat,Err (bs s) e p∧r=.returned (.tuple #[.pointer none,.int .i64 e,.int .i64 p])) ∨
  (s.size≤120∧Fin (bs s)∧10<C (bs s) (s.size+1)∧r=.returned (.tuple #[.pointer none,.int .i64 1,.int .i64 0])) ∨
  (s.size≤120∧Fin (bs s)∧C (bs s) (s.size+1)≤10∧∃gq tt,r=.returned (.tuple #[.pointer (some ⟨gq,0,none⟩),.int .i64 0,.int .i64 0])∧QryV w' gq tt (pQuery (bs s))∧bs tt=T (bs s) (s.size+1)∧selN (pQuery (bs s))≤10))
set_option maxHeartbeats 2000000 in
theorem m_comp {w:World} {s:ByteArray} (hs:s.size≤maxLen) (he:EV w):Calls Tryz.prog 26 #[.string s] w (CmD s w):=by
 have HE:=hide he
 clear he
 by_cases h:s.size≤120
 ·go_enter Tryz.func26,Tryz.ntmps26
  go_wp2_with fail
  refine (m_make h HE.out).mono ?_
  rintro r w1 ⟨hk,hr⟩
  have K1:=hide hk
  clear hk
  rcases hr with ⟨e,p,hee,rfl⟩ | ⟨hf,hc,rfl⟩ | ⟨hf,hc,b,tt,D,rfl,⟨hft,hok⟩,htt,hsl⟩
  ·have hne:e≠0:=by have:=hee.st; omega
   have he3:((e:Int) != 0)=true:=by rw [bne_iff_ne]; omega
   have HX:=hide hee
   clear hee
   go_wp2
   go_ret3
   exact ⟨K1.out,Or.inr (Or.inl ⟨h,e,p,HX.out,rfl⟩)⟩
  ·have HF:=hide hf
   have HC:=hide hc
   clear hf hc
   go_wp2
   go_ret3
   exact ⟨K1.out,Or.inr (Or.inr (Or.inl ⟨h,HF.out,HC.out,rfl⟩))⟩
  have RES:Hid (CmD s w (.returned (.tuple #[.pointer (some ⟨w1.heap.size,0,none⟩),.int .i64 0,.int .i64 0])) (w1.alloc (.cells #[.pointer (some ⟨b,0,none⟩)] 77))):=by
   refine ⟨K1.out.alloc _,Or.inr (Or.inr (Or.inr ⟨h,hf,hc,w1.heap.size,tt,rfl,⟨b,fun k=>D k∨k=w1.heap.size,?_,fun w'' sm=>⟨?_,?_⟩⟩,htt,hsl⟩))⟩
   ·have sa:=Sm.alloc hft (.cells #[.pointer (some ⟨b,0,none⟩)] 77)
    exact ((hft.keep sa).low (Nat.zero_le _)).or (Ft.one (Blk.new w1 _ _) (by decide) (Nat.zero_le _))
   ·exact (Blk.new w1 #[.pointer (some ⟨b,0,none⟩)] 77).sm sm (Or.inr rfl)
   exact hok w'' (fun k hk=>(sm k (Or.inl hk)).trans (Sm.alloc hft _ k hk))
  clear hf hc hft hok htt hsl
  go_wp2
  go_ret3
  exact RES.out
 go_enter Tryz.func26,Tryz.ntmps26
 go_wp2_with fail
 refine (m_make_long (by omega) hs).mono ?_
 rintro r w1 ⟨rfl,rfl⟩
 go_wp2
 go_ret3
 exact ⟨Fr.refl _ _,Or.inl ⟨by omega,rfl⟩⟩
end Go.Proofs.YtcbadebjpogmlaaGreatDoor
namespace Go.Proofs.YtcbadebjpogmlaaGreatDoor
open Go.RowKit Tr Go.Conc
set_option maxHeartbeats 1000000 in
set_option maxRecDepth 100000 in
theorem s_feed0 {w:World} {sb e at':Nat} {c0 c1:Value} (hB:Blk w sb #[c0,c1,.int .i64 (e:Nat),.int .i64 (at':Nat)] 135) (he:e≠0) (q:ByteArray) :
 Calls Tryz.prog 38 #[fvp sb,.string q] w fun r w'=>r=.returned (.tuple #[.slice none 0 0,.int .i64 (e:Nat),.int .i64 (at':Nat)])∧Blk w' sb #[.pointer none,.pointer none,.int .i64 (e:Nat),.int .i64 (at':Nat)] 135∧Fr (fun k=>k=sb) w w':=by
 obtain ⟨xb,hxb⟩:∃xb,xb=w.heap.size:=⟨_,rfl⟩
 obtain ⟨W1,hW1⟩:∃W1,W1=(w.alloc (.cells #[.pointer (some ⟨sb,0,none⟩)] 80)).alloc (.cells #[.string q] 9):=⟨_,rfl⟩
 have K1:Keeps w W1:=by rw [hW1]; exact ((Fr.refl _ w).alloc _).alloc _
 have hsb:=hB.lt
 have X1:Blk W1 xb #[fvp sb] 80:=by rw [hW1,hxb]; exact (Blk.new w _ _).alloc _
 have c0:W1.cell? ⟨xb,0,none⟩=some (.pointer (some ⟨sb,0,none⟩)):=X1.cell 0
 have c1:W1.cell? ⟨w.heap.size+1,0,none⟩=some (.string q):=by
  have:=Blk.new (w.alloc (.cells #[.pointer (some ⟨sb,0,none⟩)] 80)) #[.string q] 9
  rw [World.size_alloc,← hW1] at this
  exact this.cell 0
 have GO:Hid (∀rv,Calls Tryz.prog 57 #[.pointer (some ⟨sb,0,none⟩),.string q,rv] W1 fun r w'=>r=.returned (.tuple #[.slice none 0 0,.int .i64 (e:Nat),.int .i64 (at':Nat)])∧Keeps W1 w'):=fun rv=>s_goOn0 (hB.fr K1 id) he q rv
 have NX:Hid (∀w2,Keeps W1 w2→w2.cell? ⟨xb,0,none⟩=some (.pointer (some ⟨sb,0,none⟩))∧Calls Tryz.prog 59 #[.pointer (some ⟨sb,0,none⟩),.int .i64 (e:Nat),.int .i64 (at':Nat)] w2 (fun r w'=>r=.returned (.tuple #[])∧Blk w' sb #[.pointer none,.pointer none,.int .i64 (e:Nat),.int .i64 (at':Nat)] 135∧Fr (fun k=>k=sb) w w')):=fun w2 k2=>by
  refine ⟨(X1.fr k2 id).cell 0,(s_stop (hB.fr (K1.trans k2) id) e at').mono ?_⟩
  rintro r w' ⟨rfl,t1,t2⟩
  exact ⟨rfl,t1,((K1.trans k2).mono (fun _ _ e=>e.elim)).trans t2⟩
 have hd:((e:Int) != 0)=true:=by rw [bne_iff_ne]; omega
 have hd2:¬(e:Int)=0:=by omega
 have HW1:=hide hW1
 have HXB:=hide hxb
 clear hB hW1 K1 X1 hxb hsb he
 unfold fvp
 go_enter Tryz.func38,Tryz.ntmps38
 go_wp2_with fail
 rw [← HW1.out,← HXB.out]
 refine (GO.out _).mono ?_
 rintro r w2 ⟨rfl,k2⟩
 obtain ⟨c3,ST⟩:=NX.out w2 k2
 have TT:=hide ST
 clear ST k2 NX GO c0 c1
 go_wp2_with fail
 refine TT.out.mono ?_
 rintro r w3 ⟨rfl,t1,t2⟩
 have T1:=hide t1
 have T2:=hide t2
 clear t1 t2
 go_wp2
 go_ret3
 exact ⟨rfl,T1.out,T2.out⟩
end Go.Proofs.YtcbadebjpogmlaaGreatDoor
namespace Go.Proofs.YtcbadebjpogmlaaGreatDoor
open Go.RowKit Tr Go.Conc
def x0:Fx:=⟨[],none,[],.slice none 0 0,.slice none 0 0⟩
theorem fe_new {b f:Nat} {tt:ByteArray} {xs:List Sg} {Dp:Nat→Prop} {H:Nat→Option Obj} {w:World} (hp:OkD Dp w (fun w=>PlanV w b tt xs)) (hpl:∀k,Dp k→k<w.heap.size∧k≠f) (he:EN w) (hef:¬gEN f) (hsm:∀k,Dp k∨gEN k→w.heap[k]?=H k) (hB:Blk w f (fgc b f x0 (.pointer none) (.string ⟨#[]⟩) (.int .i64 0)) 170):FE b f tt xs Dp H w (fun k=>Dp k∨gEN k∨k=f) fInit:=by
 refine ⟨x0,fun _=>0,fun _=>False,fun _=>False,fun k=>Dp k∨gEN k,⟨⟨⟨hp,fun k hk=>(hpl k hk).1,he,⟨rfl,Or.inl ⟨rfl,rfl⟩⟩,⟨rfl,Or.inl ⟨rfl,rfl⟩⟩,fun k hk=>(by cases hk),fun k hk=>(by cases hk),fun k=>?_,hsm⟩,hB,fun _ y=>y,gInit_ok,trivial,fun _ y=>y.elim,fun k hk=>⟨id,id,fun e=>?_⟩,⟨id,id⟩,fun _ t ht=>(by cases ht)⟩,fInit_ok xs,gInit_nm,rfl,rfl,rfl⟩,fun k=>?_⟩
 ·constructor
  ·rintro (e | e)
   ·exact Or.inl e
   exact Or.inr (Or.inl e)
  rintro (e | e | e | e)
  ·exact Or.inl e
  ·exact Or.inr e
  ·cases e
  cases e
 ·rcases hk with y | y
  ·exact (hpl k y).2 e
  exact hef (e▸y)
 constructor
 ·rintro (e | e | e)
  ·exact Or.inl (Or.inl e)
  ·exact Or.inl (Or.inr e)
  exact Or.inr (Or.inr (Or.inr e))
 rintro ((e | e) | e | e | e)
 ·exact Or.inl e
 ·exact Or.inr (Or.inl e)
 ·exact e.elim
 ·exact e.elim
 exact Or.inr (Or.inr e)
set_option maxHeartbeats 1000000 in
set_option maxRecDepth 100000 in
theorem s_new {w:World} {b:Nat}:Calls Tryz.prog 56 #[fvp b] w fun r w'=>r=.returned (fvp w.heap.size)∧Blk w' w.heap.size (fgc b w.heap.size x0 (.pointer none) (.string ⟨#[]⟩) (.int .i64 0)) 170∧Keeps w w'∧w'.heap.size=w.heap.size+1:=by
 unfold fvp
 go_enter Tryz.func56,Tryz.ntmps56
 go_wp2
 go_ret
 exact ⟨rfl,Blk.new w _ _,(Fr.refl _ w).alloc _,World.size_alloc _ _⟩
def StP (b:Nat) (tt:ByteArray) (xs:List Sg) (Dp:Nat→Prop) (w:World) (res:Ending) (w':World):Prop :=
 ∃sb r f Er E,res=.returned (fvp sb)∧Blk w' sb #[fvp r,fvp f,.int .i64 0,.int .i64 0] 135∧RZ w' r Er sInit∧FE b f tt xs Dp (fun k=>w.heap[k]?) w' E fInit∧(∀k,Er k→¬E k∧k≠sb)∧¬E sb∧w.heap.size≤sb∧(∀k,Er k→w.heap.size≤k)∧(∀k,E k→Dp k∨gEN k∨w.heap.size≤k)∧Keeps w w'
set_option maxHeartbeats 2000000 in
set_option maxRecDepth 100000 in
theorem s_stream {w:World} {gq b:Nat} {tt:ByteArray} {xs:List Sg} {Dp:Nat→Prop} (hq:Blk w gq #[fvp b] 77) (hp:OkD Dp w (fun w=>PlanV w b tt xs)) (hpl:∀k,Dp k→k<w.heap.size) (he:EN w):Calls Tryz.prog 37 #[fvp gq] w (StP b tt xs Dp w):=by
 obtain ⟨W1,hW1⟩:∃W1,W1=w.alloc (.cells #[.int .i64 0,.int .i64 0,.slice none 0 0,.int .i64 0,.int .i64 0,.int .i64 0,.int .i64 0,.int .i64 0,.string ⟨#[]⟩,.pointer none,.slice none 0 0,.string ⟨#[]⟩,.int .i64 0,.int .i64 0,.nilFunc] 115):=⟨_,rfl⟩
 have K1:Keeps w W1:=by rw [hW1]; exact (Fr.refl _ w).alloc _
 have z1:W1.heap.size=w.heap.size+1:=by rw [hW1,World.size_alloc]
 have BR:Blk W1 w.heap.size (rcl 0 sInit (.slice none 0 0) (.pointer none) (.slice none 0 0) .nilFunc) 115:=by rw [hW1]; exact Blk.new w _ _
 have c0:W1.cell? ⟨gq,0,none⟩=some (.pointer (some ⟨b,0,none⟩)):=(hq.fr K1 id).cell 0
 have NEW:Hid (Calls Tryz.prog 56 #[.pointer (some ⟨b,0,none⟩)] W1 fun r w'=>r=.returned (.pointer (some ⟨W1.heap.size,0,none⟩))∧StP b tt xs Dp w (.returned (.pointer (some ⟨w'.heap.size,0,none⟩))) (w'.alloc (.cells #[.pointer (some ⟨w.heap.size,0,none⟩),.pointer (some ⟨W1.heap.size,0,none⟩),.int .i64 0,.int .i64 0] 135))):=by
  refine (s_new (w:=W1) (b:=b)).mono ?_
  rintro r w' ⟨rfl,h1,h2,h3⟩
  obtain ⟨W3,hW3⟩:∃W3,W3=w'.alloc (.cells #[.pointer (some ⟨w.heap.size,0,none⟩),.pointer (some ⟨W1.heap.size,0,none⟩),.int .i64 0,.int .i64 0] 135):=⟨_,rfl⟩
  rw [← hW3]
  have K3:Keeps w' W3:=by rw [hW3]; exact (Fr.refl _ w').alloc _
  have KA:Keeps w W3:=(K1.trans h2).trans K3
  have B3:Blk W3 w'.heap.size #[fvp w.heap.size,fvp W1.heap.size,.int .i64 0,.int .i64 0] 135:=by rw [hW3]; exact Blk.new w' _ _
  have hR:RZ W3 w.heap.size (fun k=>k=w.heap.size) sInit:=⟨.slice none 0 0,.pointer none,.slice none 0 0,⟨(BR.fr h2 id).fr K3 id,World.ownsRow_nil _ _ _ _,World.ownsRow_nil _ _ _ _,Or.inl rfl,fun _=>rfl⟩,fun k=>⟨Or.inl,fun e=>by
   rcases e with e | e | e
   ·exact e
   ·cases e
   cases e⟩⟩
  have hg:∀k,gEN k→k<w.heap.size:=fun k hk=>he.low hk
  refine ⟨rfl,w'.heap.size,w.heap.size,W1.heap.size,fun k=>k=w.heap.size,fun k=>Dp k∨gEN k∨k=W1.heap.size,rfl,B3,hR,fe_new (hp.keep (fun k hk=>KA.block k (hpl k hk) id)) (fun k hk=>⟨Nat.lt_of_lt_of_le (hpl k hk) KA.size,by have:=hpl k hk; omega⟩) (he.keep KA) (fun y=>by have:=hg _ y; omega) (fun k hk=>KA.block k (hk.elim (hpl k) (fun y=>hg k y)) id) (h1.fr K3 id),fun k hk=>⟨fun y=>?_,by omega⟩,fun y=>?_,by omega,fun k hk=>by omega,fun k hk=>?_,KA⟩
  ·rcases y with y | y | y
   ·have:=hpl k y; omega
   ·have:=hg k y; omega
   omega
  ·rcases y with y | y | y
   ·have:=hpl _ y; omega
   ·have:=hg _ y; omega
   omega
  rcases hk with y | y | y
  ·exact Or.inl y
  ·exact Or.inr (Or.inl y)
  exact Or.inr (Or.inr (by omega))
 have HW1:=hide hW1
 rw [hW1] at c0
 clear hq hp hpl he hW1 K1 z1 BR
 unfold fvp
 go_enter Tryz.func37,Tryz.ntmps37
 go_wp2_with fail
 rw [← HW1.out]
 refine NEW.out.mono ?_
 rintro r w' ⟨rfl,hs⟩
 have HS:=hide hs
 clear hs c0 NEW
 go_wp2
 go_ret
 exact HS.out
end Go.Proofs.YtcbadebjpogmlaaGreatDoor
namespace Go.Proofs.YtcbadebjpogmlaaGreatDoor
open Go.RowKit Tr Go.Conc
theorem fRun_sh (xs:List Sg):∀(ts:List Tok) {s:Fw},OkL s.g.sh ts→(fRun xs s ts).g.sh=shRun s.g.sh ts
 | [],_,_=>rfl
 | t::r,s,h=>by
  show (fRun xs (fTake xs s t) r).g.sh=shRun (shTake s.g.sh t) r
  rw [← fTake_sh xs s h.1]
  exact fRun_sh xs r (by rw [fTake_sh xs s h.1]; exact h.2)
def stE (p:List UInt8):Nat:=(sRun sInit p).e
def stAt (p:List UInt8):Nat:=if stE p=0 then 0 else (sRun sInit p).z.at'
def stT (xs:List Sg) (p:List UInt8):List (Tv×Nat):=(fRun xs fInit (sRun sInit p).ts).told
def stN (xs:List Sg) (p q:List UInt8):List (Tv×Nat):=if stE p=0 then (fRun xs (noT (fRun xs fInit (sRun sInit p).ts)) (sRun (sRun sInit p).z q).ts).told else []
theorem stT_app (xs:List Sg) (p q:List UInt8):stT xs (p++q)=stT xs p++stN xs p q:=by
 unfold stT stN
 by_cases h:stE p=0
 ·rw [if_pos h,sRun_app p q sInit h]
  simp only
  rw [fRun_app]
  exact (fRun_no xs _ _).1
 rw [if_neg h,sRun_bad p q sInit h,List.append_nil]
theorem stE_app {p q:List UInt8} (h:stE p=0):stE (p++q)=(sRun (sRun sInit p).z q).e:=by unfold stE; rw [sRun_app p q sInit h]
theorem stE_bad {p:List UInt8} (q:List UInt8) (h:stE p≠0):stE (p++q)=stE p∧stAt (p++q)=stAt p:=by
 unfold stAt stE
 rw [sRun_bad p q sInit h]
 exact ⟨rfl,rfl⟩
def ST (sb b:Nat) (tt:ByteArray) (xs:List Sg) (Dp:Nat→Prop) (H:Nat→Option Obj) (w:World) (Es:Nat→Prop) (p:List UInt8):Prop :=
 (stE p=0∧∃r f Er E,Blk w sb #[fvp r,fvp f,.int .i64 0,.int .i64 0] 135∧RZ w r Er (sRun sInit p).z∧FE b f tt xs Dp H w E (noT (fRun xs fInit (sRun sInit p).ts))∧(∀k,Er k→¬E k∧k≠sb)∧¬E sb∧∀k,Es k↔Er k∨E k∨k=sb) ∨
 (stE p≠0∧Blk w sb #[.pointer none,.pointer none,.int .i64 (stE p:Nat),.int .i64 (stAt p:Nat)] 135∧(∀k,Dp k∨gEN k→w.heap[k]?=H k∧k<w.heap.size∧k≠sb)∧∀k,Es k↔k=sb∨Dp k∨gEN k)
theorem ST.same {sb b:Nat} {tt:ByteArray} {xs:List Sg} {Dp:Nat→Prop} {H:Nat→Option Obj} {w:World} {Es:Nat→Prop} {p:List UInt8} (h:ST sb b tt xs Dp H w Es p) {k:Nat} (hk:Dp k∨gEN k):w.heap[k]?=H k∧Es k:=by
 rcases h with ⟨_,r,f,Er,E,h1,h2,h3,_,_,h6⟩ | ⟨_,h1,h3,h2⟩
 ·exact ⟨(h3.same hk).1,(h6 k).2 (Or.inr (Or.inl (h3.same hk).2))⟩
 exact ⟨(h3 k hk).1,(h2 k).2 (Or.inr hk)⟩
theorem st_new {sb b r f:Nat} {tt:ByteArray} {xs:List Sg} {Dp:Nat→Prop} {H:Nat→Option Obj} {w:World} {Er E:Nat→Prop} (h1:Blk w sb #[fvp r,fvp f,.int .i64 0,.int .i64 0] 135) (h2:RZ w r Er sInit) (h3:FE b f tt xs Dp H w E fInit) (h4:∀k,Er k→¬E k∧k≠sb) (h5:¬E sb):ST sb b tt xs Dp H w (fun k=>Er k∨E k∨k=sb) []:=Or.inl ⟨rfl,r,f,Er,E,h1,h2,h3,h4,h5,fun _=>Iff.rfl⟩
def SfP (sb b:Nat) (tt:ByteArray) (xs:List Sg) (Dp:Nat→Prop) (H:Nat→Option Obj) (Es:Nat→Prop) (p q:List UInt8) (w:World) (res:Ending) (w':World):Prop :=
 ∃sv Es',res=.returned (.tuple #[sv,.int .i64 (stE (p++q):Nat),.int .i64 (stAt (p++q):Nat)])∧ST sb b tt xs Dp H w' Es' (p++q)∧w'.ownsRow 0 44 4 sv (stN xs p q).length ((stN xs p q).flatMap tcl)∧(∀k,sv.ownBlock=some k→¬Es' k∧(Es k∨w.heap.size≤k))∧(∀k,Es' k→Es k∨w.heap.size≤k)∧Fr Es w w'
theorem st_feed {sb b:Nat} {tt:ByteArray} {xs:List Sg} {Dp:Nat→Prop} {H:Nat→Option Obj} (hx:xs.length≤10) (hsel:selN xs≤10) (hpos:∀g ∈ xs,0<g.l.length) {w:World} {Es:Nat→Prop} {p:List UInt8} (h:ST sb b tt xs Dp H w Es p) (q:ByteArray) (hl:p.length+q.size≤4000000) :
 Calls Tryz.prog 38 #[fvp sb,.string q] w (SfP sb b tt xs Dp H Es p (bs q) w):=by
 have hlen:(bs q).length=q.size:=bs_len q
 rcases h with ⟨h0,r,f,Er,E,h1,h2,h3,h4,h5,h6⟩ | ⟨h0,h1,h3,h2⟩
 ·have R:=run_ok' p sInit_ok.1 sInit_ok.2 (by simp [sInit]) (by simp [sInit]; omega)
  obtain ⟨r1,r2,r3,r4⟩:=R.ok h0
  have hat:(sRun sInit p).z.at'=p.length:=by simpa [sInit] using r3
  have htx:(sRun sInit p).z.tx.length≤p.length:=by have:=R.tx; simpa [sInit] using this
  have hsh:(noT (fRun xs fInit (sRun sInit p).ts)).g.sh=shRun ⟨[],0⟩ (sRun sInit p).ts:=fRun_sh xs (sRun sInit p).ts (s:=fInit) R.tok
  have hwd:=(run_room p sInit_ok.1 sInit_ok.2 (by simp [sInit]) (by simp [sInit]; omega) (fun y=>by simp [sInit] at y)).2
  have X:=run_tt (p++bs q) sInit 4000000 (by simp [sInit,hlen]; omega) (by simp [sInit])
  rw [sRun_app p (bs q) sInit h0] at X
  refine (s_feed hx hsel hpos h1 h2 h3 h4 h5 q r1 (by rw [hsh]; exact r4) r2 hwd (by omega) (by omega) (fun t ht=>X.1 t (List.mem_append_right _ ht))).mono ?_
  rintro res w' ⟨sv,rfl,g1,g2,g3,gs,g4,g5⟩
  have eE:stE (p++bs q)=(sRun (sRun sInit p).z (bs q)).e:=stE_app h0
  have eA:stAt (p++bs q)=if (sRun (sRun sInit p).z (bs q)).e=0 then 0 else (sRun (sRun sInit p).z (bs q)).z.at':=by unfold stAt; rw [eE,sRun_app p (bs q) sInit h0]
  have eN:stN xs p (bs q)=(fRun xs (noT (fRun xs fInit (sRun sInit p).ts)) (sRun (sRun sInit p).z (bs q)).ts).told:=by unfold stN; rw [if_pos h0]
  have hsbE:Es sb:=(h6 sb).2 (Or.inr (Or.inr rfl))
  by_cases he:(sRun (sRun sInit p).z (bs q)).e=0
  ·obtain ⟨Er',E',k1,k2,k3,k4,k5,k6,k7,k8⟩:=g4 he
   refine ⟨sv,fun k=>Er' k∨E' k∨k=sb,by rw [eE,eA],Or.inl ⟨by rw [eE]; exact he,r,f,Er',E',k3,?_,?_,k4,k5,fun _=>Iff.rfl⟩,by rw [eN]; exact g1,fun k hk=>⟨fun y=>?_,?_⟩,fun k hk=>?_,g3.mono (fun k _ y=>(h6 k).2 y)⟩
   ·rw [sRun_app p (bs q) sInit h0]; exact k1
   ·rw [sRun_app p (bs q) sInit h0]
    simp only
    rw [fRun_app,(fRun_no xs _ _).2]
    exact k2
   ·rcases y with y | y | y
    ·exact (k6 k hk).2 y
    ·exact (k6 k hk).1 y
    exact (g2 k hk).1.1 y
   ·exact (g2 k hk).2.imp (fun y=>(h6 k).2 (Or.inr (Or.inl y))) id
   rcases hk with y | y | y
   ·exact (k7 k y).imp (fun u=>(h6 k).2 (Or.inl u)) id
   ·exact (k8 k y).imp (fun u=>(h6 k).2 (Or.inr (Or.inl u))) id
   exact Or.inl (y▸hsbE)
  refine ⟨sv,fun k=>k=sb∨Dp k∨gEN k,by rw [eE,eA],Or.inr ⟨by rw [eE]; exact he,?_,fun k hk=>⟨gs k hk,?_,fun y=>h5 (y▸(h3.same hk).2)⟩,fun _=>Iff.rfl⟩,by rw [eN]; exact g1,fun k hk=>⟨fun y=>?_,(g2 k hk).2.imp (fun y=>(h6 k).2 (Or.inr (Or.inl y))) id⟩,fun k hk=>Or.inl ?_,g3.mono (fun k _ y=>(h6 k).2 y)⟩
  ·have:=g5 he
   rw [eE,eA,if_neg he]; exact this
  ·exact Nat.lt_of_lt_of_le (h3.lt (h3.same hk).2) g3.size
  ·rcases y with y | y
   ·exact (g2 k hk).1.1 y
   exact (g2 k hk).1.2 y
  rcases hk with y | y
  ·exact y▸hsbE
  exact (h6 k).2 (Or.inr (Or.inl (h3.same y).2))
 obtain ⟨e1,e2⟩:=stE_bad (bs q) h0
 refine (s_feed0 h1 h0 q).mono ?_
 rintro res w' ⟨rfl,g1,g2⟩
 have eN:stN xs p (bs q)=[]:=by unfold stN; rw [if_neg h0]
 exact ⟨.slice none 0 0,Es,by rw [e1,e2],Or.inr ⟨by rw [e1]; exact h0,by rw [e1,e2]; exact g1,fun k hk=>⟨(g2.block k (h3 k hk).2.1 (h3 k hk).2.2).trans (h3 k hk).1,Nat.lt_of_lt_of_le (h3 k hk).2.1 g2.size,(h3 k hk).2.2⟩,h2⟩,by rw [eN]; exact ⟨rfl,Or.inl ⟨rfl,rfl⟩⟩,fun k hk=>(by cases hk),fun k hk=>Or.inl hk,g2.mono (fun k _ y=>(h2 k).2 (Or.inl y))⟩
end Go.Proofs.YtcbadebjpogmlaaGreatDoor
namespace Go.Proofs.YtcbadebjpogmlaaGreatDoor
open Go.RowKit Tr
def i64R (v:Int):Prop:=-9223372036854775808≤v∧v<9223372036854775808
set_option maxRecDepth 100000 in
theorem p_pick {w:World} {c:Int} (hc:i64R c) {n:Nat} (hn:0<n) (hn2:n≤5000000):Calls Tryz.prog 22 #[.int .i64 c,.int .i64 (n:Nat)] w fun r w'=>(∃k:Nat,k<n∧r=.returned (.int .i64 (k:Nat)))∧w'=w:=by
 unfold i64R at hc
 by_cases h:c<0
 ·have e:-(c+1).tmod (n:Int)=(-(c+1)) % (n:Int):=by rw [← Int.neg_tmod,Int.tmod_eq_emod_of_nonneg (by omega)]
  have e0:=Int.emod_nonneg (-(c+1)) (show (n:Int)≠0 by omega)
  have e1:=Int.emod_lt_of_pos (-(c+1)) (show (0:Int)<n by omega)
  have FIN:∃k:Nat,k<n∧Ending.returned (.int .i64 (-(c+1).tmod (n:Int)))=.returned (.int .i64 (k:Nat)):=⟨((-(c+1)) % (n:Int)).toNat,by omega,by rw [e]; congr 2; omega⟩
  have HF:=hide FIN
  clear FIN e e0 e1
  go_enter Tryz.func22,Tryz.ntmps22
  go_wp2
  go_ret
  exact ⟨HF.out,rfl⟩
 have e0:=Int.emod_nonneg c (show (n:Int)≠0 by omega)
 have e1:=Int.emod_lt_of_pos c (show (0:Int)<n by omega)
 have FIN:∃k:Nat,k<n∧Ending.returned (.int .i64 (c % (n:Int)))=.returned (.int .i64 (k:Nat)):=⟨(c % (n:Int)).toNat,by omega,by congr 2; omega⟩
 have HF:=hide FIN
 clear FIN e0 e1
 go_enter Tryz.func22,Tryz.ntmps22
 go_wp2
 go_ret
 exact ⟨HF.out,rfl⟩
def IntsAt (w:World) (lv:Value):Prop:=∃ao n cp,lv=.slice ao n cp∧n≤9223372036854775807∧(0<n→∃ad:Addr,ao=some ad∧∀i,i<n→∃v,w.cell? (ad.add i)=some (.int .i64 v)∧i64R v)
theorem IntsAt.keep {w w':World} {lv:Value} (h:IntsAt w lv) (k:Keeps w w'):IntsAt w' lv:=by
 obtain ⟨ao,n,cp,h1,h2,h3⟩:=h
 refine ⟨ao,n,cp,h1,h2,fun hn=>?_⟩
 obtain ⟨g,e,hv⟩:=h3 hn
 refine ⟨g,e,fun i hi=>?_⟩
 obtain ⟨v,c1,c2⟩:=hv i hi
 exact ⟨v,(k.cell (p:=g.add i) (World.block_lt_of_cell? w (g.add i) c1) id).trans c1,c2⟩
set_option maxRecDepth 100000 in
theorem p_raw {w:World} {lv:Value} (h:IntsAt w lv) {i:Nat} (hi:i≤5000000):Calls Tryz.prog 32 #[lv,.int .i64 (i:Nat)] w fun r w'=>(∃v,i64R v∧r=.returned (.int .i64 v))∧w'=w:=by
 obtain ⟨ao,n,cp,rfl,hn,hg⟩:=h
 by_cases h0:n=0
 ·subst h0
  clear hg
  go_enter Tryz.func32,Tryz.ntmps32
  go_wp2
  go_ret
  exact ⟨⟨0,by unfold i64R; omega,rfl⟩,rfl⟩
 obtain ⟨g,rfl,hv⟩:=hg (by omega)
 obtain ⟨v,h1,h2⟩:=hv (i % n) (Nat.mod_lt _ (by omega))
 have h0i:¬(n:Int)=0:=by omega
 have h0j:(0:Int)<(n:Int):=by omega
 have hm0:(0:Int)≤(i:Int) % (n:Int):=by omega
 have hm1:(i:Int) % (n:Int)<(n:Int):=Int.emod_lt_of_pos _ (by omega)
 clear hv hg
 go_enter Tryz.func32,Tryz.ntmps32
 go_wp2
 go_ret
 exact ⟨⟨v,h2,rfl⟩,rfl⟩
end Go.Proofs.YtcbadebjpogmlaaGreatDoor
