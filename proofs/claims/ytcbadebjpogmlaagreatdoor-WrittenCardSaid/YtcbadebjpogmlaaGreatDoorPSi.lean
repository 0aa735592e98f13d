import Derived.Test.YtcbadebjpogmlaaGreatDoorPSq
namespace Go.Proofs.YtcbadebjpogmlaaGreatDoor
open Go.RowKit Tr
set_option maxHeartbeats 1000000 in
theorem ret_nu {R:Ending→World→Prop} {a:Act} {W:World} {g:Nat} {x0 x1 x2 x3 x4 x5:Value} (hd:a.defers=[]) (ha:a.tmps[2]?.getD undef=.pointer (some ⟨g,0,none⟩))
 (hB:Blk W g #[x0,x1,x2,x3,x4,x5] 108) (hR:R (.returned (.agg #[x0,x1,x2,x3,x4,x5])) W):bodyPost Tryz.prog Tryz.f74 R .ret a W:=by
 have k0:=hB.cell 0
 have k1:=hB.cell 1
 have k2:=hB.cell 2
 have k3:=hB.cell 3
 have k4:=hB.cell 4
 have k5:=hB.cell 5
 simp at k0 k1 k2 k3 k4 k5
 refine bodyPost_ret (v:=.agg #[x0,x1,x2,x3,x4,x5]) ?_ hd hR
 simp [results,Tryz.results74,go_sem,ha,k0,k1,k2,k3,k4,k5]
set_option maxHeartbeats 2000000 in
set_option maxRecDepth 100000 in
theorem t_number {w:World} {r s0:Nat} {z:Sn} {tell ov bp bv:Value} (h:RS w r s0 z tell ov bp bv) (hn:0≤z.tk.n∧z.tk.n≤1000000000) (hg:z.sg=1∨z.sg=-1) :
 Calls Tryz.prog 74 #[.pointer (some ⟨r,0,none⟩)] w fun res w'=>res=.returned (tagg (sNumT z))∧Keeps w w':=by
 have hrl:r<w.heap.size:=h.b.lt
 have c1:w.cell? ⟨r,1,none⟩=some (.int .i64 (z.at':Nat)):=h.b.cell 1
 have c3:w.cell? ⟨r,3,none⟩=some (.int .i64 (z.tk.k:Nat)):=h.b.cell 3
 have c4:w.cell? ⟨r,4,none⟩=some (.int .i64 (z.tk.of:Nat)):=h.b.cell 4
 have c5:w.cell? ⟨r,5,none⟩=some (.int .i64 (z.tk.frm:Nat)):=h.b.cell 5
 have c6:w.cell? ⟨r,6,none⟩=some (.int .i64 (z.tk.to:Nat)):=h.b.cell 6
 have c7:w.cell? ⟨r,7,none⟩=some (.int .i64 z.tk.n):=h.b.cell 7
 have c8:w.cell? ⟨r,8,none⟩=some (.string (bsb (tkx z.tk.k z.tk.t))):=h.b.cell 8
 have c13:w.cell? ⟨r,13,none⟩=some (.int .i64 z.sg):=h.b.cell 13
 have hw:IntKind.i64.wrap (z.tk.n * z.sg)=z.tk.n * z.sg:=IntWalk.i64_in _ (by rcases hg with e | e<;>rw [e]<;>omega)
 have hw2:wrap64 (z.tk.n * z.sg)=z.tk.n * z.sg:=by rw [← IntWalk.i64_left]; exact hw
 have eT:tagg (sNumT z)=.agg #[.int .i64 (z.tk.k:Nat),.int .i64 (z.tk.of:Nat),.int .i64 (z.tk.frm:Nat),.int .i64 (z.at':Nat),.int .i64 (z.tk.n * z.sg),.string (bsb (tkx z.tk.k z.tk.t))]:=rfl
 rw [eT]
 clear h hn hg eT
 generalize bsb (tkx z.tk.k z.tk.t)=tx at *
 generalize z.tk.k=a1 at *
 generalize z.tk.of=a2 at *
 generalize z.tk.frm=a3 at *
 generalize z.tk.to=a4 at *
 generalize z.at'=a5 at *
 generalize z.tk.n=a6 at *
 generalize z.sg=a7 at *
 go_enter Tryz.func74,Tryz.ntmps74
 go_wp2
 go_region
 all_goals
  go_wp2
  refine ret_nu rfl rfl ((Blk.new w _ 108).alloc _) ?_
  exact ⟨rfl,(((Fr.refl _ w).alloc _).alloc _).drew⟩
theorem RM.keeps {S:World→(Nat→Prop)→List Tok→Prop} {f:Value} {V:List Tok→Tok→Prop} (hS:Sink f S V) {tell:Value} {r s0:Nat} {z:Sn} {ts:List Tok} {E:Nat→Prop} {w w':World} (h:RM S tell r s0 z ts E w) (k:Keeps w w'):RM S tell r s0 z ts E w'∧Ev E w E w':=by
 obtain ⟨ov,bp,bv,D,h1,h2,h3⟩:=h.ex
 exact ⟨⟨ov,bp,bv,D,⟨h1.b.fr k id,own_fr h1.o k (fun _ _ x=>x),own_fr h1.t k (fun _ _ x=>x),h1.p,h1.e⟩,hS.keep h2 (fun q hq=>k.block q (hS.lt h2 hq) id) k.size,h3⟩,⟨fun _=>Or.inl,k.mono (fun _ _ x=>x.elim)⟩⟩
set_option maxHeartbeats 2000000 in
set_option maxRecDepth 100000 in
theorem t_numberByte {S:World→(Nat→Prop)→List Tok→Prop} {V:List Tok→Tok→Prop} {tell:Value} (hS:Sink tell S V) {w:World} {r s0:Nat} {z:Sn} {ts:List Tok} {E:Nat→Prop} (h:RM S tell r s0 z ts E w) (hs0:s0=z.st) (hst:z.st=8∨z.st=9) (hok:SOk z) (hat:z.at'≤4000000) (b:Nat) (hb:b<256) (hV:VL V ts (sNum z b).ts) :
 Calls Tryz.prog 136 #[.pointer (some ⟨r,0,none⟩),.int .u8 (b:Int)] w (RP S tell r s0 (sNum z b) ts E w):=by
 obtain ⟨hsz,hn0,hn1,hsg,hk3⟩:=hok.n hst
 have h10:(10:Nat) ^ z.sz≤1000000000:=Nat.pow_le_pow_right (n:=10) (by decide) hsz
 have hnn:0≤z.tk.n∧z.tk.n≤1000000000:=⟨hn0,by omega⟩
 obtain ⟨ov,bp,bv,h1⟩:=h.rs
 have c0:w.cell? ⟨r,0,none⟩=some (.int .i64 (s0:Nat)):=h1.b.cell 0
 have c12:w.cell? ⟨r,12,none⟩=some (.int .i64 (z.sz:Nat)):=h1.b.cell 12
 have H:=hide h
 have KO:=hide (fun w=>t_kindOf (w:=w) b hb)
 have DG:=hide (fun w=>t_isDigit (w:=w) b hb)
 have MF:=hide (t_mayFollow h1 hok.op.1 hok.op.2 b hb)
 have DR:Hid (∀n,RM S tell r s0 z ts E (w.drewN n)):=fun n=>RM.drewN hS h n
 by_cases c1:z.st=8∧¬(49≤b∧b≤57)
 ·have e:sNum z b=z.to 12:=by unfold sNum; rw [if_pos c1]
  rw [e]
  have k4:kindT b≠4:=by
   rcases kindT_cases b with ⟨c,k⟩ | ⟨c,c',k⟩ | ⟨c,k⟩ | ⟨c,k⟩ | ⟨c,c',k⟩ | ⟨c,k⟩ | ⟨c,k⟩ | ⟨c,c',c2,c3,c4,k⟩<;>rw [k]<;>first | decide | omega
  rw [hs0,c1.1] at c0
  generalize kindT b=kk at *
  have n4:((kk:Int) != 4)=true:=by rw [bne_iff_ne]; omega
  clear e hV h h1 hS hok c1 k4 MF DG DR hnn hn0 hn1 h10 hsg hk3 hsz hst c12
  go_enter Tryz.func136,Tryz.ntmps136
  go_wp2_with fail
  refine (KO.out _).mono ?_
  rintro res w1 ⟨rfl,rfl⟩
  go_wp2
  go_ret
  exact H.out.to (Ev.refl _ _) 12
 rcases hst with h8 | h9
 · -- behind the sign
  obtain ⟨m1,m2⟩:=hok.m h8
  have hb1:49≤b∧b≤57:=by omega
  have hd:isDig b=true:=by simp [isDig]; omega
  have e:sNum z b=sDig z b:=by unfold sNum; rw [if_neg c1,if_pos ⟨hd,by omega⟩]
  rw [e]
  have AD:=hide (t_addDigit hS h hnn (by omega) b hd)
  have k4:kindT b=4:=by
   rcases kindT_cases b with ⟨c,k⟩ | ⟨c,c',k⟩ | ⟨c,k⟩ | ⟨c,k⟩ | ⟨c,c',k⟩ | ⟨c,k⟩ | ⟨c,k⟩ | ⟨c,c',c2,c3,c4,k⟩<;>first | exact k | omega
  rw [hs0,h8] at c0
  rw [m1] at c12
  rw [k4] at KO
  rw [hd] at DG
  clear e hV h h1 hS hok c1 hnn hn0 hn1 h10 hsg hk3 h8 m1 m2 hd k4 MF DR hsz
  go_enter Tryz.func136,Tryz.ntmps136
  go_wp2_with fail
  refine (KO.out _).mono ?_
  rintro res w1 ⟨rfl,rfl⟩
  go_wp2_with fail
  refine (DG.out _).mono ?_
  rintro res w1 ⟨rfl,rfl⟩
  go_wp2_with fail
  refine (AD.out).mono ?_
  rintro res w1 ⟨rfl,E1,hM,hE⟩
  have M1:=hide hM
  have E1':=hide hE
  clear hM hE
  go_wp2
  go_ret
  exact ⟨rfl,E1,M1.out,E1'.out⟩
 rw [hs0,h9] at c0
 by_cases hd:isDig b=true∧z.sz<9
 ·have e:sNum z b=sDig z b:=by unfold sNum; rw [if_neg c1,if_pos hd]
  rw [e]
  have AD:=hide (t_addDigit hS h hnn hsz b hd.1)
  have l9:(z.sz:Int)<9:=by omega
  have DG2:=DG
  rw [hd.1] at DG2
  clear e hV h h1 hS hok c1 hnn hn0 hn1 h10 hsg hk3 h9 hd MF DR hsz KO DG
  go_enter Tryz.func136,Tryz.ntmps136
  go_wp2_with fail
  refine (DG2.out _).mono ?_
  rintro res w1 ⟨rfl,rfl⟩
  go_wp2_with fail
  refine (AD.out).mono ?_
  rintro res w1 ⟨rfl,E1,hM,hE⟩
  have M1:=hide hM
  have E1':=hide hE
  clear hM hE
  go_wp2
  go_ret
  exact ⟨rfl,E1,M1.out,E1'.out⟩
 by_cases hm:mayF z.op b=false
 ·have e:sNum z b=z.to 12:=by unfold sNum; rw [if_neg c1,if_neg hd,if_pos hm]
  rw [e]
  rw [hm] at MF
  have T12:Hid (∀n,RP S tell r s0 (z.to 12) ts E w (.returned (.int .i64 12)) (w.drewN n)):=fun n=>(DR.out n).to ((Ev.refl E w).drewN n) 12
  clear e hV h h1 hS hok c1 hnn hn0 hn1 h10 hsg hk3 h9 DR hsz KO hm H
  by_cases hg:isDig b=true
  ·rw [hg] at DG
   have l9:¬(z.sz:Int)<9:=by have:¬z.sz<9:=fun x=>hd ⟨hg,x⟩; omega
   clear hd hg
   go_enter Tryz.func136,Tryz.ntmps136
   go_wp2_with fail
   refine (DG.out _).mono ?_
   rintro res w1 ⟨rfl,rfl⟩
   go_wp2_with fail
   refine (MF.out).mono ?_
   rintro res w1 ⟨rfl,n,rfl⟩
   go_wp2
   go_ret
   exact T12.out n
  have hg:isDig b=false:=by simpa using hg
  rw [hg] at DG
  clear hd hg
  go_enter Tryz.func136,Tryz.ntmps136
  go_wp2_with fail
  refine (DG.out _).mono ?_
  rintro res w1 ⟨rfl,rfl⟩
  go_wp2_with fail
  refine (MF.out).mono ?_
  rintro res w1 ⟨rfl,n,rfl⟩
  go_wp2
  go_ret
  exact T12.out n
 have hm:mayF z.op b=true:=by simpa using hm
 have e:sNum z b=⟨(sBehind z b).z,sNumT z::(sBehind z b).ts⟩:=by unfold sNum; rw [if_neg c1,if_neg hd,if_neg (by rw [hm]; decide)]
 rw [e] at hV ⊢
 rw [hm] at MF
 obtain ⟨hv1,hv2⟩:=hV
 obtain ⟨N,first,cp2,htell,hE,hcall⟩:=RM.tell hS
 have NU:Hid (∀W,RM S tell r s0 z ts E W→Calls Tryz.prog 74 #[.pointer (some ⟨r,0,none⟩)] W fun res w'=>res=.returned (tagg (sNumT z))∧Keeps W w'):=fun W hW=>by
  obtain ⟨_,_,_,y⟩:=hW.rs
  exact t_number y hnn hsg
 have KP:Hid (∀W W',RM S tell r s0 z ts E W→Keeps W W'→RM S tell r s0 z ts E W'∧Ev E W E W'):=fun W W' hW k=>RM.keeps hS hW k
 have TE:Hid (∀W,RM S tell r s0 z ts E W→Calls Tryz.prog N (first.push (tagg (sNumT z))++cp2) W fun res w'=>res=.returned (.tuple #[])∧∃E',RM S tell r s0 z (ts++[sNumT z]) E' w'∧Ev E W E' w'):=fun W hW=>hcall _ hW hv1
 have BH:Hid (∀E W,RM S tell r s0 z (ts++[sNumT z]) E W→Calls Tryz.prog 179 #[.pointer (some ⟨r,0,none⟩),.int .u8 (b:Int)] W (RP S tell r s0 (sBehind z b) (ts++[sNumT z]) E W)):=fun E W hW=>t_behind hS hW hok.op.1 hok.op.2 hat b hb hv2
 have C14:Hid (∀W,RM S tell r s0 z ts E W→W.cell? ⟨r,14,none⟩=some tell):=fun W hW=>by
  obtain ⟨_,_,_,y⟩:=hW.rs
  exact y.b.cell 14
 have FINE:Hid (∀E2 w2 (res:Ending) w3,Ev E w E2 w2→RP S tell r s0 (sBehind z b) (ts++[sNumT z]) E2 w2 res w3→RP S tell r s0 ⟨(sBehind z b).z,sNumT z::(sBehind z b).ts⟩ ts E w res w3):=fun E2 w2 res w3 hev hr=>by
  obtain ⟨q1,E3,q2,q3⟩:=hr
  exact ⟨q1,E3,by simpa using q2,hev.trans q3⟩
 generalize tagg (sNumT z)=tg at *
 clear e h h1 hok c1 hnn hn0 hn1 h10 hsg hk3 h9 hsz KO hm H hcall hv1 hv2 hS
 subst htell
 by_cases hg:isDig b=true
 ·rw [hg] at DG
  have l9:¬(z.sz:Int)<9:=by have:¬z.sz<9:=fun x=>hd ⟨hg,x⟩; omega
  clear hd hg
  go_enter Tryz.func136,Tryz.ntmps136
  go_wp2_with fail
  refine (DG.out _).mono ?_
  rintro res w1 ⟨rfl,rfl⟩
  go_wp2_with fail
  refine (MF.out).mono ?_
  rintro res w1 ⟨rfl,n,rfl⟩
  go_wp2_with fail
  have d14:=C14.out _ (DR.out (n+1))
  go_region_with (first
   | (go_at_call 74; refine (NU.out _ (DR.out (n+1))).mono ?_; rintro res w2 ⟨rfl,hk⟩; have M2:=hide (KP.out _ _ (DR.out (n+1)) hk).1; have EV2:=hide (KP.out _ _ (DR.out (n+1)) hk).2; have d14':=C14.out _ M2.out; clear hk)
   | (refine (TE.out _ M2.out).mono ?_; rintro res w3 ⟨rfl,E3,hM3,hE3⟩; have M3:=hide hM3; have EV3:=hide hE3; clear hM3 hE3))
  all_goals
   go_wp2_with fail
   refine (BH.out E3 _ M3.out).mono ?_
   intro res w4 hr
   have q:=hide (FINE.out E3 _ res w4 ((((Ev.refl E _).drewN (n+1)).trans EV2.out).trans EV3.out) hr)
   obtain ⟨rfl,_⟩:=hr
   go_wp2
   go_ret
   exact q.out
 have hg:isDig b=false:=by simpa using hg
 rw [hg] at DG
 clear hd hg
 go_enter Tryz.func136,Tryz.ntmps136
 go_wp2_with fail
 refine (DG.out _).mono ?_
 rintro res w1 ⟨rfl,rfl⟩
 go_wp2_with fail
 refine (MF.out).mono ?_
 rintro res w1 ⟨rfl,n,rfl⟩
 go_wp2_with fail
 have d14:=C14.out _ (DR.out (n+1))
 go_region_with (first
  | (go_at_call 74; refine (NU.out _ (DR.out (n+1))).mono ?_; rintro res w2 ⟨rfl,hk⟩; have M2:=hide (KP.out _ _ (DR.out (n+1)) hk).1; have EV2:=hide (KP.out _ _ (DR.out (n+1)) hk).2; have d14':=C14.out _ M2.out; clear hk)
  | (refine (TE.out _ M2.out).mono ?_; rintro res w3 ⟨rfl,E3,hM3,hE3⟩; have M3:=hide hM3; have EV3:=hide hE3; clear hM3 hE3))
 all_goals
  go_wp2_with fail
  refine (BH.out E3 _ M3.out).mono ?_
  intro res w4 hr
  have q:=hide (FINE.out E3 _ res w4 ((((Ev.refl E _).drewN (n+1)).trans EV2.out).trans EV3.out) hr)
  obtain ⟨rfl,_⟩:=hr
  go_wp2
  go_ret
  exact q.out
end Go.Proofs.YtcbadebjpogmlaaGreatDoor
