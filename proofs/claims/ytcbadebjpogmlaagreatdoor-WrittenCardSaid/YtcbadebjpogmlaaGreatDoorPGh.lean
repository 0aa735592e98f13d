import Derived.Test.YtcbadebjpogmlaaGreatDoorPGe
import Derived.Test.YtcbadebjpogmlaaGreatDoorPGq
import Derived.Test.YtcbadebjpogmlaaGreatDoorPSr
import Derived.Deep.WholeRow
namespace Go.Proofs.YtcbadebjpogmlaaGreatDoor
open Go.RowKit Tr
theorem bg_gi {X:Type} {g:Nat} {T:TypeId} {gc:X→Value→Value→Value→Array Value} {S:World→(Nat→Prop)→X→Prop}
 {w w1:World} {gs:Gs} {x:X} {A:Nat→Nat} {C M D M' D':Nat→Prop} (h:GI g T gc S w gs x A C M D) (mm:∀k,M' k→M k∨w.heap.size≤k) (dd:∀k,D' k→D k∨w.heap.size≤k) (dm:∀k,D' k→¬M' k) (ff:Fr (fun k=>D k∨M k∨k=g) w w1) :
 (∀k,C k→k<w1.heap.size)∧(∀k,D' k→¬M' k∧¬C k∧k≠g)∧(¬M' g∧¬C g):=by
 have hgl:=h.b.lt
 refine ⟨fun k hk=>Nat.lt_of_lt_of_le (h.c k hk) ff.size,fun k hk=>⟨dm k hk,fun e=>?_,fun e=>?_⟩,fun e=>?_,h.g.2⟩
 ·rcases dd k hk with y | y
  ·exact (h.dj k y).2.1 e
  have:=h.c k e; omega
 ·rcases dd k hk with y | y
  ·exact (h.dj k y).2.2 e
  omega
 rcases mm g e with y | y
 ·exact h.g.1 y
 omega
set_option maxHeartbeats 2000000 in
set_option maxRecDepth 100000 in
theorem g_take0 {X:Type} {g:Nat} {T:TypeId} {o:Nat} {gc:X→Value→Value→Value→Array Value} {fb fc:Value} {S:World→(Nat→Prop)→X→Prop} {bk:X→Bool} {bg cl:X→List Fm→Fm→Nat→X→Prop} {OkB:X→List Fm→Fm→Nat→Prop} {OkC:X→List Fm→Fm→(Nat→Nat)→Prop} (hL:GLay T o fb fc gc) (hG:GCb g T gc fb fc S bk bg cl OkB OkC)
 {w:World} {gs:Gs} {x:X} {A:Nat→Nat} {C M D:Nat→Prop} {t:Tok} (h:GI g T gc S w gs x A C M D) (hk:t.k=0) (ht:TokOk gs.sh t) (hmk:mayKeep gs (bk x)) (hOk:∀b,OkB x gs.st (gBegin gs t false) b) :
 Calls Tryz.prog 53 #[.pointer (some ⟨g,o,none⟩),tagg t] w (TkP g T gc S bk bg cl x gs t A C M D w):=by
 obtain ⟨w0,hw0⟩:∃w0,w0=w.alloc (.cells (tkCells t) 108):=⟨_,rfl⟩
 have bt0:Blk w0 w.heap.size (tkCells t) 108:=by rw [hw0]; exact Blk.new w _ _
 have K0:Keeps w w0:=by rw [hw0]; exact (Fr.refl _ w).alloc _
 have h0:=h.keeps hG K0
 have hok2:=gOk_take h.ok ht hmk
 have eg:gTake gs t (bk x)={ gs with st:=gBegin gs t (bk x)::gs.st,nm:=[],ix:=0,bd:=t.frm+1 }:=by unfold gTake; rw [if_pos hk]
 have ex:∀A x',gX bk bg cl x gs t A w.heap.size x'=bg x gs.st (gBegin gs t false) (A t.frm) x':=fun A x'=>by unfold gX; rw [if_pos hk]
 have BG:=hide (g_begin hL hG h0.s h0.b h0.m h0.ok ht (Or.inl hk) h0.c h0.dj h0.g hOk)
 have hbd:gs.bd≤t.frm:=(ht.k0 hk).2.2.2.2
 have FINE:Hid (∀(w1:World) (b:Nat) (A':Nat→Nat) (M' D':Nat→Prop) (x':X),w0.heap.size≤b→A' (gBegin gs t (bk x)).d.frm=b→(∀k,k<(gBegin gs t (bk x)).d.frm→A' k=A k)→bg x gs.st { gBegin gs t (bk x) with kp:=false } b x'→S w1 D' x'→Blk w1 g (gc x' (parP A gs.st) (.string (bsb [])) (.int .i64 (gs.ix:Nat))) T→FrM w1 A' C ((gBegin gs t (bk x)).d.frm+1) (gBegin gs t (bk x)::gs.st) [] M' →
  (∀k,M' k→M k∨w0.heap.size≤k)→(∀k,D' k→D k∨w0.heap.size≤k)→(∀k,D' k→¬M' k)→Fr (fun k=>D k∨M k∨k=g) w0 w1 →
  TkP g T gc S bk bg cl x gs t A C M D w (.returned (.tuple #[])) ((w1.setCell ⟨g,o+2,none⟩ (.pointer (some ⟨b,0,none⟩))).setCell ⟨g,o+4,none⟩ (.int .i64 0))):=fun w1 b A' M' D' x' hb a1 a2 hbx s1 b1 m1 mm dd dm ff=>by
  obtain ⟨i1,i2,i3⟩:=bg_gi h0 mm dd dm ff
  have f2:Fr (fun k=>k=g) w1 ((w1.setCell ⟨g,o+2,none⟩ (.pointer (some ⟨b,0,none⟩))).setCell ⟨g,o+4,none⟩ (.int .i64 0)):=((Fr.refl (fun k=>k=g) w1).setCell ⟨g,o+2,none⟩ (Or.inl rfl) _).setCell ⟨g,o+4,none⟩ (Or.inl rfl) _
  have a1':A' t.frm=b:=a1
  refine ⟨rfl,A',C,M',D',x',by rw [ex,a1']; exact hbx,?_,fun k hk=>a2 k (Nat.lt_of_lt_of_le hk hbd),fun k hk=>?_,((K0.mono (fun _ _ e=>e.elim)).trans ff).trans (f2.mono (fun k _ e=>Or.inr (Or.inr e)))⟩
  ·refine ⟨hG.keep s1 (fun k hk=>f2.block k (hG.lt s1 hk) (fun e=>(i2 k hk).2.2 e)) f2.size,?_,?_,hok2,?_,fun k hk=>Nat.lt_of_lt_of_le (i1 k hk) f2.size,i2,i3,fun e=>?_⟩
   ·rw [eg]
    have hpar:parP A' (gBegin gs t (bk x)::gs.st)=.pointer (some ⟨b,0,none⟩):=by
     show vpt (A' t.frm)=_
     rw [a1']; rfl
    show Blk _ g (gc _ (parP A' (gBegin gs t (bk x)::gs.st)) (.string (bsb [])) (.int .i64 0)) T
    rw [hpar]
    exact hL.s4 (.int .i64 0) (hL.s2 (.pointer (some ⟨b,0,none⟩)) b1)
   ·rw [eg]
    exact m1.fr i1 f2 (fun k e=>by rw [e]; exact i3)
   ·rw [eg]
    exact ⟨rfl,h.p⟩
   rw [eg] at e; cases e
  rcases hk with e | e | e
  ·rcases dd k e with y | y
   ·exact Or.inl y
   exact Or.inr (Or.inr (Or.inr (Nat.le_trans K0.size y)))
  ·rcases mm k e with y | y
   ·exact Or.inr (Or.inl y)
   exact Or.inr (Or.inr (Or.inr (Nat.le_trans K0.size y)))
  exact Or.inr (Or.inr (Or.inl e))
 have CELLS:Hid (∀{w1:World} {x':X} {a b c:Value},Blk w1 g (gc x' a b c) T→(∃u,w1.cell? ⟨g,o+2,none⟩=some u)∧(∀i,w1.frozen? ⟨g,i,none⟩=false)∧∀v,(∃u,(w1.setCell ⟨g,o+2,none⟩ v).cell? ⟨g,o+4,none⟩=some u)∧(∀i,(w1.setCell ⟨g,o+2,none⟩ v).frozen? ⟨g,i,none⟩=false)):=fun hb=>⟨⟨_,hL.c2 hb⟩,hb.fz,fun v=>⟨⟨_,hL.c4 (hL.s2 v hb)⟩,(hL.s2 v hb).fz⟩⟩
 have n0:((t.k:Int) == 0)=true:=by rw [hk]; decide
 have HW0:Hid (w0=w.alloc (.cells #[.int .i64 (t.k:Nat),.int .i64 (t.of:Nat),.int .i64 (t.frm:Nat),.int .i64 (t.to:Nat),.int .i64 t.n,.string (bsb (tkx t.k t.t))] 108)):=hw0
 clear hw0 bt0 K0 h0 h hk hL hG hok2 eg ex ht hmk hOk hbd
 unfold tagg at *
 go_enter Tryz.func53,Tryz.ntmps53
 go_wp2_with fail
 rw [← HW0.out]
 refine BG.out.mono ?_
 rintro res w1 ⟨b,A',M',D',x',rfl,q1,q2,q3,qx,q4,q5,q6,q7,q8,q9,q10⟩
 have FR:=hide (FINE.out w1 b A' M' D' x' q1 q2 q3 qx q4 q5 q6 q7 q8 q9 q10)
 obtain ⟨⟨u2,c2⟩,fz,cc⟩:=CELLS.out q5
 obtain ⟨⟨u4,c4⟩,fz4⟩:=cc (.pointer (some ⟨b,0,none⟩))
 clear q1 q2 q3 qx q4 q5 q6 q7 q8 q9 q10 cc
 unfold vpt
 go_wp2
 go_end0
 exact FR.out
end Go.Proofs.YtcbadebjpogmlaaGreatDoor
namespace Go.Proofs.YtcbadebjpogmlaaGreatDoor
open Go.RowKit Tr
set_option maxHeartbeats 2000000 in
set_option maxRecDepth 100000 in
theorem g_take3 {X:Type} {g:Nat} {T:TypeId} {o:Nat} {gc:X→Value→Value→Value→Array Value} {fb fc:Value} {S:World→(Nat→Prop)→X→Prop} {bk:X→Bool} {bg cl:X→List Fm→Fm→Nat→X→Prop} {OkB:X→List Fm→Fm→Nat→Prop} {OkC:X→List Fm→Fm→(Nat→Nat)→Prop} (hL:GLay T o fb fc gc) (hG:GCb g T gc fb fc S bk bg cl OkB OkC)
 {w:World} {gs:Gs} {x:X} {A:Nat→Nat} {C M D:Nat→Prop} {t:Tok} (h:GI g T gc S w gs x A C M D) (hk:t.k=3) (ht:TokOk gs.sh t) (hmk:mayKeep gs (bk x)) (hOk:∀b,OkB x gs.st (gBegin gs t false) b) (hOk2:∀(A':Nat→Nat) x1,w.heap.size≤A' t.frm→(∀k,k<gs.bd→A' k=A k)→bg x gs.st (gBegin gs t false) (A' t.frm) x1→OkC x1 gs.st (Fm.ends (gBegin gs t (bk x)) t.to) A') :
 Calls Tryz.prog 53 #[.pointer (some ⟨g,o,none⟩),tagg t] w (TkP g T gc S bk bg cl x gs t A C M D w):=by
 obtain ⟨w0,hw0⟩:∃w0,w0=w.alloc (.cells (tkCells t) 108):=⟨_,rfl⟩
 have bt0:Blk w0 w.heap.size (tkCells t) 108:=by rw [hw0]; exact Blk.new w _ _
 have K0:Keeps w w0.drew:=by rw [hw0]; exact ((Fr.refl _ w).alloc _).drew
 have h0:=h.keeps hG K0
 have hok2:=gOk_take h.ok ht hmk
 have k3:=ht.k3 hk
 have hbd:gs.bd≤t.frm:=k3.2.2.2.2
 have hl8:gs.st.length≤8:=h.ok.len
 have hix:gs.ix≤4000000:=by have:=h.ok.ix; have:=h.ok.bd; omega
 have eg:gTake gs t (bk x)=gClose { gs with nm:=[],bd:=t.frm+1 } (gBegin gs t (bk x)) gs.st t.to:=by unfold gTake; rw [if_neg (by omega),if_neg (by omega),if_neg (by omega)]
 have ex:∀A x',gX bk bg cl x gs t A w.heap.size x'=∃x1,w.heap.size≤A t.frm∧bg x gs.st (gBegin gs t false) (A t.frm) x1∧cl x1 gs.st (Fm.ends (gBegin gs t (bk x)) t.to) (A t.frm) x':=fun A x'=>by unfold gX; rw [if_neg (by omega),if_neg (by omega),if_neg (by omega)]
 have BG:=hide (g_begin hL hG h0.s h0.b h0.m h0.ok ht (Or.inr hk) h0.c h0.dj h0.g hOk)
 have htb:∀k,D k∨M k∨k=g→k≠w.heap.size:=fun k hk e=>by
  rcases hk with y | y | y
  ·have:=hG.lt h.s y; omega
  ·have:=(h.m.lt k y).1; omega
  have:=h.b.lt; omega
 have MID:Hid (∀(w1:World) (b:Nat) (A':Nat→Nat) (M' D':Nat→Prop) (x1:X),w0.drew.heap.size≤b→A' (gBegin gs t (bk x)).d.frm=b→(∀k,k<(gBegin gs t (bk x)).d.frm→A' k=A k)→bg x gs.st { gBegin gs t (bk x) with kp:=false } b x1→S w1 D' x1→Blk w1 g (gc x1 (parP A gs.st) (.string (bsb [])) (.int .i64 (gs.ix:Nat))) T→FrM w1 A' C ((gBegin gs t (bk x)).d.frm+1) (gBegin gs t (bk x)::gs.st) [] M' →
  (∀k,M' k→M k∨w0.drew.heap.size≤k)→(∀k,D' k→D k∨w0.drew.heap.size≤k)→(∀k,D' k→¬M' k)→Fr (fun k=>D k∨M k∨k=g) w0.drew w1 →
  w1.cell? ⟨w.heap.size,3,none⟩=some (.int .i64 (t.to:Nat)) ∧
  Calls Tryz.prog 73 #[.pointer (some ⟨g,o,none⟩),.pointer (some ⟨b,0,none⟩),.int .i64 (t.to:Nat)] w1 (TkP g T gc S bk bg cl x gs t A C M D w)):=fun w1 b A' M' D' x1 hb a1 a2 hbx s1 b1 m1 mm dd dm ff=>by
  obtain ⟨i1,i2,i3⟩:=bg_gi h0 mm dd dm ff
  have a1':A' t.frm=b:=a1
  refine ⟨(Blk.fr (w:=w0.drew) bt0 ff (fun e=>htb _ e rfl)).cell 3,?_⟩
  have CL:=g_close hL hG s1 b1 m1 hl8 i1 i2 i3 hix t.to (hOk2 A' x1 (by rw [a1']; exact Nat.le_trans K0.size hb) (fun k hk=>a2 k (Nat.lt_of_lt_of_le hk hbd)) (by rw [a1']; exact hbx))
  rw [show A' (gBegin gs t (bk x)).d.frm=b from a1] at CL
  refine CL.mono ?_
  rintro res w' ⟨q1,D2,x',qx,q2,q3,q4,q5,q6⟩
  have i1':∀k,C k→k<w'.heap.size:=fun k hk=>Nat.lt_of_lt_of_le (i1 k hk) q6.size
  have i2':∀k,D2 k→¬M' k∧¬C k∧k≠g:=fun k hk=>by
   rcases q5 k hk with e | e
   ·exact i2 k e
   refine ⟨fun y=>?_,fun y=>?_,fun y=>?_⟩
   ·have:=(m1.lt k y).1; omega
   ·have:=i1 k y; omega
   have:=b1.lt; omega
  have hparP:parP A' gs.st=parP A gs.st:=parP_upd (bd:=gs.bd) (fun k hk=>a2 k (Nat.lt_of_lt_of_le hk hbd)) h.m
  obtain ⟨C',M2,c1,c2,c3⟩:=gi_close (gs:=gTake gs t (bk x)) (f:=gBegin gs t (bk x)) (nm:=[]) q2 q3 q4 hl8 hix (by simp [gBegin]) (fun hkp p q e=>hmk hkp p q e) rfl h.p i1' i2' i3 (by rw [eg]; rfl) hok2
  refine ⟨q1,A',C',M2,D2,x',by rw [ex,a1']; exact ⟨x1,Nat.le_trans K0.size hb,hbx,qx⟩,c1,fun k hk=>a2 k (Nat.lt_of_lt_of_le hk hbd),fun k hk=>?_,?_⟩
  ·have mk:M' k→D k∨M k∨C k∨w.heap.size≤k:=fun y=>by
    rcases mm k y with z | z
    ·exact Or.inr (Or.inl z)
    exact Or.inr (Or.inr (Or.inr (Nat.le_trans K0.size z)))
   rcases hk with e | e | e
   ·rcases q5 k e with y | y
    ·rcases dd k y with z | z
     ·exact Or.inl z
     exact Or.inr (Or.inr (Or.inr (Nat.le_trans K0.size z)))
    exact Or.inr (Or.inr (Or.inr (Nat.le_trans K0.size (Nat.le_trans ff.size y))))
   ·exact mk (c3 k e)
   rcases c2 k e with y | y
   ·exact Or.inr (Or.inr (Or.inl y))
   exact mk y
  refine ⟨q6.os.trans (ff.os.trans K0.os),q6.tape.trans (ff.tape.trans K0.tape),q6.output.trans (ff.output.trans K0.output),Nat.le_trans K0.size (Nat.le_trans ff.size q6.size),fun k hk hn=>?_⟩
  have hk0:k<w0.drew.heap.size:=Nat.lt_of_lt_of_le hk K0.size
  rw [q6.block k (Nat.lt_of_lt_of_le hk0 ff.size) (fun e=>?_),ff.block k hk0 hn,K0.block k hk id]
  rcases e with y | y | y
  ·rcases dd k y with z | z
   ·exact hn (Or.inl z)
   omega
  ·rcases mm k y with z | z
   ·exact hn (Or.inr (Or.inl z))
   omega
  exact hn (Or.inr (Or.inr y))
 have tc3:w0.cell? ⟨w.heap.size,3,none⟩=some (.int .i64 (t.to:Nat)):=bt0.cell 3
 have n0:((t.k:Int) == 0)=false:=by rw [hk]; decide
 have n1:((t.k:Int) == 1)=false:=by rw [hk]; decide
 have n2:((t.k:Int) == 2)=false:=by rw [hk]; decide
 have n3:((t.k:Int) == 3)=true:=by rw [hk]; decide
 have HW0:Hid (w0=w.alloc (.cells #[.int .i64 (t.k:Nat),.int .i64 (t.of:Nat),.int .i64 (t.frm:Nat),.int .i64 (t.to:Nat),.int .i64 t.n,.string (bsb (tkx t.k t.t))] 108)):=hw0
 have tcs:∀i,i<6→w0.cell? ⟨w.heap.size,i,none⟩=(tkCells t)[i]?:=fun i _=>bt0.cell i
 have tc0:w0.cell? ⟨w.heap.size,0,none⟩=some (.int .i64 (t.k:Nat)):=bt0.cell 0
 have tc1:w0.cell? ⟨w.heap.size,1,none⟩=some (.int .i64 (t.of:Nat)):=bt0.cell 1
 have tc2:w0.cell? ⟨w.heap.size,2,none⟩=some (.int .i64 (t.frm:Nat)):=bt0.cell 2
 have tc4:w0.cell? ⟨w.heap.size,4,none⟩=some (.int .i64 t.n):=bt0.cell 4
 have tc5:w0.cell? ⟨w.heap.size,5,none⟩=some (.string (bsb (tkx t.k t.t))):=bt0.cell 5
 clear hw0 bt0 K0 h0 h hk hL hG hok2 eg ex ht hmk hOk hOk2 hbd htb hl8 hix k3 tcs
 unfold tagg at *
 go_enter Tryz.func53,Tryz.ntmps53
 go_wp2
 rw [← HW0.out]
 go_region_with (first
  | (go_at_call 72; refine BG.out.mono ?_; rintro res w1 ⟨b,A',M',D',x1,rfl,q1,q2,q3,qx,q4,q5,q6,q7,q8,q9,q10⟩; obtain ⟨tk3,cl3⟩:=MID.out w1 b A' M' D' x1 q1 q2 q3 qx q4 q5 q6 q7 q8 q9 q10; have CC:=hide cl3; clear q1 q2 q3 qx q4 q5 q6 q7 q8 q9 q10 cl3; unfold vpt)
  | (go_at_call 73; refine CC.out.mono ?_; intro res w2 hr; have FR:=hide hr; obtain ⟨rfl,_⟩:=hr))
 all_goals
  go_wp2
  go_end0
  exact FR.out
theorem g_take {X:Type} {g:Nat} {T:TypeId} {o:Nat} {gc:X→Value→Value→Value→Array Value} {fb fc:Value} {S:World→(Nat→Prop)→X→Prop} {bk:X→Bool} {bg cl:X→List Fm→Fm→Nat→X→Prop} {OkB:X→List Fm→Fm→Nat→Prop} {OkC:X→List Fm→Fm→(Nat→Nat)→Prop} (hL:GLay T o fb fc gc) (hG:GCb g T gc fb fc S bk bg cl OkB OkC)
 {w:World} {gs:Gs} {x:X} {A:Nat→Nat} {C M D:Nat→Prop} {t:Tok} (h:GI g T gc S w gs x A C M D) (ht:TokOk gs.sh t) (hmk:mayKeep gs (bk x)) (hOk:t.k=0∨t.k=3→∀b,OkB x gs.st (gBegin gs t false) b) (hOk1:t.k=1→∀f r,gs.st=f::r→OkC x r (Fm.ends f t.to) A) (hOk2:t.k=3→∀(A':Nat→Nat) x1,w.heap.size≤A' t.frm→(∀k,k<gs.bd→A' k=A k)→bg x gs.st (gBegin gs t false) (A' t.frm) x1→OkC x1 gs.st (Fm.ends (gBegin gs t (bk x)) t.to) A') :
 Calls Tryz.prog 53 #[.pointer (some ⟨g,o,none⟩),tagg t] w (TkP g T gc S bk bg cl x gs t A C M D w):=by
 have h3:=ht.k
 by_cases k0:t.k=0
 ·exact g_take0 hL hG h k0 ht hmk (hOk (Or.inl k0))
 by_cases k1:t.k=1
 ·exact g_take1 hL hG h k1 ht hmk (hOk1 k1)
 by_cases k2:t.k=2
 ·exact g_take2 hL hG h k2
 exact g_take3 hL hG h (by omega) ht hmk (hOk (Or.inr (by omega))) (hOk2 (by omega))
end Go.Proofs.YtcbadebjpogmlaaGreatDoor
namespace Go.Proofs.YtcbadebjpogmlaaGreatDoor
open Go.RowKit Tr
theorem GI.sm {X:Type} {g:Nat} {T:TypeId} {gc:X→Value→Value→Value→Array Value} {fb fc:Value} {S:World→(Nat→Prop)→X→Prop} {bk:X→Bool} {bg cl:X→List Fm→Fm→Nat→X→Prop} {OkB:X→List Fm→Fm→Nat→Prop} {OkC:X→List Fm→Fm→(Nat→Nat)→Prop} (hG:GCb g T gc fb fc S bk bg cl OkB OkC) {w w':World} {gs:Gs} {x:X} {A:Nat→Nat} {C M D:Nat→Prop} (h:GI g T gc S w gs x A C M D) (f:Sm (fun k=>D k∨M k∨C k∨k=g) w w') (hz:w.heap.size≤w'.heap.size):GI g T gc S w' gs x A C M D :=
 ⟨hG.keep h.s (fun k hk=>f k (Or.inl hk)) hz,(f g (Or.inr (Or.inr (Or.inr rfl)))).trans h.b,h.m.keep (fun k hk=>f k (Or.inr (Or.inr (Or.inl hk)))) (fun k hk=>f k (Or.inr (Or.inl hk))),h.ok,h.p,fun k hk=>Nat.lt_of_lt_of_le (h.c k hk) hz,h.dj,h.g,fun h0 t ht=>⟨(h.l h0 t ht).1.imp (fun _ y=>⟨y.1,y.2.keep (fun k hk=>f k (Or.inr (Or.inr (Or.inl hk))))⟩),(h.l h0 t ht).2⟩⟩
theorem last_take {g:Gs} {t:Tok} {kp:Bool} (hok:GOk g) (ht:TokOk g.sh t) (h:∀v,g.last=some v→fr v<g.bd):∀v,(gTake g t kp).last=some v→fr v<(gTake g t kp).bd:=by
 have hbd:g.sh.bd=g.bd:=rfl
 unfold gTake
 by_cases h0:t.k=0
 ·rw [if_pos h0]
  intro v hv
  have:=h v hv
  have k0:=(ht.k0 h0).2.2.2.2
  show fr v<t.frm+1
  omega
 rw [if_neg h0]
 by_cases h1:t.k=1
 ·rw [if_pos h1]
  cases hs:g.st with
  | nil=>exact h
  | cons f r =>
   intro v hv
   have e:f.tv t.to=v:=Option.some.inj hv
   have hw:=hok.ws
   rw [hs] at hw
   rw [← e]
   exact hw.2.2.1
 rw [if_neg h1]
 by_cases h2:t.k=2
 ·rw [if_pos h2]; exact h
 rw [if_neg h2]
 intro v hv
 have e:(gBegin g t kp).tv t.to=v:=Option.some.inj hv
 rw [← e]
 show t.frm<t.frm+1
 omega
def tS (gb lb:Nat) (w:World) (D:Nat→Prop) (ts:List Tok):Prop:=OkL ⟨[],0⟩ ts∧∃x A C M D0,GI gb 119 (rgc lb) (rS lb) w (gRun gInit ts) x A C M D0∧ixOk (gRun gInit ts).st (gRun gInit ts).ix∧.pointer x=optA A (gRun gInit ts).last∧(∀v,(gRun gInit ts).last=some v→fr v<(gRun gInit ts).bd)∧(∀k,D k↔D0 k∨M k∨C k∨k=gb)
def tV (ts:List Tok) (t:Tok):Prop:=TokOk (shRun ⟨[],0⟩ ts) t
theorem tV_ok:∀{b a:List Tok},OkL (shRun ⟨[],0⟩ a) b→VL tV a b
 | [],_,_=>trivial
 | t::b,a,h=>⟨h.1,tV_ok (by rw [shRun_app]; exact h.2)⟩
theorem gRun_one (g:Gs) (t:Tok):gRun g [t]=gTake g t true:=rfl
theorem t_sink (gb lb:Nat):Sink (.func (.func 53) #[.pointer (some ⟨gb,0,none⟩)] #[]) (tS gb lb) tV where
 lt:=fun {w D ts k} h hk=>by
  obtain ⟨_,x,A,C,M,D0,h1,_,_,_,h5⟩:=h
  rcases (h5 k).1 hk with e | e | e | e
  ·exact (r_cb lb gb).lt h1.s e
  ·exact (h1.m.lt k e).1
  ·exact h1.c k e
  rw [e]; exact h1.b.lt
 keep:=fun {w w' D ts} h s hz=>by
  obtain ⟨h0,x,A,C,M,D0,h1,h2,h3,h4,h5⟩:=h
  exact ⟨h0,x,A,C,M,D0,h1.sm (r_cb lb gb) (fun k hk=>s k ((h5 k).2 hk)) hz,h2,h3,h4,h5⟩
 call:=⟨_,_,_,rfl,fun _ _=>Tryz.call53 _ _,fun w D ts t h hV=>by
  obtain ⟨h0,x,A,C,M,D0,h1,h2,h3,h4,h5⟩:=h
  have hsh:(gRun gInit ts).sh=shRun ⟨[],0⟩ ts:=gRun_sh (g:=gInit) h0
  have ht:TokOk (gRun gInit ts).sh t:=by rw [hsh]; exact hV
  have e1:gRun gInit (ts++[t])=gTake (gRun gInit ts) t true:=by rw [gRun_app,gRun_one]
  refine (g_take (r_lay lb) (r_cb lb gb) h1 ht (h2.may true) (fun _ _=>trivial) (fun _ _ _ _=>trivial) (fun _ _ _ _ _ _=>trivial)).mono ?_
  rintro res w' ⟨rfl,A',C',M',D',x',qx,q1,q2,q3,q4⟩
  refine ⟨rfl,fun k=>D' k∨M' k∨C' k∨k=gb,⟨h0.app ⟨hV,trivial⟩,_,A',C',M',D',by rw [e1]; exact q1,by rw [e1]; exact ix_take h2,?_,by rw [e1]; exact last_take h1.ok ht h4,fun _=>Iff.rfl⟩,fun k hk=>?_,q4.mono (fun k _ e=>?_)⟩
  ·rw [e1]
   have old:optA A' (gRun gInit ts).last=optA A (gRun gInit ts).last:=by
    cases hl:(gRun gInit ts).last with
    | none=>rfl
    | some v=>show pvp A' v=pvp A v; unfold pvp; rw [q2 v.d.frm (h4 v hl)]
   unfold gX at qx
   unfold gTake
   by_cases k0:t.k=0
   ·rw [if_pos k0] at qx
    rw [if_pos k0,qx]; rw [h3,← old]
   rw [if_neg k0] at qx ⊢
   by_cases k1:t.k=1
   ·rw [if_pos k1] at qx ⊢
    cases hs:(gRun gInit ts).st with
    | nil=>rw [hs] at qx; rw [qx,h3,← old]
    | cons f r=>rw [hs] at qx; rw [qx]; rfl
   rw [if_neg k1] at qx ⊢
   by_cases k2:t.k=2
   ·rw [if_pos k2] at qx ⊢
    rw [qx,h3,← old]
   rw [if_neg k2] at qx ⊢
   obtain ⟨x1,_,_,e⟩:=qx
   rw [e]
   rfl
  ·rcases hk with e | e | e | e
   ·rcases q3 k (Or.inl e) with y | y | y | y
    ·exact Or.inl ((h5 k).2 (Or.inl y))
    ·exact Or.inl ((h5 k).2 (Or.inr (Or.inl y)))
    ·exact Or.inl ((h5 k).2 (Or.inr (Or.inr (Or.inl y))))
    exact Or.inr y
   ·rcases q3 k (Or.inr (Or.inl e)) with y | y | y | y
    ·exact Or.inl ((h5 k).2 (Or.inl y))
    ·exact Or.inl ((h5 k).2 (Or.inr (Or.inl y)))
    ·exact Or.inl ((h5 k).2 (Or.inr (Or.inr (Or.inl y))))
    exact Or.inr y
   ·rcases q3 k (Or.inr (Or.inr e)) with y | y | y | y
    ·exact Or.inl ((h5 k).2 (Or.inl y))
    ·exact Or.inl ((h5 k).2 (Or.inr (Or.inl y)))
    ·exact Or.inl ((h5 k).2 (Or.inr (Or.inr (Or.inl y))))
    exact Or.inr y
   exact Or.inl ((h5 k).2 (Or.inr (Or.inr (Or.inr e))))
  rcases e with y | y | y
  ·exact (h5 k).2 (Or.inl y)
  ·exact (h5 k).2 (Or.inr (Or.inl y))
  exact (h5 k).2 (Or.inr (Or.inr (Or.inr y)))⟩
end Go.Proofs.YtcbadebjpogmlaaGreatDoor
namespace Go.Proofs.YtcbadebjpogmlaaGreatDoor
open Go.RowKit Tr
def TrP (s:ByteArray) (w:World) (r:Ending) (w':World):Prop :=
 Keeps w w'∧((txErr (bs s)≠0∧r=.returned (.tuple #[.pointer none,.int .i64 (txErr (bs s):Nat),.int .i64 (txAt (bs s):Nat)])) ∨
  (txErr (bs s)=0∧∃A D t ix,txVal (bs s)=some t∧r=.returned (.tuple #[pvp A t,.int .i64 0,.int .i64 0])∧ix≤4000000∧PT w' A D 10 (.pointer none) ix t∧FB 4000001 10 t∧t.d.path=[36]∧∀k,D k→k<w'.heap.size))
theorem end_ok {l:List UInt8} (hl:l.length≤4000000) (he:(sRun sInit l).e=0):OkL (shRun ⟨[],0⟩ (sRun sInit l).ts) (sEnd (sRun sInit l).z):=by
 have R:=run_ok' l sInit_ok.1 sInit_ok.2 (by simp [sInit]) (by simp [sInit]; omega)
 obtain ⟨r1,r2,r3,r4⟩:=R.ok he
 have hat:(sRun sInit l).z.at'=l.length:=by simpa [sInit] using r3
 unfold sEnd
 split
 ·rename_i h9; exact OkL.one (tokNum r1 r4 (Or.inr h9) (by omega))
 trivial
theorem tS_init {w:World} {gb lb:Nat} (hne:gb≠lb) (h1:Blk w lb #[.pointer none] 71) (h2:Blk w gb #[rfb,rfc lb,.pointer none,.string ⟨#[]⟩,.int .i64 0] 119):tS gb lb w (fun k=>k=lb∨k=gb) []:=by
 refine ⟨trivial,none,fun _=>0,fun _=>False,fun _=>False,fun k=>k=lb,⟨⟨fun _=>Iff.rfl,h1⟩,h2,fun _ x=>x,gInit_ok,trivial,fun _ x=>x.elim,fun k hk=>⟨id,id,fun e=>hne (e.symm.trans hk)⟩,⟨id,id⟩,fun _ t ht=>by cases ht⟩,trivial,rfl,fun v hv=>(by cases hv),fun k=>?_⟩
 constructor
 ·rintro (e | e)
  ·exact Or.inl e
  exact Or.inr (Or.inr (Or.inr e))
 rintro (e | e | e | e)
 ·exact Or.inl e
 ·exact e.elim
 ·exact e.elim
 exact Or.inr e
set_option maxHeartbeats 4000000 in
set_option maxRecDepth 100000 in
theorem p_read {w:World} (s:ByteArray) (hs:s.size≤4000000):Calls Tryz.prog 34 #[.string s] w (TrP s w):=by
 have hlen:(bs s).length=s.size:=bs_len s
 obtain ⟨rb,hrb⟩:∃rb,rb=w.heap.size:=⟨_,rfl⟩
 obtain ⟨W3,hW3⟩:∃W3,W3=((w.alloc (.cells #[.int .i64 0,.int .i64 0,.slice none 0 0,.int .i64 0,.int .i64 0,.int .i64 0,.int .i64 0,.int .i64 0,.string ⟨#[]⟩,.pointer none,.slice none 0 0,.string ⟨#[]⟩,.int .i64 0,.int .i64 0,.nilFunc] 115)).alloc (.cells #[.pointer none] 71)).alloc (.cells #[.func (.func 50) #[] #[],.func (.func 51) #[] #[.pointer (some ⟨rb+1,0,none⟩)],.pointer none,.string ⟨#[]⟩,.int .i64 0] 119):=⟨_,rfl⟩
 have K3:Keeps w W3:=by rw [hW3]; exact (((Fr.refl _ w).alloc _).alloc _).alloc _
 have BR:Blk W3 rb (rcl 0 sInit (.slice none 0 0) (.pointer none) (.slice none 0 0) .nilFunc) 115:=by
  rw [hW3,hrb]
  exact (Blk.alloc (Blk.alloc (Blk.new w _ _) _) _)
 have BL:Blk W3 (rb+1) #[.pointer none] 71:=by
  rw [hW3,hrb]
  have:=Blk.alloc (Blk.new (w.alloc (.cells #[.int .i64 0,.int .i64 0,.slice none 0 0,.int .i64 0,.int .i64 0,.int .i64 0,.int .i64 0,.int .i64 0,.string ⟨#[]⟩,.pointer none,.slice none 0 0,.string ⟨#[]⟩,.int .i64 0,.int .i64 0,.nilFunc] 115)) #[.pointer none] 71) (.cells #[.func (.func 50) #[] #[],.func (.func 51) #[] #[.pointer (some ⟨w.heap.size+1,0,none⟩)],.pointer none,.string ⟨#[]⟩,.int .i64 0] 119)
  simpa using this
 have BG:Blk W3 (rb+1+1) #[rfb,rfc (rb+1),.pointer none,.string ⟨#[]⟩,.int .i64 0] 119:=by
  rw [hW3,hrb]
  have:=Blk.new ((w.alloc (.cells #[.int .i64 0,.int .i64 0,.slice none 0 0,.int .i64 0,.int .i64 0,.int .i64 0,.int .i64 0,.int .i64 0,.string ⟨#[]⟩,.pointer none,.slice none 0 0,.string ⟨#[]⟩,.int .i64 0,.int .i64 0,.nilFunc] 115)).alloc (.cells #[.pointer none] 71)) #[rfb,rfc (w.heap.size+1),.pointer none,.string ⟨#[]⟩,.int .i64 0] 119
  simp only [World.size_alloc] at this
  exact this
 have S0:tS (rb+1+1) (rb+1) W3 (fun k=>k=rb+1∨k=rb+1+1) []:=tS_init (by omega) BL BG
 have M0:RM (tS (rb+1+1) (rb+1)) .nilFunc rb sInit.st sInit [] (fun k=>k=rb∨k=rb+1∨k=rb+1+1) W3 :=
  ⟨.slice none 0 0,.pointer none,.slice none 0 0,_,⟨BR,World.ownsRow_nil _ _ _ _,World.ownsRow_nil _ _ _ _,Or.inl rfl,fun _=>rfl⟩,S0,fun k hk=>⟨by omega,(fun e=>by cases e),(fun e=>by cases e)⟩,fun k=>⟨fun h=>by
   rcases h with e | e | e
   ·exact Or.inl e
   ·exact Or.inr (Or.inr (Or.inr (Or.inl e)))
   ·exact Or.inr (Or.inr (Or.inr (Or.inr e))),fun h=>by
   rcases h with e | e | e | e | e
   ·exact Or.inl e
   ·cases e
   ·cases e
   ·exact Or.inr (Or.inl e)
   exact Or.inr (Or.inr e)⟩⟩
 have R:=run_ok' (bs s) sInit_ok.1 sInit_ok.2 (by simp [sInit]) (by simp [sInit]; omega)
 have CR:=hide (t_Read (t_sink (rb+1+1) (rb+1)) M0 sInit_ok.1 sInit_ok.2 (by simp [sInit]) s (by simp [sInit]; omega) (by simp [sInit]; omega) (tV_ok (a:=[]) R.tok))
 have EK:Hid (∀E' w',Ev (fun k=>k=rb∨k=rb+1∨k=rb+1+1) W3 E' w'→Keeps w w'):=fun E' w' h=>⟨h.f.os.trans K3.os,h.f.tape.trans K3.tape,h.f.output.trans K3.output,Nat.le_trans K3.size h.f.size,fun k hk _=>(h.f.block k (Nat.lt_of_lt_of_le hk K3.size) (fun e=>by omega)).trans (K3.block k hk id)⟩
 have HR:=hide R
 have HW3:=hide hW3
 have HRB:=hide hrb
 clear S0 M0 BR BL BG K3 R hW3 hrb
 go_enter Tryz.func34,Tryz.ntmps34
 go_wp2_with fail
 rw [← HRB.out,← HW3.out]
 refine CR.out.mono ?_
 rintro res w1 ⟨rfl,E1,hM1,hE1⟩
 have MM1:=hide hM1
 have EV1:=hide hE1
 clear hM1 hE1 CR
 by_cases he:(sRun sInit (bs s)).e=0
 ·have hat:(sRun sInit (bs s)).z.at'=(bs s).length:=by
   obtain ⟨_,_,r3,_⟩:=HR.out.ok he
   simpa [sInit] using r3
  have CE:=hide (t_End (t_sink (rb+1+1) (rb+1)) MM1.out (HR.out.ok he).1 (fun _=>tV_ok (a:=[]++(sRun sInit (bs s)).ts) (by simpa using end_ok (by omega) he)))
  have HE0:=hide he
  have HAT:=hide hat
  rw [he]
  clear he hat
  go_wp2_with fail
  refine CE.out.mono ?_
  rintro res w2 ⟨rfl,E2,hM2,hE2⟩
  have KW:=hide (EK.out _ _ (EV1.out.trans hE2))
  clear hE2
  by_cases hw:sWhole (sRun sInit (bs s)).z=true
  ·have h0:txErr (bs s)=0:=by unfold txErr; rw [if_neg (by simp [HE0.out]),if_pos hw]
   obtain ⟨t1,t2,t,t3⟩:=tx_ok (by omega) h0
   have hts:[]++(sRun sInit (bs s)).ts++(if sWhole (sRun sInit (bs s)).z=true then sEnd (sRun sInit (bs s)).z else [])=txTs (bs s):=by rw [if_pos hw]; rfl
   rw [hts] at hM2
   obtain ⟨_,_,_,D2,_,hS2,_,_⟩:=hM2.ex
   obtain ⟨_,x,A,C,M,D0,q1,q2,q3,q4,q5⟩:=hS2
   have hl:(gRun gInit (txTs (bs s))).last=some t:=t3
   obtain ⟨⟨ix,hix,hpt⟩,hfb,hpa⟩:=q1.l t2 t hl
   rw [hl] at q3
   have hx:.pointer x=pvp A t:=q3
   have c0:w2.cell? ⟨rb+1,0,none⟩=some (.pointer x):=q1.s.2.cell 0
   have RES:Hid (TrP s w (.returned (.tuple #[.pointer x,.int .i64 0,.int .i64 0])) w2):=by
    refine ⟨KW.out,Or.inr ⟨h0,A,C,t,ix,t3,by rw [hx],hix,hpt,hfb.up (by have:=q1.ok.bd; omega),hpa,q1.c⟩⟩
   rw [if_pos hw,if_pos hw]
   clear hw h0 t1 t2 t3 hts hM2 q1 q2 q3 q4 q5 hl hpt hfb hpa hx
   go_wp2
   go_ret3
   exact RES.out
  have RES:Hid (TrP s w (.returned (.tuple #[.pointer none,.int .i64 2,.int .i64 ((sRun sInit (bs s)).z.at':Nat)])) w2):=by
   have e1:txErr (bs s)=2:=by unfold txErr; rw [if_neg (by simp [HE0.out]),if_neg hw]
   have e2:txAt (bs s)=(sRun sInit (bs s)).z.at':=by unfold txAt; rw [if_neg (by simp [HE0.out]),if_neg hw,HAT.out]
   exact ⟨KW.out,Or.inl ⟨by omega,by rw [e1,e2]; rfl⟩⟩
  rw [if_neg hw,if_neg hw]
  clear hw hM2
  generalize (sRun sInit (bs s)).z.at'=av at *
  go_wp2
  go_ret3
  exact RES.out
 have RES:Hid (TrP s w (.returned (.tuple #[.pointer none,.int .i64 ((sRun sInit (bs s)).e:Nat),.int .i64 ((sRun sInit (bs s)).z.at':Nat)])) w1):=by
  have e1:txErr (bs s)=(sRun sInit (bs s)).e:=by unfold txErr; rw [if_pos he]
  have e2:txAt (bs s)=(sRun sInit (bs s)).z.at':=by unfold txAt; rw [if_pos he]
  exact ⟨EK.out _ _ EV1.out,Or.inl ⟨by rw [e1]; exact he,by rw [e1,e2]⟩⟩
 have hd:(((sRun sInit (bs s)).e:Int) != 0)=true:=by rw [bne_iff_ne]; omega
 rw [if_neg he]
 clear he
 generalize (sRun sInit (bs s)).e=ev at *
 generalize (sRun sInit (bs s)).z.at'=av at *
 go_wp2
 go_ret3
 exact RES.out
end Go.Proofs.YtcbadebjpogmlaaGreatDoor
