import Derived.Test.YtcbadebjpogmlaaGreatDoorVsGe
import Derived.Test.YtcbadebjpogmlaaGreatDoorVsQc
import Derived.Test.YtcbadebjpogmlaaGreatDoorVsFa
import Derived.Deep.WholeRow
set_option maxHeartbeats 4000000
set_option maxRecDepth 100000
namespace Go.Proofs.YtcbadebjpogmlaaGreatDoor
open Go.RowKit Tr
theorem OB {X:Type} {g:Nat} {T:TypeId} {gc:X->Value->Value->Value->Array Value} {S:World->(Nat->Prop)->X->Prop}
 {w w1:World} {gs:Gs} {x:X} {A:Nat->Nat} {C M D M' D':Nat->Prop} (h:GI g T gc S w gs x A C M D) (mm:∀k,M' k->M k\/w.heap.size<=k) (dd:∀k,D' k->D k\/w.heap.size<=k) (dm:∀k,D' k->¬M' k) (ff:Fr (λ k=>D k\/M k\/k=g) w w1) :
 (∀k,C k->k<w1.heap.size)/\(∀k,D' k->¬M' k/\¬C k/\k≠g)/\(¬M' g/\¬C g):=by
 have qg:=h.b.lt
 refine ⟨λ k hk=>Nat.lt_of_lt_of_le (h.c k hk) ff.size,λ k hk=>⟨dm k hk,λ e=>?_,λ e=>?_⟩,λ e=>?_,h.g.2⟩
 ·rcases dd k hk with y | y
  ·exact (h.dj k y).2.1 e
  have:=h.c k e; omega
 ·rcases dd k hk with y | y
  ·exact (h.dj k y).2.2 e
  omega
 rcases mm g e with y | y
 ·exact h.g.1 y
 omega
theorem Ll {X:Type} {g:Nat} {T:TypeId} {o:Nat} {gc:X->Value->Value->Value->Array Value} {fb fc:Value} {S:World->(Nat->Prop)->X->Prop} {bk:X->Bool} {bg cl:X->List Fm->Fm->Nat->X->Prop} {kJ:X->List Fm->Fm->Nat->Prop} {pO:X->List Fm->Fm->(Nat->Nat)->Prop} (hL:wz T o fb fc gc) (hG:Kn g T gc fb fc S bk bg cl kJ pO)
 {w:World} {gs:Gs} {x:X} {A:Nat->Nat} {C M D:Nat->Prop} {t:Tok} (h:GI g T gc S w gs x A C M D) (hk:t.k=0) (ht:f_ gs.sh t) (hmk:lg gs (bk x)) (rX:∀b,kJ x gs.st (aM gs t false) b) :
 Calls Tryz.prog 53 #[.pointer (some ⟨g,o,none⟩),gD t] w (Li g T gc S bk bg cl x gs t A C M D w):=by
 obtain ⟨w0,hw0⟩:∃w0,w0=w.alloc (.cells (gP t) 108):=⟨_,rfl⟩
 have pg:ay w0 w.heap.size (gP t) 108:=by rw [hw0]; exact ay.new w _ _
 have K0:ak w w0:=by rw [hw0]; exact (Fr.refl _ w).alloc _
 have h0:=h.keeps hG K0
 have fL:=qf h.ok ht hmk
 have eg:aR gs t (bk x)={ gs with st:=aM gs t (bk x)::gs.st,nm:=[],ix:=0,bd:=t.ai+1 }:=by unfold aR; rw [if_pos hk]
 have ex:∀A x',gX bk bg cl x gs t A w.heap.size x'=bg x gs.st (aM gs t false) (A t.ai) x':=λ A x'=>by unfold gX; rw [if_pos hk]
 have BG:=aa (Bh hL hG h0.s h0.b h0.m h0.ok ht (Or.inl hk) h0.c h0.dj h0.g rX)
 have hbd:gs.bd<=t.ai:=(ht.k0 hk).2.2.2.2
 have wo:Hid (∀(w1:World) (b:Nat) (A':Nat->Nat) (M' D':Nat->Prop) (x':X),w0.heap.size<=b->A' (aM gs t (bk x)).d.ai=b->(∀k,k<(aM gs t (bk x)).d.ai->A' k=A k)->bg x gs.st { aM gs t (bk x) with kp:=false } b x'->S w1 D' x'->ay w1 g (gc x' (dD A gs.st) (.string (bZ [])) (.int .i64 (gs.ix:Nat))) T->gE w1 A' C ((aM gs t (bk x)).d.ai+1) (aM gs t (bk x)::gs.st) [] M' ->
  (∀k,M' k->M k\/w0.heap.size<=k)->(∀k,D' k->D k\/w0.heap.size<=k)->(∀k,D' k->¬M' k)->Fr (λ k=>D k\/M k\/k=g) w0 w1 ->
  Li g T gc S bk bg cl x gs t A C M D w (.returned (.tuple #[])) ((w1.setCell ⟨g,o+2,none⟩ (.pointer (some ⟨b,0,none⟩))).setCell ⟨g,o+4,none⟩ (.int .i64 0))):=λ w1 b A' M' D' x' hb a1 a2 Qn s1 b1 m1 mm dd dm ff=>by
  obtain ⟨i1,i2,i3⟩:=OB h0 mm dd dm ff
  have f2:Fr (λ k=>k=g) w1 ((w1.setCell ⟨g,o+2,none⟩ (.pointer (some ⟨b,0,none⟩))).setCell ⟨g,o+4,none⟩ (.int .i64 0)):=((Fr.refl (λ k=>k=g) w1).setCell ⟨g,o+2,none⟩ (Or.inl rfl) _).setCell ⟨g,o+4,none⟩ (Or.inl rfl) _
  have TG:A' t.ai=b:=a1
  refine ⟨rfl,A',C,M',D',x',by rw [ex,TG]; exact Qn,?_,λ k hk=>a2 k (Nat.lt_of_lt_of_le hk hbd),λ k hk=>?_,((K0.mono (λ_ _ e=>e.elim)).trans ff).trans (f2.mono (λ k _ e=>Or.inr (Or.inr e)))⟩
  ·refine ⟨hG.keep s1 (λ k hk=>f2.block k (hG.lt s1 hk) (λ e=>(i2 k hk).2.2 e)) f2.size,?_,?_,fL,?_,λ k hk=>Nat.lt_of_lt_of_le (i1 k hk) f2.size,i2,i3,λ e=>?_⟩
   ·rw [eg]
    have hpar:dD A' (aM gs t (bk x)::gs.st)=.pointer (some ⟨b,0,none⟩):=by
     show nG (A' t.ai)=_
     rw [TG]; rfl
    show ay _ g (gc _ (dD A' (aM gs t (bk x)::gs.st)) (.string (bZ [])) (.int .i64 0)) T
    rw [hpar]
    exact hL.s4 (.int .i64 0) (hL.s2 (.pointer (some ⟨b,0,none⟩)) b1)
   ·rw [eg]
    exact m1.fr i1 f2 (λ k e=>by rw [e]; exact i3)
   ·rw [eg]
    exact ⟨rfl,h.p⟩
   rw [eg] at e; cases e
  rcases hk with e | e | e
  ·rcases dd k e with y | y
   ·exact Or.inl y
   exact Or.inr (Or.inr (Or.inr (Nat.le_trans K0.size y)))
  ·rcases mm k e with y | y
   ·exact Or.inr (Or.inl y)
   exact Or.inr (Or.inr (Or.inr (Nat.le_trans K0.size y)))
  exact Or.inr (Or.inr (Or.inl e))
 have UP:Hid (∀{w1:World} {x':X} {a b c:Value},ay w1 g (gc x' a b c) T->(∃u,w1.cell? ⟨g,o+2,none⟩=some u)/\(∀i,w1.frozen? ⟨g,i,none⟩=false)/\∀v,(∃u,(w1.setCell ⟨g,o+2,none⟩ v).cell? ⟨g,o+4,none⟩=some u)/\(∀i,(w1.setCell ⟨g,o+2,none⟩ v).frozen? ⟨g,i,none⟩=false)):=λ hb=>⟨⟨_,hL.c2 hb⟩,hb.fz,λ v=>⟨⟨_,hL.c4 (hL.s2 v hb)⟩,(hL.s2 v hb).fz⟩⟩
 have n0:((t.k:Int) == 0)=true:=by rw [hk]; decide
 have Gb:Hid (w0=w.alloc (.cells #[.int .i64 (t.k:Nat),.int .i64 (t.of:Nat),.int .i64 (t.ai:Nat),.int .i64 (t.to:Nat),.int .i64 t.n,.string (bZ (fK t.k t.t))] 108)):=hw0
 clear hw0 pg K0 h0 h hk hL hG fL eg ex ht hmk rX hbd
 unfold gD at *
 go_enter Tryz.func53,Tryz.ntmps53
 go_wp2_with fail
 rw [<-Gb.out]
 refine BG.out.mono ?_
 rintro res w1 ⟨b,A',M',D',x',rfl,q1,q2,q3,qx,q4,q5,q6,q7,q8,q9,UQ⟩
 have FR:=aa (wo.out w1 b A' M' D' x' q1 q2 q3 qx q4 q5 q6 q7 q8 q9 UQ)
 obtain ⟨⟨u2,c2⟩,fz,cc⟩:=UP.out q5
 obtain ⟨⟨u4,c4⟩,fz4⟩:=cc (.pointer (some ⟨b,0,none⟩))
 clear q1 q2 q3 qx q4 q5 q6 q7 q8 q9 UQ cc
 unfold nG
 go_wp2
 go_end0
 exact FR.out
theorem Lm {X:Type} {g:Nat} {T:TypeId} {o:Nat} {gc:X->Value->Value->Value->Array Value} {fb fc:Value} {S:World->(Nat->Prop)->X->Prop} {bk:X->Bool} {bg cl:X->List Fm->Fm->Nat->X->Prop} {kJ:X->List Fm->Fm->Nat->Prop} {pO:X->List Fm->Fm->(Nat->Nat)->Prop} (hL:wz T o fb fc gc) (hG:Kn g T gc fb fc S bk bg cl kJ pO)
 {w:World} {gs:Gs} {x:X} {A:Nat->Nat} {C M D:Nat->Prop} {t:Tok} (h:GI g T gc S w gs x A C M D) (hk:t.k=3) (ht:f_ gs.sh t) (hmk:lg gs (bk x)) (rX:∀b,kJ x gs.st (aM gs t false) b) (Ln:∀(A':Nat->Nat) x1,w.heap.size<=A' t.ai->(∀k,k<gs.bd->A' k=A k)->bg x gs.st (aM gs t false) (A' t.ai) x1->pO x1 gs.st (Fm.ends (aM gs t (bk x)) t.to) A') :
 Calls Tryz.prog 53 #[.pointer (some ⟨g,o,none⟩),gD t] w (Li g T gc S bk bg cl x gs t A C M D w):=by
 obtain ⟨w0,hw0⟩:∃w0,w0=w.alloc (.cells (gP t) 108):=⟨_,rfl⟩
 have pg:ay w0 w.heap.size (gP t) 108:=by rw [hw0]; exact ay.new w _ _
 have K0:ak w w0.drew:=by rw [hw0]; exact ((Fr.refl _ w).alloc _).drew
 have h0:=h.keeps hG K0
 have fL:=qf h.ok ht hmk
 have k3:=ht.k3 hk
 have hbd:gs.bd<=t.ai:=k3.2.2.2.2
 have Oq:gs.st.length<=8:=h.ok.len
 have vM:gs.ix<=4000000:=by have:=h.ok.ix; have:=h.ok.bd; omega
 have eg:aR gs t (bk x)=dQ { gs with nm:=[],bd:=t.ai+1 } (aM gs t (bk x)) gs.st t.to:=by unfold aR; rw [if_neg (by omega),if_neg (by omega),if_neg (by omega)]
 have ex:∀A x',gX bk bg cl x gs t A w.heap.size x'=∃x1,w.heap.size<=A t.ai/\bg x gs.st (aM gs t false) (A t.ai) x1/\cl x1 gs.st (Fm.ends (aM gs t (bk x)) t.to) (A t.ai) x':=λ A x'=>by unfold gX; rw [if_neg (by omega),if_neg (by omega),if_neg (by omega)]
 have BG:=aa (Bh hL hG h0.s h0.b h0.m h0.ok ht (Or.inr hk) h0.c h0.dj h0.g rX)
 have htb:∀k,D k\/M k\/k=g->k≠w.heap.size:=λ k hk e=>by
  rcases hk with y | y | y
  ·have:=hG.lt h.s y; omega
  ·have:=(h.m.lt k y).1; omega
  have:=h.b.lt; omega
 have MID:Hid (∀(w1:World) (b:Nat) (A':Nat->Nat) (M' D':Nat->Prop) (x1:X),w0.drew.heap.size<=b->A' (aM gs t (bk x)).d.ai=b->(∀k,k<(aM gs t (bk x)).d.ai->A' k=A k)->bg x gs.st { aM gs t (bk x) with kp:=false } b x1->S w1 D' x1->ay w1 g (gc x1 (dD A gs.st) (.string (bZ [])) (.int .i64 (gs.ix:Nat))) T->gE w1 A' C ((aM gs t (bk x)).d.ai+1) (aM gs t (bk x)::gs.st) [] M' ->
  (∀k,M' k->M k\/w0.drew.heap.size<=k)->(∀k,D' k->D k\/w0.drew.heap.size<=k)->(∀k,D' k->¬M' k)->Fr (λ k=>D k\/M k\/k=g) w0.drew w1 ->
  w1.cell? ⟨w.heap.size,3,none⟩=some (.int .i64 (t.to:Nat)) /\
  Calls Tryz.prog 73 #[.pointer (some ⟨g,o,none⟩),.pointer (some ⟨b,0,none⟩),.int .i64 (t.to:Nat)] w1 (Li g T gc S bk bg cl x gs t A C M D w)):=λ w1 b A' M' D' x1 hb a1 a2 Qn s1 b1 m1 mm dd dm ff=>by
  obtain ⟨i1,i2,i3⟩:=OB h0 mm dd dm ff
  have TG:A' t.ai=b:=a1
  refine ⟨(ay.fr (w:=w0.drew) pg ff (λ e=>htb _ e rfl)).cell 3,?_⟩
  have CL:=Bf hL hG s1 b1 m1 Oq i1 i2 i3 vM t.to (Ln A' x1 (by rw [TG]; exact Nat.le_trans K0.size hb) (λ k hk=>a2 k (Nat.lt_of_lt_of_le hk hbd)) (by rw [TG]; exact Qn))
  rw [show A' (aM gs t (bk x)).d.ai=b from a1] at CL
  refine CL.mono ?_
  rintro res w' ⟨q1,D2,x',qx,q2,q3,q4,q5,q6⟩
  have i1':∀k,C k->k<w'.heap.size:=λ k hk=>Nat.lt_of_lt_of_le (i1 k hk) q6.size
  have i2':∀k,D2 k->¬M' k/\¬C k/\k≠g:=λ k hk=>by
   rcases q5 k hk with e | e
   ·exact i2 k e
   refine ⟨λ y=>?_,λ y=>?_,λ y=>?_⟩
   ·have:=(m1.lt k y).1; omega
   ·have:=i1 k y; omega
   have:=b1.lt; omega
  have ac4:dD A' gs.st=dD A gs.st:=mC (bd:=gs.bd) (λ k hk=>a2 k (Nat.lt_of_lt_of_le hk hbd)) h.m
  obtain ⟨C',M2,c1,c2,c3⟩:=gi_close (gs:=aR gs t (bk x)) (f:=aM gs t (bk x)) (nm:=[]) q2 q3 q4 Oq vM (by simp [aM]) (λ hkp p q e=>hmk hkp p q e) rfl h.p i1' i2' i3 (by rw [eg]; rfl) fL
  refine ⟨q1,A',C',M2,D2,x',by rw [ex,TG]; exact ⟨x1,Nat.le_trans K0.size hb,Qn,qx⟩,c1,λ k hk=>a2 k (Nat.lt_of_lt_of_le hk hbd),λ k hk=>?_,?_⟩
  ·have mk:M' k->D k\/M k\/C k\/w.heap.size<=k:=λ y=>by
    rcases mm k y with z | z
    ·exact Or.inr (Or.inl z)
    exact Or.inr (Or.inr (Or.inr (Nat.le_trans K0.size z)))
   rcases hk with e | e | e
   ·rcases q5 k e with y | y
    ·rcases dd k y with z | z
     ·exact Or.inl z
     exact Or.inr (Or.inr (Or.inr (Nat.le_trans K0.size z)))
    exact Or.inr (Or.inr (Or.inr (Nat.le_trans K0.size (Nat.le_trans ff.size y))))
   ·exact mk (c3 k e)
   rcases c2 k e with y | y
   ·exact Or.inr (Or.inr (Or.inl y))
   exact mk y
  refine ⟨q6.os.trans (ff.os.trans K0.os),q6.tape.trans (ff.tape.trans K0.tape),q6.output.trans (ff.output.trans K0.output),Nat.le_trans K0.size (Nat.le_trans ff.size q6.size),λ k hk hn=>?_⟩
  have Bl:k<w0.drew.heap.size:=Nat.lt_of_lt_of_le hk K0.size
  rw [q6.block k (Nat.lt_of_lt_of_le Bl ff.size) (λ e=>?_),ff.block k Bl hn,K0.block k hk id]
  rcases e with y | y | y
  ·rcases dd k y with z | z
   ·exact hn (Or.inl z)
   omega
  ·rcases mm k y with z | z
   ·exact hn (Or.inr (Or.inl z))
   omega
  exact hn (Or.inr (Or.inr y))
 have tc3:w0.cell? ⟨w.heap.size,3,none⟩=some (.int .i64 (t.to:Nat)):=pg.cell 3
 have n0:((t.k:Int) == 0)=false:=by rw [hk]; decide
 have n1:((t.k:Int) == 1)=false:=by rw [hk]; decide
 have n2:((t.k:Int) == 2)=false:=by rw [hk]; decide
 have n3:((t.k:Int) == 3)=true:=by rw [hk]; decide
 have Gb:Hid (w0=w.alloc (.cells #[.int .i64 (t.k:Nat),.int .i64 (t.of:Nat),.int .i64 (t.ai:Nat),.int .i64 (t.to:Nat),.int .i64 t.n,.string (bZ (fK t.k t.t))] 108)):=hw0
 have tcs:∀i,i<6->w0.cell? ⟨w.heap.size,i,none⟩=(gP t)[i]?:=λ i _=>pg.cell i
 have Yo:w0.cell? ⟨w.heap.size,0,none⟩=some (.int .i64 (t.k:Nat)):=pg.cell 0
 have ZB:w0.cell? ⟨w.heap.size,1,none⟩=some (.int .i64 (t.of:Nat)):=pg.cell 1
 have ZC:w0.cell? ⟨w.heap.size,2,none⟩=some (.int .i64 (t.ai:Nat)):=pg.cell 2
 have ZD:w0.cell? ⟨w.heap.size,4,none⟩=some (.int .i64 t.n):=pg.cell 4
 have Qm:w0.cell? ⟨w.heap.size,5,none⟩=some (.string (bZ (fK t.k t.t))):=pg.cell 5
 clear hw0 pg K0 h0 h hk hL hG fL eg ex ht hmk rX Ln hbd htb Oq vM k3 tcs
 unfold gD at *
 go_enter Tryz.func53,Tryz.ntmps53
 go_wp2
 rw [<-Gb.out]
 go_region_with (first
  | (go_at_call 72; refine BG.out.mono ?_; rintro res w1 ⟨b,A',M',D',x1,rfl,q1,q2,q3,qx,q4,q5,q6,q7,q8,q9,UQ⟩; obtain ⟨tk3,cl3⟩:=MID.out w1 b A' M' D' x1 q1 q2 q3 qx q4 q5 q6 q7 q8 q9 UQ; have CC:=aa cl3; clear q1 q2 q3 qx q4 q5 q6 q7 q8 q9 UQ cl3; unfold nG)
  | (go_at_call 73; refine CC.out.mono ?_; intro res w2 hr; have FR:=aa hr; obtain ⟨rfl,_⟩:=hr))
 all_goals
  go_wp2
  go_end0
  exact FR.out
theorem Qp {X:Type} {g:Nat} {T:TypeId} {o:Nat} {gc:X->Value->Value->Value->Array Value} {fb fc:Value} {S:World->(Nat->Prop)->X->Prop} {bk:X->Bool} {bg cl:X->List Fm->Fm->Nat->X->Prop} {kJ:X->List Fm->Fm->Nat->Prop} {pO:X->List Fm->Fm->(Nat->Nat)->Prop} (hL:wz T o fb fc gc) (hG:Kn g T gc fb fc S bk bg cl kJ pO)
 {w:World} {gs:Gs} {x:X} {A:Nat->Nat} {C M D:Nat->Prop} {t:Tok} (h:GI g T gc S w gs x A C M D) (ht:f_ gs.sh t) (hmk:lg gs (bk x)) (rX:t.k=0\/t.k=3->∀b,kJ x gs.st (aM gs t false) b) (ZK:t.k=1->∀f r,gs.st=f::r->pO x r (Fm.ends f t.to) A) (Ln:t.k=3->∀(A':Nat->Nat) x1,w.heap.size<=A' t.ai->(∀k,k<gs.bd->A' k=A k)->bg x gs.st (aM gs t false) (A' t.ai) x1->pO x1 gs.st (Fm.ends (aM gs t (bk x)) t.to) A') :
 Calls Tryz.prog 53 #[.pointer (some ⟨g,o,none⟩),gD t] w (Li g T gc S bk bg cl x gs t A C M D w):=by
 have h3:=ht.k
 by_cases k0:t.k=0
 ·exact Ll hL hG h k0 ht hmk (rX (Or.inl k0))
 by_cases k1:t.k=1
 ·exact Lp hL hG h k1 ht hmk (ZK k1)
 by_cases k2:t.k=2
 ·exact Lq hL hG h k2
 exact Lm hL hG h (by omega) ht hmk (rX (Or.inr (by omega))) (Ln (by omega))
theorem GI.sm {X:Type} {g:Nat} {T:TypeId} {gc:X->Value->Value->Value->Array Value} {fb fc:Value} {S:World->(Nat->Prop)->X->Prop} {bk:X->Bool} {bg cl:X->List Fm->Fm->Nat->X->Prop} {kJ:X->List Fm->Fm->Nat->Prop} {pO:X->List Fm->Fm->(Nat->Nat)->Prop} (hG:Kn g T gc fb fc S bk bg cl kJ pO) {w w':World} {gs:Gs} {x:X} {A:Nat->Nat} {C M D:Nat->Prop} (h:GI g T gc S w gs x A C M D) (f:Sm (λ k=>D k\/M k\/C k\/k=g) w w') (hz:w.heap.size<=w'.heap.size):GI g T gc S w' gs x A C M D :=
 ⟨hG.keep h.s (λ k hk=>f k (Or.inl hk)) hz,(f g (Or.inr (Or.inr (Or.inr rfl)))).trans h.b,h.m.keep (λ k hk=>f k (Or.inr (Or.inr (Or.inl hk)))) (λ k hk=>f k (Or.inr (Or.inl hk))),h.ok,h.p,λ k hk=>Nat.lt_of_lt_of_le (h.c k hk) hz,h.dj,h.g,λ h0 t ht=>⟨(h.l h0 t ht).1.imp (λ_ y=>⟨y.1,y.2.keep (λ k hk=>f k (Or.inr (Or.inr (Or.inl hk))))⟩),(h.l h0 t ht).2⟩⟩
theorem CZ {g:Gs} {t:Tok} {kp:Bool} (hok:Qk g) (ht:f_ g.sh t) (h:∀v,g.last=some v->fr v<g.bd):∀v,(aR g t kp).last=some v->fr v<(aR g t kp).bd:=by
 have hbd:g.sh.bd=g.bd:=rfl
 unfold aR
 by_cases h0:t.k=0
 ·rw [if_pos h0]
  intro v hv
  have:=h v hv
  have k0:=(ht.k0 h0).2.2.2.2
  show fr v<t.ai+1
  omega
 rw [if_neg h0]
 by_cases h1:t.k=1
 ·rw [if_pos h1]
  cases hs:g.st with
  | nil=>exact h
  | cons f r =>
   intro v hv
   have e:f.tv t.to=v:=Option.some.inj hv
   have hw:=hok.ws
   rw [hs] at hw
   rw [<-e]
   exact hw.2.2.1
 rw [if_neg h1]
 by_cases h2:t.k=2
 ·rw [if_pos h2]; exact h
 rw [if_neg h2]
 intro v hv
 have e:(aM g t kp).tv t.to=v:=Option.some.inj hv
 rw [<-e]
 show t.ai<t.ai+1
 omega
def tS (gb lb:Nat) (w:World) (D:Nat->Prop) (ts:List Tok):Prop:=o_ ⟨[],0⟩ ts/\∃x A C M D0,GI gb 119 (ZL lb) (rS lb) w (dB bK ts) x A C M D0/\nD (dB bK ts).st (dB bK ts).ix/\.pointer x=iw A (dB bK ts).last/\(∀v,(dB bK ts).last=some v->fr v<(dB bK ts).bd)/\(∀k,D k↔D0 k\/M k\/C k\/k=gb)
def tV (ts:List Tok) (t:Tok):Prop:=f_ (bQ ⟨[],0⟩ ts) t
theorem Ge:∀{b a:List Tok},o_ (bQ ⟨[],0⟩ a) b->VL tV a b
 | [],_,_=>trivial
 | t::b,a,h=>⟨h.1,Ge (by rw [nJ]; exact h.2)⟩
theorem Gf (g:Gs) (t:Tok):dB g [t]=aR g t true:=rfl
theorem Gg (gb lb:Nat):fG (.func (.func 53) #[.pointer (some ⟨gb,0,none⟩)] #[]) (tS gb lb) tV where
 lt:=λ{w D ts k} h hk=>by
  obtain ⟨_,x,A,C,M,D0,h1,_,_,_,h5⟩:=h
  rcases (h5 k).1 hk with e | e | e | e
  ·exact (Qq lb gb).lt h1.s e
  ·exact (h1.m.lt k e).1
  ·exact h1.c k e
  rw [e]; exact h1.b.lt
 keep:=λ{w w' D ts} h s hz=>by
  obtain ⟨h0,x,A,C,M,D0,h1,h2,h3,h4,h5⟩:=h
  exact ⟨h0,x,A,C,M,D0,h1.sm (Qq lb gb) (λ k hk=>s k ((h5 k).2 hk)) hz,h2,h3,h4,h5⟩
 call:=⟨_,_,_,rfl,λ_ _=>Tryz.call53 _ _,λ w D ts t h hV=>by
  obtain ⟨h0,x,A,C,M,D0,h1,h2,h3,h4,h5⟩:=h
  have hsh:(dB bK ts).sh=bQ ⟨[],0⟩ ts:=lu (g:=bK) h0
  have ht:f_ (dB bK ts).sh t:=by rw [hsh]; exact hV
  have e1:dB bK (ts++[t])=aR (dB bK ts) t true:=by rw [kO,Gf]
  refine (Qp (UR lb) (Qq lb gb) h1 ht (h2.may true) (λ_ _=>trivial) (λ_ _ _ _=>trivial) (λ_ _ _ _ _ _=>trivial)).mono ?_
  rintro res w' ⟨rfl,A',C',M',D',x',qx,q1,q2,q3,q4⟩
  refine ⟨rfl,λ k=>D' k\/M' k\/C' k\/k=gb,⟨h0.app ⟨hV,trivial⟩,_,A',C',M',D',by rw [e1]; exact q1,by rw [e1]; exact A9 h2,?_,by rw [e1]; exact CZ h1.ok ht h4,λ_=>Iff.rfl⟩,λ k hk=>?_,q4.mono (λ k _ e=>?_)⟩
  ·rw [e1]
   have old:iw A' (dB bK ts).last=iw A (dB bK ts).last:=by
    cases hl:(dB bK ts).last with
    | none=>rfl
    | some v=>show iS A' v=iS A v; unfold iS; rw [q2 v.d.ai (h4 v hl)]
   unfold gX at qx
   unfold aR
   by_cases k0:t.k=0
   ·rw [if_pos k0] at qx
    rw [if_pos k0,qx]; rw [h3,<-old]
   rw [if_neg k0] at qx ⊢
   by_cases k1:t.k=1
   ·rw [if_pos k1] at qx ⊢
    cases hs:(dB bK ts).st with
    | nil=>rw [hs] at qx; rw [qx,h3,<-old]
    | cons f r=>rw [hs] at qx; rw [qx]; rfl
   rw [if_neg k1] at qx ⊢
   by_cases k2:t.k=2
   ·rw [if_pos k2] at qx ⊢
    rw [qx,h3,<-old]
   rw [if_neg k2] at qx ⊢
   obtain ⟨x1,_,_,e⟩:=qx
   rw [e]
   rfl
  ·rcases hk with e | e | e | e
   ·rcases q3 k (Or.inl e) with y | y | y | y
    ·exact Or.inl ((h5 k).2 (Or.inl y))
    ·exact Or.inl ((h5 k).2 (Or.inr (Or.inl y)))
    ·exact Or.inl ((h5 k).2 (Or.inr (Or.inr (Or.inl y))))
    exact Or.inr y
   ·rcases q3 k (Or.inr (Or.inl e)) with y | y | y | y
    ·exact Or.inl ((h5 k).2 (Or.inl y))
    ·exact Or.inl ((h5 k).2 (Or.inr (Or.inl y)))
    ·exact Or.inl ((h5 k).2 (Or.inr (Or.inr (Or.inl y))))
    exact Or.inr y
   ·rcases q3 k (Or.inr (Or.inr e)) with y | y | y | y
    ·exact Or.inl ((h5 k).2 (Or.inl y))
    ·exact Or.inl ((h5 k).2 (Or.inr (Or.inl y)))
    ·exact Or.inl ((h5 k).2 (Or.inr (Or.inr (Or.inl y))))
    exact Or.inr y
   exact Or.inl ((h5 k).2 (Or.inr (Or.inr (Or.inr e))))
  rcases e with y | y | y
  ·exact (h5 k).2 (Or.inl y)
  ·exact (h5 k).2 (Or.inr (Or.inl y))
  exact (h5 k).2 (Or.inr (Or.inr (Or.inr y)))⟩
def Yp (s:ByteArray) (w:World) (r:Ending) (w':World):Prop :=
 ak w w'/\((cw (bs s)≠0/\r=.returned (.tuple #[.pointer none,.int .i64 (cw (bs s):Nat),.int .i64 (nK (bs s):Nat)])) \/
  (cw (bs s)=0/\∃A D t ix,ja (bs s)=some t/\r=.returned (.tuple #[iS A t,.int .i64 0,.int .i64 0])/\ix<=4000000/\PT w' A D 10 (.pointer none) ix t/\FB 4000001 10 t/\t.d.path=[36]/\∀k,D k->k<w'.heap.size))
theorem Qr {l:List UInt8} (hl:l.length<=4000000) (he:(aB az l).e=0):o_ (bQ ⟨[],0⟩ (aB az l).ts) (jn (aB az l).z):=by
 have R:=lf l d_.1 d_.2 (by simp [az]) (by simp [az]; omega)
 obtain ⟨r1,r2,r3,r4⟩:=R.ok he
 have bN:(aB az l).z.at'=l.length:=by simpa [az] using r3
 unfold jn
 split
 ·rename_i h9; exact o_.one (zj r1 r4 (Or.inr h9) (by omega))
 trivial
theorem Lr {w:World} {gb lb:Nat} (hne:gb≠lb) (h1:ay w lb #[.pointer none] 71) (h2:ay w gb #[TH,TI lb,.pointer none,.string ⟨#[]⟩,.int .i64 0] 119):tS gb lb w (λ k=>k=lb\/k=gb) []:=by
 refine ⟨trivial,none,λ_=>0,λ_=>False,λ_=>False,λ k=>k=lb,⟨⟨λ_=>Iff.rfl,h1⟩,h2,λ_ x=>x,FY,trivial,λ_ x=>x.elim,λ k hk=>⟨id,id,λ e=>hne (e.symm.trans hk)⟩,⟨id,id⟩,λ_ t ht=>by cases ht⟩,trivial,rfl,λ v hv=>(by cases hv),λ k=>?_⟩
 constructor
 ·rintro (e | e)
  ·exact Or.inl e
  exact Or.inr (Or.inr (Or.inr e))
 rintro (e | e | e | e)
 ·exact Or.inl e
 ·exact e.elim
 ·exact e.elim
 exact Or.inr e
theorem Qs {w:World} (s:ByteArray) (hs:s.size<=4000000):Calls Tryz.prog 34 #[.string s] w (Yp s w):=by
 have hlen:(bs s).length=s.size:=an s
 obtain ⟨rb,hrb⟩:∃rb,rb=w.heap.size:=⟨_,rfl⟩
 obtain ⟨W3,TJ⟩:∃W3,W3=((w.alloc (.cells #[.int .i64 0,.int .i64 0,.slice none 0 0,.int .i64 0,.int .i64 0,.int .i64 0,.int .i64 0,.int .i64 0,.string ⟨#[]⟩,.pointer none,.slice none 0 0,.string ⟨#[]⟩,.int .i64 0,.int .i64 0,.nilFunc] 115)).alloc (.cells #[.pointer none] 71)).alloc (.cells #[.func (.func 50) #[] #[],.func (.func 51) #[] #[.pointer (some ⟨rb+1,0,none⟩)],.pointer none,.string ⟨#[]⟩,.int .i64 0] 119):=⟨_,rfl⟩
 have K3:ak w W3:=by rw [TJ]; exact (((Fr.refl _ w).alloc _).alloc _).alloc _
 have BR:ay W3 rb (vL 0 az (.slice none 0 0) (.pointer none) (.slice none 0 0) .nilFunc) 115:=by
  rw [TJ,hrb]
  exact (ay.alloc (ay.alloc (ay.new w _ _) _) _)
 have BL:ay W3 (rb+1) #[.pointer none] 71:=by
  rw [TJ,hrb]
  have:=ay.alloc (ay.new (w.alloc (.cells #[.int .i64 0,.int .i64 0,.slice none 0 0,.int .i64 0,.int .i64 0,.int .i64 0,.int .i64 0,.int .i64 0,.string ⟨#[]⟩,.pointer none,.slice none 0 0,.string ⟨#[]⟩,.int .i64 0,.int .i64 0,.nilFunc] 115)) #[.pointer none] 71) (.cells #[.func (.func 50) #[] #[],.func (.func 51) #[] #[.pointer (some ⟨w.heap.size+1,0,none⟩)],.pointer none,.string ⟨#[]⟩,.int .i64 0] 119)
  simpa using this
 have BG:ay W3 (rb+1+1) #[TH,TI (rb+1),.pointer none,.string ⟨#[]⟩,.int .i64 0] 119:=by
  rw [TJ,hrb]
  have:=ay.new ((w.alloc (.cells #[.int .i64 0,.int .i64 0,.slice none 0 0,.int .i64 0,.int .i64 0,.int .i64 0,.int .i64 0,.int .i64 0,.string ⟨#[]⟩,.pointer none,.slice none 0 0,.string ⟨#[]⟩,.int .i64 0,.int .i64 0,.nilFunc] 115)).alloc (.cells #[.pointer none] 71)) #[TH,TI (w.heap.size+1),.pointer none,.string ⟨#[]⟩,.int .i64 0] 119
  simp only [World.size_alloc] at this
  exact this
 have S0:tS (rb+1+1) (rb+1) W3 (λ k=>k=rb+1\/k=rb+1+1) []:=Lr (by omega) BL BG
 have M0:RM (tS (rb+1+1) (rb+1)) .nilFunc rb az.st az [] (λ k=>k=rb\/k=rb+1\/k=rb+1+1) W3 :=
  ⟨.slice none 0 0,.pointer none,.slice none 0 0,_,⟨BR,World.ownsRow_nil _ _ _ _,World.ownsRow_nil _ _ _ _,Or.inl rfl,λ_=>rfl⟩,S0,λ k hk=>⟨by omega,(λ e=>by cases e),(λ e=>by cases e)⟩,λ k=>⟨λ h=>by
   rcases h with e | e | e
   ·exact Or.inl e
   ·exact Or.inr (Or.inr (Or.inr (Or.inl e)))
   ·exact Or.inr (Or.inr (Or.inr (Or.inr e))),λ h=>by
   rcases h with e | e | e | e | e
   ·exact Or.inl e
   ·cases e
   ·cases e
   ·exact Or.inr (Or.inl e)
   exact Or.inr (Or.inr e)⟩⟩
 have R:=lf (bs s) d_.1 d_.2 (by simp [az]) (by simp [az]; omega)
 have CR:=aa (Qg (Gg (rb+1+1) (rb+1)) M0 d_.1 d_.2 (by simp [az]) s (by simp [az]; omega) (by simp [az]; omega) (Ge (a:=[]) R.tok))
 have EK:Hid (∀E' w',Ev (λ k=>k=rb\/k=rb+1\/k=rb+1+1) W3 E' w'->ak w w'):=λ E' w' h=>⟨h.f.os.trans K3.os,h.f.tape.trans K3.tape,h.f.output.trans K3.output,Nat.le_trans K3.size h.f.size,λ k hk _=>(h.f.block k (Nat.lt_of_lt_of_le hk K3.size) (λ e=>by omega)).trans (K3.block k hk id)⟩
 have HR:=aa R
 have Zy:=aa TJ
 have ZM:=aa hrb
 clear S0 M0 BR BL BG K3 R TJ hrb
 go_enter Tryz.func34,Tryz.ntmps34
 go_wp2_with fail
 rw [<-ZM.out,<-Zy.out]
 refine CR.out.mono ?_
 rintro res w1 ⟨rfl,E1,vK,Oo⟩
 have K_:=aa vK
 have Km:=aa Oo
 clear vK Oo CR
 by_cases he:(aB az (bs s)).e=0
 ·have bN:(aB az (bs s)).z.at'=(bs s).length:=by
   obtain ⟨_,_,r3,_⟩:=HR.out.ok he
   simpa [az] using r3
  have CE:=aa (UE (Gg (rb+1+1) (rb+1)) K_.out (HR.out.ok he).1 (λ_=>Ge (a:=[]++(aB az (bs s)).ts) (by simpa using Qr (by omega) he)))
  have ZN:=aa he
  have OC:=aa bN
  rw [he]
  clear he bN
  go_wp2_with fail
  refine CE.out.mono ?_
  rintro res w2 ⟨rfl,E2,rW,wq⟩
  have KW:=aa (EK.out _ _ (Km.out.trans wq))
  clear wq
  by_cases hw:cq (aB az (bs s)).z=true
  ·have h0:cw (bs s)=0:=by unfold cw; rw [if_neg (by simp [ZN.out]),if_pos hw]
   obtain ⟨t1,t2,t,t3⟩:=Fl (by omega) h0
   have hts:[]++(aB az (bs s)).ts++(if cq (aB az (bs s)).z=true then jn (aB az (bs s)).z else [])=jC (bs s):=by rw [if_pos hw]; rfl
   rw [hts] at rW
   obtain ⟨_,_,_,D2,_,yU,_,_⟩:=rW.ex
   obtain ⟨_,x,A,C,M,D0,q1,q2,q3,q4,q5⟩:=yU
   have hl:(dB bK (jC (bs s))).last=some t:=t3
   obtain ⟨⟨ix,vM,rO⟩,wD,hpa⟩:=q1.l t2 t hl
   rw [hl] at q3
   have hx:.pointer x=iS A t:=q3
   have c0:w2.cell? ⟨rb+1,0,none⟩=some (.pointer x):=q1.s.2.cell 0
   have jS:Hid (Yp s w (.returned (.tuple #[.pointer x,.int .i64 0,.int .i64 0])) w2):=by
    refine ⟨KW.out,Or.inr ⟨h0,A,C,t,ix,t3,by rw [hx],vM,rO,wD.up (by have:=q1.ok.bd; omega),hpa,q1.c⟩⟩
   rw [if_pos hw,if_pos hw]
   clear hw h0 t1 t2 t3 hts rW q1 q2 q3 q4 q5 hl rO wD hpa hx
   go_wp2
   go_ret3
   exact jS.out
  have jS:Hid (Yp s w (.returned (.tuple #[.pointer none,.int .i64 2,.int .i64 ((aB az (bs s)).z.at':Nat)])) w2):=by
   have e1:cw (bs s)=2:=by unfold cw; rw [if_neg (by simp [ZN.out]),if_neg hw]
   have e2:nK (bs s)=(aB az (bs s)).z.at':=by unfold nK; rw [if_neg (by simp [ZN.out]),if_neg hw,OC.out]
   exact ⟨KW.out,Or.inl ⟨by omega,by rw [e1,e2]; rfl⟩⟩
  rw [if_neg hw,if_neg hw]
  clear hw rW
  generalize (aB az (bs s)).z.at'=av at *
  go_wp2
  go_ret3
  exact jS.out
 have jS:Hid (Yp s w (.returned (.tuple #[.pointer none,.int .i64 ((aB az (bs s)).e:Nat),.int .i64 ((aB az (bs s)).z.at':Nat)])) w1):=by
  have e1:cw (bs s)=(aB az (bs s)).e:=by unfold cw; rw [if_pos he]
  have e2:nK (bs s)=(aB az (bs s)).z.at':=by unfold nK; rw [if_pos he]
  exact ⟨EK.out _ _ Km.out,Or.inl ⟨by rw [e1]; exact he,by rw [e1,e2]⟩⟩
 have hd:(((aB az (bs s)).e:Int) != 0)=true:=by rw [bne_iff_ne]; omega
 rw [if_neg he]
 clear he
 generalize (aB az (bs s)).e=ev at *
 generalize (aB az (bs s)).z.at'=av at *
 go_wp2
 go_ret3
 exact jS.out
end Go.Proofs.YtcbadebjpogmlaaGreatDoor
