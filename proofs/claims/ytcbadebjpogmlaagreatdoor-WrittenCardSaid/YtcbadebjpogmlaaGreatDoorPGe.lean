import Derived.Test.YtcbadebjpogmlaaGreatDoorPGq
import Derived.Test.YtcbadebjpogmlaaGreatDoorPVg
namespace Go.Proofs.YtcbadebjpogmlaaGreatDoor
open Go.RowKit Tr
set_option linter.unusedSimpArgs false in
set_option maxHeartbeats 4000000 in
set_option maxRecDepth 100000 in
theorem g_begin {X:Type} {g:Nat} {T:TypeId} {o:Nat} {gc:X→Value→Value→Value→Array Value} {fb fc:Value} {S:World→(Nat→Prop)→X→Prop} {bk:X→Bool} {bg cl:X→List Fm→Fm→Nat→X→Prop} {OkB:X→List Fm→Fm→Nat→Prop} {OkC:X→List Fm→Fm→(Nat→Nat)→Prop} (hL:GLay T o fb fc gc) (hG:GCb g T gc fb fc S bk bg cl OkB OkC)
 {w:World} {D:Nat→Prop} {x:X} {A:Nat→Nat} {C:Nat→Prop} {gs:Gs} {M:Nat→Prop} {t:Tok} (hS:S w D x) (hB:Blk w g (gc x (parP A gs.st) (.string (bsb gs.nm)) (.int .i64 (gs.ix:Nat))) T) (hM:FrM w A C gs.bd gs.st [] M) (hok:GOk gs) (ht:TokOk gs.sh t) (hk:t.k=0∨t.k=3) (hC:∀k,C k→k<w.heap.size) (hdj:∀k,D k→¬M k∧¬C k∧k≠g) (hg:¬M g∧¬C g)
 (hOk:∀b,OkB x gs.st (gBegin gs t false) b) :
 Calls Tryz.prog 72 #[.pointer (some ⟨g,o,none⟩),tagg t] w (BgP g T gc S A C (gBegin gs t (bk x)) gs.st M D bg x (.int .i64 (gs.ix:Nat)) w):=by
 obtain ⟨N,first,cap,hfb,hE,hcall⟩:=hG.begins
 obtain ⟨po,hpo⟩:=parP_ptr A gs.st
 have hbd:gs.bd≤t.frm:=by
  rcases hk with y | y
  ·exact (ht.k0 y).2.2.2.2
  exact (ht.k3 y).2.2.2.2
 have hgl:g<w.heap.size:=hB.lt
 obtain ⟨w0,hw0⟩:∃w0,w0=w.alloc (.cells #[.int .i64 (t.k:Nat),.int .i64 (t.of:Nat),.int .i64 (t.frm:Nat),.int .i64 (t.to:Nat),.int .i64 t.n,.string (bsb (tkx t.k t.t))] 108):=⟨_,rfl⟩
 have bt0:Blk w0 w.heap.size #[.int .i64 (t.k:Nat),.int .i64 (t.of:Nat),.int .i64 (t.frm:Nat),.int .i64 (t.to:Nat),.int .i64 t.n,.string (bsb (tkx t.k t.t))] 108:=by rw [hw0]; exact Blk.new w _ _
 have K0:Keeps w w0:=by rw [hw0]; exact (Fr.refl _ w).alloc _
 have B0:=hB.fr K0 id
 have tc1:=bt0.cell 1
 have tc2:=bt0.cell 2
 have tc4:=bt0.cell 4
 have tc5:=bt0.cell 5
 simp at tc1 tc2 tc4 tc5
 have gc2:=hL.c2 B0
 have gc3:=hL.c3 B0
 have gc4:=hL.c4 B0
 rw [hpo] at gc2
 -- the value has a block of its own
 obtain ⟨W1,hW1⟩:∃W1,W1=(w0.alloc (.cells #[.int .i64 (t.of:Nat),.int .i64 (t.frm:Nat),.int .i64 0,.int .i64 t.n,.string (bsb (tkx t.k t.t)),.pointer po,.int .i64 (gs.ix:Nat),.string (bsb gs.nm),.slice none 0 0] 130)).drew:=⟨_,rfl⟩
 obtain ⟨b,hb⟩:∃b,b=w0.heap.size:=⟨_,rfl⟩
 have hwb:w.heap.size<b:=by rw [hb,hw0]; simp
 have KW1:Keeps w0 W1:=by rw [hW1]; exact ((Fr.refl _ w0).alloc _).drew
 have K1:Keeps w W1:=K0.trans KW1
 have BV:Blk W1 b (pcl (gDat gs t) (parP A gs.st) gs.ix (.slice none 0 0)) 130:=by
  rw [begin_cells ht hk,hpo,hW1,hb]
  exact Blk.new w0 _ _
 have hbW1:b<W1.heap.size:=BV.lt
 have B1:=hB.fr K1 id
 have FM1:FrM W1 (updA A t.frm b) C (t.frm+1) (gBegin gs t false::gs.st) [] (fun k=>k=b∨M k):=hM.new hC (f:=gBegin gs t false) (by omega) BV K1 hbd rfl rfl (gDat_ok ht hk)
 have eA:updA A t.frm b t.frm=b:=updA_self _ _ _
 have S1:S W1 D x:=hG.keep hS (fun k hk=>K1.block k (hG.lt hS hk) id) K1.size
 have fz1:=B1.fz
 have t3:=hL.c3 B1
 -- its name is gone
 obtain ⟨W2,hW2⟩:∃W2,W2=W1.setCell ⟨g,o+3,none⟩ (.string ⟨#[]⟩):=⟨_,rfl⟩
 have K2:Fr (fun k=>k=g) W1 W2:=by rw [hW2]; exact (Fr.refl (fun k=>k=g) W1).setCell ⟨g,o+3,none⟩ (Or.inl rfl) _
 have B2:Blk W2 g (gc x (parP A gs.st) (.string (bsb [])) (.int .i64 (gs.ix:Nat))) T:=by rw [hW2]; exact hL.s3 _ B1
 have gc0:=hL.c0 B2
 rw [hW2,hfb] at gc0
 have hg1:¬(g=b∨M g)∧¬C g:=⟨fun y=>y.elim (fun e=>by omega) hg.1,hg.2⟩
 have hdj1:∀k,D k→¬(k=b∨M k)∧¬C k∧k≠g:=fun k hk=>⟨fun y=>y.elim (fun e=>by have:=hG.lt hS hk; omega) (hdj k hk).1,(hdj k hk).2⟩
 have hC1:∀k,C k→k<W1.heap.size:=fun k hk=>Nat.lt_of_lt_of_le (hC k hk) K1.size
 have FM2:FrM W2 (updA A t.frm b) C (t.frm+1) (gBegin gs t false::gs.st) [] (fun k=>k=b∨M k):=FM1.fr hC1 K2 (fun k e=>by rw [e]; exact hg1)
 have S2:S W2 D x:=hG.keep S1 (fun k hk=>K2.block k (hG.lt S1 hk) (fun e=>(hdj k hk).2.2 e)) K2.size
 have hC2:∀k,C k→k<W2.heap.size:=fun k hk=>Nat.lt_of_lt_of_le (hC1 k hk) K2.size
 have hl:gs.st.length≤8:=hok.len
 have CC:=hcall S2 B2 FM2 hl hC2 hdj1 hg1 (hOk _)
 rw [show updA A t.frm b (gBegin gs t false).d.frm=b from eA] at CC
 have F2:Fr (fun k=>D k∨M k∨k=g) w W2:=(K1.mono (fun k _ e=>e.elim)).trans (K2.mono (fun k _ e=>Or.inr (Or.inr e)))
 have hbW2:b<W2.heap.size:=Nat.lt_of_lt_of_le hbW1 K2.size
 -- behind the one who was told
 have AFT:Hid (∀(D':Nat→Prop) (x':X) (w3:World),S w3 D' x'→(∀k,D' k→D k∨W2.heap.size≤k)→Fr (fun k=>D k∨k=g) W2 w3 →
  FrM w3 (updA A t.frm b) C (t.frm+1) (gBegin gs t false::gs.st) [] (fun k=>k=b∨M k)∧(∀k,D' k→¬(k=b∨M k))∧(∀k,D' k→D k∨w.heap.size≤k)∧Fr (fun k=>D k∨M k∨k=g) w w3∧(∀k,D' k→k<w3.heap.size)∧(∀k,C k→k<w3.heap.size)):=fun D' x' w3 s3 d3 f3=>by
  refine ⟨FM2.fr hC2 f3 (fun k e=>?_),fun k hk e=>?_,fun k hk=>?_,F2.trans (f3.mono (fun k _ e=>?_)),fun k hk=>hG.lt s3 hk,fun k hk=>Nat.lt_of_lt_of_le (hC2 k hk) f3.size⟩
  ·rcases e with e | e
   ·exact ⟨(hdj1 k e).1,(hdj1 k e).2.1⟩
   rw [e]; exact hg1
  ·rcases d3 k hk with y | y
   ·exact (hdj1 k y).1 e
   have:=(FM2.lt k e).1; omega
  ·rcases d3 k hk with y | y
   ·exact Or.inl y
   exact Or.inr (Nat.le_trans F2.size y)
  rcases e with e | e
  ·exact Or.inl e
  exact Or.inr (Or.inr e)
 have GC2:Hid (∀{w3:World} {x3:X} {nm ix:Value},Blk w3 g (gc x3 (parP A gs.st) nm ix) T→w3.cell? ⟨g,o+2,none⟩=some (.pointer po)):=fun h3=>by rw [← hpo]; exact hL.c2 h3
 have HPO:=hide hpo
 have HA:Hid (updA A t.frm b t.frm=b∧∀k,k<t.frm→updA A t.frm b k=A k):=⟨eA,fun k hk=>updA_ne A (by omega)⟩
 have HPP:Hid (parP (updA A t.frm b) gs.st=parP A gs.st):=parP_upd (fun k hk=>updA_ne A (by omega)) hM
 have HKEEP:Hid (∀{w w':World} {D:Nat→Prop} {x:X},S w D x→Sm D w w'→w.heap.size≤w'.heap.size→S w' D x):=hG.keep
 have HG1:=hide hg1
 have HWS:Hid (∀p q,gs.st=p::q→p.ws.length≤4000000):=fun p q e=>by
  have a1:=hok.ws
  rw [e] at a1
  have a2:=a1.1
  have a3:=hok.ix
  have a4:=hok.bd
  omega
 have HCC:=hide CC
 have HW0:=hide hw0
 have HW1:=hide hW1
 have HW2:=hide hW2
 have HB:=hide hb
 have HFB:=hide hfb
 clear hw0 bt0 K0 B0 hcall hS hB hM hok ht hk hC hdj hg hOk hbd hpo hG hL KW1 K1 BV hbW1 B1 FM1 eA S1 K2 B2 hg1 hdj1 hC1 FM2 S2 hC2 CC F2 hbW2 hb hW1 hW2 hfb
 unfold tagg
 go_enter Tryz.func72,Tryz.ntmps72
 go_wp2
 rw [← HW0.out]
 go_region
 all_goals
  rw [← HW1.out,← HB.out]
  clear tc1 tc2 tc4 tc5 gc2 gc3 gc4
  go_wp2_with fail
  rw [← HW2.out]
  refine HCC.out.mono ?_
  rintro res w3 ⟨rfl,D',x',hbx,hs3,hbl3,hd3,hf3⟩
  have A3:=hide (AFT.out D' x' w3 hs3 hd3 hf3)
  have S3:=hide hs3
  have X3:=hide hbx
  have B3:=hide hbl3
  have e2:=GC2.out hbl3
  clear hs3 hbl3 hd3 hf3 fz1 t3 gc0 hbx
  cases hbk:bk x
  ·go_wp2
   go_ret
   rw [hbk]
   exact ⟨b,updA A t.frm b,fun k=>k=b∨M k,D',x',rfl,by omega,HA.out.1,HA.out.2,X3.out,S3.out,B3.out,A3.out.1,fun k hk=>hk.elim (fun e=>Or.inr (by omega)) Or.inl,A3.out.2.2.1,A3.out.2.1,A3.out.2.2.2.1⟩
  by_cases hst:gs.st=[]
  ·have hp0:po=none:=by
    have:=HPO.out
    rw [hst] at this
    injection this with e
    exact e.symm
   subst hp0
   have FK:Hid (FrM w3 (updA A t.frm b) C (t.frm+1) (gBegin gs t true::gs.st) [] (fun k=>k=b∨M k)):=by
    have:=A3.out.1
    unfold Hid
    rw [hst] at this ⊢
    exact this.kpNil true
   clear hst
   go_wp2
   go_ret
   rw [hbk]
   exact ⟨b,updA A t.frm b,fun k=>k=b∨M k,D',x',rfl,by omega,HA.out.1,HA.out.2,X3.out,S3.out,B3.out,FK.out,fun k hk=>hk.elim (fun e=>Or.inr (by omega)) Or.inl,A3.out.2.2.1,A3.out.2.1,A3.out.2.2.2.1⟩
  obtain ⟨p,q,hpq⟩:∃p q,gs.st=p::q:=by
   cases hgs:gs.st with
   | nil=>exact absurd hgs hst
   | cons p q=>exact ⟨p,q,rfl⟩
  have hwl:=HWS.out p q hpq
  have hfm:=A3.out.1
  rw [hpq] at hfm
  obtain ⟨a2,c2,tb,to,tnb,tM,tsM,tk⟩:=FrM.top hfm rfl A3.out.2.2.2.2.2
  have eAb:updA A t.frm b (gBegin gs t false).d.frm=b:=HA.out.1
  rw [eAb] at tM tsM tk
  have hpo2:po=some ⟨updA A t.frm b p.d.frm,0,none⟩:=by
   have e1:=HPP.out
   rw [HPO.out,hpq] at e1
   have e1:vpt (updA A t.frm b p.d.frm)=.pointer po:=e1
   injection e1 with e1
   exact e1.symm
  subst hpo2
  have e8:w3.cell? ⟨updA A t.frm b p.d.frm,8,none⟩=some (.slice a2 p.ws.length c2):=tb.cell 8
  have hb3:=tb.lt
  have KR:Keeps w3 (w3.alloc (.cells #[.pointer (some ⟨b,0,none⟩)] 71)).drew:=((Fr.refl _ w3).alloc _).drew
  have HOr:Hid ((w3.alloc (.cells #[.pointer (some ⟨b,0,none⟩)] 71)).drew.ownsRow 0 71 1 (.slice a2 p.ws.length c2) p.ws.length (p.ws.map (pvp (updA A t.frm b)))):=own_at' to (fun k hk=>KR.block k (to.lt k hk).2 id)
  have P4:Hid (∀w4,(w3.alloc (.cells #[.pointer (some ⟨b,0,none⟩)] 71)).drew.grownBy w4 (Value.slice a2 p.ws.length c2).ownBlock→Blk w4 (updA A t.frm b p.d.frm) (pcl p.d (parP (updA A t.frm b) q) p.ix (.slice a2 p.ws.length c2)) 130):=fun w4 hg4=>by
   show w4.heap[updA A t.frm b p.d.frm]?=_
   rw [hg4.block _ (Nat.lt_of_lt_of_le hb3 KR.size) (fun e=>tnb e.symm),KR.block _ hb3 id]
   exact tb
  have FIN:Hid (∀g4 cap4 w4,w4.ownsRow 0 71 1 (.slice (some ⟨g4,0,none⟩) (p.ws.length+1) cap4) (p.ws.length+1) (p.ws.map (pvp (updA A t.frm b))++[.pointer (some ⟨b,0,none⟩)])→(w3.alloc (.cells #[.pointer (some ⟨b,0,none⟩)] 71)).drew.grownBy w4 (Value.slice a2 p.ws.length c2).ownBlock→((Value.slice a2 p.ws.length c2).ownBlock=some g4∨g4=(w3.alloc (.cells #[.pointer (some ⟨b,0,none⟩)] 71)).drew.heap.size) →
   BgP g T gc S A C (gBegin gs t true) gs.st M D bg x (.int .i64 (gs.ix:Nat)) w (.returned (.pointer (some ⟨b,0,none⟩))) (w4.setCell ⟨updA A t.frm b p.d.frm,8,none⟩ (.slice (some ⟨g4,0,none⟩) (p.ws.length+1) cap4))):=fun g4 cap4 w4 ho hg4 hat=>by
   obtain ⟨M2,r1,r2,r3⟩:=tk (w3.alloc (.cells #[.pointer (some ⟨b,0,none⟩)] 71)).drew w4 (.slice (some ⟨g4,0,none⟩) (p.ws.length+1) cap4) KR hg4 ho (hat.elim (fun e=>Or.inl e.symm) (fun e=>Or.inr (by rw [e]; rfl)))
   refine bg_fin (M1:=fun k=>k=b∨M k) HKEEP.out (Nat.le_of_lt hwb) HA.out.1 HA.out.2 X3.out S3.out B3.out A3.out.2.2.2.1 A3.out.2.2.1 A3.out.2.2.2.2.1 A3.out.2.1 (by rw [hpq]; exact r1) r2 (fun k hk=>hk.elim (fun e=>Or.inr (by omega)) Or.inl) r3 (fun k hk=>?_) HG1.out.1
   rcases hk with e | e
   ·rw [e]; exact ⟨tM.1.resolve_left tM.2,tM.1⟩
   exact ⟨(tsM k e).1.resolve_left (tsM k e).2,(tsM k e).1⟩
  have e2a:(w3.alloc (.cells #[.pointer (some ⟨b,0,none⟩)] 71)).cell? ⟨g,o+2,none⟩=some (.pointer (some ⟨updA A t.frm b p.d.frm,0,none⟩)):=GC2.out (B3.out.alloc _)
  have e8a:(w3.alloc (.cells #[.pointer (some ⟨b,0,none⟩)] 71)).cell? ⟨updA A t.frm b p.d.frm,8,none⟩=some (.slice a2 p.ws.length c2):=(tb.alloc _).cell 8
  have G4:Hid (∀w4,(w3.alloc (.cells #[.pointer (some ⟨b,0,none⟩)] 71)).drew.grownBy w4 (Value.slice a2 p.ws.length c2).ownBlock→w4.cell? ⟨g,o+2,none⟩=some (.pointer (some ⟨updA A t.frm b p.d.frm,0,none⟩))):=fun w4 hg4=>by
   have hb:Blk w4 g (gc x' (parP A gs.st) (.string (bsb [])) (.int .i64 (gs.ix:Nat))) T:=by
    show w4.heap[g]?=_
    rw [hg4.block g (Nat.lt_of_lt_of_le B3.out.lt KR.size) (fun e=>HG1.out.1 (tsM g e.symm).1),KR.block g B3.out.lt id]
    exact B3.out
   exact GC2.out hb
  have hgb:g≠updA A t.frm b p.d.frm:=fun e=>HG1.out.1 (e▸tM.1)
  have HN1:Hid (∀(j:Nat) (u:Value),[Value.pointer (some ⟨b,0,none⟩)][j]?=some u→(w3.alloc (.cells #[.pointer (some ⟨b,0,none⟩)] 71)).drew.cell? ((⟨w3.heap.size,0,none⟩:Addr).add j)=some u):=by
   intro j u hj
   match j,hj with
   | 0,hj=>simp at hj; subst hj; simp [Addr.add]
  have HN2:Hid (∀u ∈ [Value.pointer (some ⟨b,0,none⟩)],u.oneCell'=true):=by
   intro u hu; simp at hu; subst hu; rfl
  have G5:Hid (∀w4,(w3.alloc (.cells #[.pointer (some ⟨b,0,none⟩)] 71)).drew.grownBy w4 (Value.slice a2 p.ws.length c2).ownBlock→∀v,(w4.setCell ⟨updA A t.frm b p.d.frm,8,none⟩ v).cell? ⟨g,o+2,none⟩=some (.pointer (some ⟨updA A t.frm b p.d.frm,0,none⟩))):=fun w4 hg4 v=>by
   rw [← G4.out w4 hg4]
   exact World.cell?_of_block (Below.heap_setCell _ _ _ _ (fun e=>hgb e))
  obtain ⟨i0,hi0,hz0,hz1,hz2⟩:=info_parts infoVP
  have HI:=hide hi0
  have HZ0:=hide hz0
  have HZ1:=hide hz1
  have HZ2:=hide hz2
  clear hfm tb to tnb tM tsM tk KR hi0 hz0 hz1 hz2 hst hpq eAb
  generalize updA A t.frm b p.d.frm=bp at *
  go_wp2
  refine reg4 (xs2:=p.ws.map (pvp (updA A t.frm b))) e2 e8 e2a e8a (fun _ _ _ _ _ hq=>hq) hwl HI HZ0 HZ1 HZ2 HOr HN1 HN2 P4 G4 G5 ?_
  intro g4 cap4 w4 ho hg4 hat
  have F4:=hide (FIN.out g4 cap4 w4 ho hg4 hat)
  clear ho hg4 hat
  go_wp2
  go_ret
  rw [hbk]
  exact F4.out
end Go.Proofs.YtcbadebjpogmlaaGreatDoor
