import Derived.Test.YtcbadebjpogmlaaGreatDoorVsQc
import Derived.Test.YtcbadebjpogmlaaGreatDoorVsVg
set_option maxHeartbeats 4000000
set_option maxRecDepth 100000
namespace Go.Proofs.YtcbadebjpogmlaaGreatDoor
open Go.RowKit Tr
set_option linter.unusedSimpArgs false in
theorem Bh {X:Type} {g:Nat} {T:TypeId} {o:Nat} {gc:X->Value->Value->Value->Array Value} {fb fc:Value} {S:World->(Nat->Prop)->X->Prop} {bk:X->Bool} {bg cl:X->List Fm->Fm->Nat->X->Prop} {kJ:X->List Fm->Fm->Nat->Prop} {pO:X->List Fm->Fm->(Nat->Nat)->Prop} (hL:wz T o fb fc gc) (hG:Kn g T gc fb fc S bk bg cl kJ pO)
 {w:World} {D:Nat->Prop} {x:X} {A:Nat->Nat} {C:Nat->Prop} {gs:Gs} {M:Nat->Prop} {t:Tok} (hS:S w D x) (hB:ay w g (gc x (dD A gs.st) (.string (bZ gs.nm)) (.int .i64 (gs.ix:Nat))) T) (hM:gE w A C gs.bd gs.st [] M) (hok:Qk gs) (ht:f_ gs.sh t) (hk:t.k=0\/t.k=3) (hC:∀k,C k->k<w.heap.size) (wB:∀k,D k->¬M k/\¬C k/\k≠g) (hg:¬M g/\¬C g)
 (rX:∀b,kJ x gs.st (aM gs t false) b) :
 Calls Tryz.prog 72 #[.pointer (some ⟨g,o,none⟩),gD t] w (Zz g T gc S A C (aM gs t (bk x)) gs.st M D bg x (.int .i64 (gs.ix:Nat)) w):=by
 obtain ⟨N,first,cap,wD,hE,cV⟩:=hG.FZ
 obtain ⟨po,sP⟩:=wA A gs.st
 have hbd:gs.bd<=t.ai:=by
  rcases hk with y | y
  ·exact (ht.k0 y).2.2.2.2
  exact (ht.k3 y).2.2.2.2
 have qg:g<w.heap.size:=hB.lt
 obtain ⟨w0,hw0⟩:∃w0,w0=w.alloc (.cells #[.int .i64 (t.k:Nat),.int .i64 (t.of:Nat),.int .i64 (t.ai:Nat),.int .i64 (t.to:Nat),.int .i64 t.n,.string (bZ (fK t.k t.t))] 108):=⟨_,rfl⟩
 have pg:ay w0 w.heap.size #[.int .i64 (t.k:Nat),.int .i64 (t.of:Nat),.int .i64 (t.ai:Nat),.int .i64 (t.to:Nat),.int .i64 t.n,.string (bZ (fK t.k t.t))] 108:=by rw [hw0]; exact ay.new w _ _
 have K0:ak w w0:=by rw [hw0]; exact (Fr.refl _ w).alloc _
 have B0:=hB.fr K0 id
 have ZB:=pg.cell 1
 have ZC:=pg.cell 2
 have ZD:=pg.cell 4
 have Qm:=pg.cell 5
 simp at ZB ZC ZD Qm
 have gc2:=hL.c2 B0
 have gc3:=hL.c3 B0
 have gc4:=hL.c4 B0
 rw [sP] at gc2
 -- the value has a block of its own
 obtain ⟨W1,mq⟩:∃W1,W1=(w0.alloc (.cells #[.int .i64 (t.of:Nat),.int .i64 (t.ai:Nat),.int .i64 0,.int .i64 t.n,.string (bZ (fK t.k t.t)),.pointer po,.int .i64 (gs.ix:Nat),.string (bZ gs.nm),.slice none 0 0] 130)).drew:=⟨_,rfl⟩
 obtain ⟨b,hb⟩:∃b,b=w0.heap.size:=⟨_,rfl⟩
 have ZA:w.heap.size<b:=by rw [hb,hw0]; simp
 have KW1:ak w0 W1:=by rw [mq]; exact ((Fr.refl _ w0).alloc _).drew
 have K1:ak w W1:=K0.trans KW1
 have BV:ay W1 b (ld (jo gs t) (dD A gs.st) gs.ix (.slice none 0 0)) 130:=by
  rw [wC ht hk,sP,mq,hb]
  exact ay.new w0 _ _
 have UL:b<W1.heap.size:=BV.lt
 have B1:=hB.fr K1 id
 have FM1:gE W1 (eM A t.ai b) C (t.ai+1) (aM gs t false::gs.st) [] (λ k=>k=b\/M k):=hM.new hC (f:=aM gs t false) (by omega) BV K1 hbd rfl rfl (Lh ht hk)
 have eA:eM A t.ai b t.ai=b:=sO _ _ _
 have S1:S W1 D x:=hG.keep hS (λ k hk=>K1.block k (hG.lt hS hk) id) K1.size
 have Qf:=B1.fz
 have t3:=hL.c3 B1
 -- its name is gone
 obtain ⟨W2,yT⟩:∃W2,W2=W1.setCell ⟨g,o+3,none⟩ (.string ⟨#[]⟩):=⟨_,rfl⟩
 have K2:Fr (λ k=>k=g) W1 W2:=by rw [yT]; exact (Fr.refl (λ k=>k=g) W1).setCell ⟨g,o+3,none⟩ (Or.inl rfl) _
 have B2:ay W2 g (gc x (dD A gs.st) (.string (bZ [])) (.int .i64 (gs.ix:Nat))) T:=by rw [yT]; exact hL.s3 _ B1
 have gc0:=hL.c0 B2
 rw [yT,wD] at gc0
 have hg1:¬(g=b\/M g)/\¬C g:=⟨λ y=>y.elim (λ e=>by omega) hg.1,hg.2⟩
 have Ga:∀k,D k->¬(k=b\/M k)/\¬C k/\k≠g:=λ k hk=>⟨λ y=>y.elim (λ e=>by have:=hG.lt hS hk; omega) (wB k hk).1,(wB k hk).2⟩
 have Kp:∀k,C k->k<W1.heap.size:=λ k hk=>Nat.lt_of_lt_of_le (hC k hk) K1.size
 have Ym:gE W2 (eM A t.ai b) C (t.ai+1) (aM gs t false::gs.st) [] (λ k=>k=b\/M k):=FM1.fr Kp K2 (λ k e=>by rw [e]; exact hg1)
 have S2:S W2 D x:=hG.keep S1 (λ k hk=>K2.block k (hG.lt S1 hk) (λ e=>(wB k hk).2.2 e)) K2.size
 have Yn:∀k,C k->k<W2.heap.size:=λ k hk=>Nat.lt_of_lt_of_le (Kp k hk) K2.size
 have hl:gs.st.length<=8:=hok.len
 have CC:=cV S2 B2 Ym hl Yn Ga hg1 (rX _)
 rw [show eM A t.ai b (aM gs t false).d.ai=b from eA] at CC
 have F2:Fr (λ k=>D k\/M k\/k=g) w W2:=(K1.mono (λ k _ e=>e.elim)).trans (K2.mono (λ k _ e=>Or.inr (Or.inr e)))
 have ZE:b<W2.heap.size:=Nat.lt_of_lt_of_le UL K2.size
 -- behind the one who was told
 have AFT:Hid (∀(D':Nat->Prop) (x':X) (w3:World),S w3 D' x'->(∀k,D' k->D k\/W2.heap.size<=k)->Fr (λ k=>D k\/k=g) W2 w3 ->
  gE w3 (eM A t.ai b) C (t.ai+1) (aM gs t false::gs.st) [] (λ k=>k=b\/M k)/\(∀k,D' k->¬(k=b\/M k))/\(∀k,D' k->D k\/w.heap.size<=k)/\Fr (λ k=>D k\/M k\/k=g) w w3/\(∀k,D' k->k<w3.heap.size)/\(∀k,C k->k<w3.heap.size)):=λ D' x' w3 s3 d3 f3=>by
  refine ⟨Ym.fr Yn f3 (λ k e=>?_),λ k hk e=>?_,λ k hk=>?_,F2.trans (f3.mono (λ k _ e=>?_)),λ k hk=>hG.lt s3 hk,λ k hk=>Nat.lt_of_lt_of_le (Yn k hk) f3.size⟩
  ·rcases e with e | e
   ·exact ⟨(Ga k e).1,(Ga k e).2.1⟩
   rw [e]; exact hg1
  ·rcases d3 k hk with y | y
   ·exact (Ga k y).1 e
   have:=(Ym.lt k e).1; omega
  ·rcases d3 k hk with y | y
   ·exact Or.inl y
   exact Or.inr (Nat.le_trans F2.size y)
  rcases e with e | e
  ·exact Or.inl e
  exact Or.inr (Or.inr e)
 have ZF:Hid (∀{w3:World} {x3:X} {nm ix:Value},ay w3 g (gc x3 (dD A gs.st) nm ix) T->w3.cell? ⟨g,o+2,none⟩=some (.pointer po)):=λ h3=>by rw [<-sP]; exact hL.c2 h3
 have HPO:=aa sP
 have HA:Hid (eM A t.ai b t.ai=b/\∀k,k<t.ai->eM A t.ai b k=A k):=⟨eA,λ k hk=>uB A (by omega)⟩
 have HPP:Hid (dD (eM A t.ai b) gs.st=dD A gs.st):=mC (λ k hk=>uB A (by omega)) hM
 have UM:Hid (∀{w w':World} {D:Nat->Prop} {x:X},S w D x->Sm D w w'->w.heap.size<=w'.heap.size->S w' D x):=hG.keep
 have ZG:=aa hg1
 have HWS:Hid (∀p q,gs.st=p::q->p.ws.length<=4000000):=λ p q e=>by
  have a1:=hok.ws
  rw [e] at a1
  have a2:=a1.1
  have a3:=hok.ix
  have a4:=hok.bd
  omega
 have HCC:=aa CC
 have Gb:=aa hw0
 have F7:=aa mq
 have Oy:=aa yT
 have HB:=aa hb
 have HFB:=aa wD
 clear hw0 pg K0 B0 cV hS hB hM hok ht hk hC wB hg rX hbd sP hG hL KW1 K1 BV UL B1 FM1 eA S1 K2 B2 hg1 Ga Kp Ym S2 Yn CC F2 ZE hb mq yT wD
 unfold gD
 go_enter Tryz.func72,Tryz.ntmps72
 go_wp2
 rw [<-Gb.out]
 go_region
 all_goals
  rw [<-F7.out,<-HB.out]
  clear ZB ZC ZD Qm gc2 gc3 gc4
  go_wp2_with fail
  rw [<-Oy.out]
  refine HCC.out.mono ?_
  rintro res w3 ⟨rfl,D',x',Qn,hs3,zi,hd3,hf3⟩
  have A3:=aa (AFT.out D' x' w3 hs3 hd3 hf3)
  have S3:=aa hs3
  have X3:=aa Qn
  have B3:=aa zi
  have e2:=ZF.out zi
  clear hs3 zi hd3 hf3 Qf t3 gc0 Qn
  cases hbk:bk x
  ·go_wp2
   go_ret
   rw [hbk]
   exact ⟨b,eM A t.ai b,λ k=>k=b\/M k,D',x',rfl,by omega,HA.out.1,HA.out.2,X3.out,S3.out,B3.out,A3.out.1,λ k hk=>hk.elim (λ e=>Or.inr (by omega)) Or.inl,A3.out.2.2.1,A3.out.2.1,A3.out.2.2.2.1⟩
  by_cases hst:gs.st=[]
  ·have Bi:po=none:=by
    have:=HPO.out
    rw [hst] at this
    injection this with e
    exact e.symm
   subst Bi
   have FK:Hid (gE w3 (eM A t.ai b) C (t.ai+1) (aM gs t true::gs.st) [] (λ k=>k=b\/M k)):=by
    have:=A3.out.1
    unfold Hid
    rw [hst] at this ⊢
    exact this.UK true
   clear hst
   go_wp2
   go_ret
   rw [hbk]
   exact ⟨b,eM A t.ai b,λ k=>k=b\/M k,D',x',rfl,by omega,HA.out.1,HA.out.2,X3.out,S3.out,B3.out,FK.out,λ k hk=>hk.elim (λ e=>Or.inr (by omega)) Or.inl,A3.out.2.2.1,A3.out.2.1,A3.out.2.2.2.1⟩
  obtain ⟨p,q,hpq⟩:∃p q,gs.st=p::q:=by
   cases Oz:gs.st with
   | nil=>exact absurd Oz hst
   | cons p q=>exact ⟨p,q,rfl⟩
  have hwl:=HWS.out p q hpq
  have ZH:=A3.out.1
  rw [hpq] at ZH
  obtain ⟨a2,c2,tb,to,tnb,tM,TF,tk⟩:=gE.top ZH rfl A3.out.2.2.2.2.2
  have eAb:eM A t.ai b (aM gs t false).d.ai=b:=HA.out.1
  rw [eAb] at tM TF tk
  have ZI:po=some ⟨eM A t.ai b p.d.ai,0,none⟩:=by
   have e1:=HPP.out
   rw [HPO.out,hpq] at e1
   have e1:nG (eM A t.ai b p.d.ai)=.pointer po:=e1
   injection e1 with e1
   exact e1.symm
  subst ZI
  have e8:w3.cell? ⟨eM A t.ai b p.d.ai,8,none⟩=some (.slice a2 p.ws.length c2):=tb.cell 8
  have lp:=tb.lt
  have KR:ak w3 (w3.alloc (.cells #[.pointer (some ⟨b,0,none⟩)] 71)).drew:=((Fr.refl _ w3).alloc _).drew
  have HOr:Hid ((w3.alloc (.cells #[.pointer (some ⟨b,0,none⟩)] 71)).drew.ownsRow 0 71 1 (.slice a2 p.ws.length c2) p.ws.length (p.ws.map (iS (eM A t.ai b)))):=bJ to (λ k hk=>KR.block k (to.lt k hk).2 id)
  have P4:Hid (∀w4,(w3.alloc (.cells #[.pointer (some ⟨b,0,none⟩)] 71)).drew.grownBy w4 (Value.slice a2 p.ws.length c2).ownBlock->ay w4 (eM A t.ai b p.d.ai) (ld p.d (dD (eM A t.ai b) q) p.ix (.slice a2 p.ws.length c2)) 130):=λ w4 Gc=>by
   show w4.heap[eM A t.ai b p.d.ai]?=_
   rw [Gc.block _ (Nat.lt_of_lt_of_le lp KR.size) (λ e=>tnb e.symm),KR.block _ lp id]
   exact tb
  have Bj:Hid (∀g4 jr w4,w4.ownsRow 0 71 1 (.slice (some ⟨g4,0,none⟩) (p.ws.length+1) jr) (p.ws.length+1) (p.ws.map (iS (eM A t.ai b))++[.pointer (some ⟨b,0,none⟩)])->(w3.alloc (.cells #[.pointer (some ⟨b,0,none⟩)] 71)).drew.grownBy w4 (Value.slice a2 p.ws.length c2).ownBlock->((Value.slice a2 p.ws.length c2).ownBlock=some g4\/g4=(w3.alloc (.cells #[.pointer (some ⟨b,0,none⟩)] 71)).drew.heap.size) ->
   Zz g T gc S A C (aM gs t true) gs.st M D bg x (.int .i64 (gs.ix:Nat)) w (.returned (.pointer (some ⟨b,0,none⟩))) (w4.setCell ⟨eM A t.ai b p.d.ai,8,none⟩ (.slice (some ⟨g4,0,none⟩) (p.ws.length+1) jr))):=λ g4 jr w4 ho Gc bN=>by
   obtain ⟨M2,r1,r2,r3⟩:=tk (w3.alloc (.cells #[.pointer (some ⟨b,0,none⟩)] 71)).drew w4 (.slice (some ⟨g4,0,none⟩) (p.ws.length+1) jr) KR Gc ho (bN.elim (λ e=>Or.inl e.symm) (λ e=>Or.inr (by rw [e]; rfl)))
   refine Ql (M1:=λ k=>k=b\/M k) UM.out (Nat.le_of_lt ZA) HA.out.1 HA.out.2 X3.out S3.out B3.out A3.out.2.2.2.1 A3.out.2.2.1 A3.out.2.2.2.2.1 A3.out.2.1 (by rw [hpq]; exact r1) r2 (λ k hk=>hk.elim (λ e=>Or.inr (by omega)) Or.inl) r3 (λ k hk=>?_) ZG.out.1
   rcases hk with e | e
   ·rw [e]; exact ⟨tM.1.resolve_left tM.2,tM.1⟩
   exact ⟨(TF k e).1.resolve_left (TF k e).2,(TF k e).1⟩
  have UN:(w3.alloc (.cells #[.pointer (some ⟨b,0,none⟩)] 71)).cell? ⟨g,o+2,none⟩=some (.pointer (some ⟨eM A t.ai b p.d.ai,0,none⟩)):=ZF.out (B3.out.alloc _)
  have e8a:(w3.alloc (.cells #[.pointer (some ⟨b,0,none⟩)] 71)).cell? ⟨eM A t.ai b p.d.ai,8,none⟩=some (.slice a2 p.ws.length c2):=(tb.alloc _).cell 8
  have G4:Hid (∀w4,(w3.alloc (.cells #[.pointer (some ⟨b,0,none⟩)] 71)).drew.grownBy w4 (Value.slice a2 p.ws.length c2).ownBlock->w4.cell? ⟨g,o+2,none⟩=some (.pointer (some ⟨eM A t.ai b p.d.ai,0,none⟩))):=λ w4 Gc=>by
   have hb:ay w4 g (gc x' (dD A gs.st) (.string (bZ [])) (.int .i64 (gs.ix:Nat))) T:=by
    show w4.heap[g]?=_
    rw [Gc.block g (Nat.lt_of_lt_of_le B3.out.lt KR.size) (λ e=>ZG.out.1 (TF g e.symm).1),KR.block g B3.out.lt id]
    exact B3.out
   exact ZF.out hb
  have hgb:g≠eM A t.ai b p.d.ai:=λ e=>ZG.out.1 (e▸tM.1)
  have Qo:Hid (∀(j:Nat) (u:Value),[Value.pointer (some ⟨b,0,none⟩)][j]?=some u->(w3.alloc (.cells #[.pointer (some ⟨b,0,none⟩)] 71)).drew.cell? ((⟨w3.heap.size,0,none⟩:Addr).add j)=some u):=by
   intro j u hj
   match j,hj with
   | 0,hj=>simp at hj; subst hj; simp [Addr.add]
  have Bk:Hid (∀u ∈ [Value.pointer (some ⟨b,0,none⟩)],u.oneCell'=true):=by
   intro u hu; simp at hu; subst hu; rfl
  have G5:Hid (∀w4,(w3.alloc (.cells #[.pointer (some ⟨b,0,none⟩)] 71)).drew.grownBy w4 (Value.slice a2 p.ws.length c2).ownBlock->∀v,(w4.setCell ⟨eM A t.ai b p.d.ai,8,none⟩ v).cell? ⟨g,o+2,none⟩=some (.pointer (some ⟨eM A t.ai b p.d.ai,0,none⟩))):=λ w4 Gc v=>by
   rw [<-G4.out w4 Gc]
   exact World.cell?_of_block (Below.heap_setCell _ _ _ _ (λ e=>hgb e))
  obtain ⟨i0,hi0,hz0,hz1,dN⟩:=info_parts Gd
  have HI:=aa hi0
  have ia:=aa hz0
  have gO:=aa hz1
  have ic:=aa dN
  clear ZH tb to tnb tM TF tk KR hi0 hz0 hz1 dN hst hpq eAb
  generalize eM A t.ai b p.d.ai=bp at *
  go_wp2
  refine ZJ (UO:=p.ws.map (iS (eM A t.ai b))) e2 e8 UN e8a (λ_ _ _ _ _ hq=>hq) hwl HI ia gO ic HOr Qo Bk P4 G4 G5 ?_
  intro g4 jr w4 ho Gc bN
  have F4:=aa (Bj.out g4 jr w4 ho Gc bN)
  clear ho Gc bN
  go_wp2
  go_ret
  rw [hbk]
  exact F4.out
end Go.Proofs.YtcbadebjpogmlaaGreatDoor
