import Derived.Test.YtcbadebjpogmlaaGreatDoorVvHk
import Derived.Test.YtcbadebjpogmlaaGreatDoorVvGb
import Derived.Test.YtcbadebjpogmlaaGreatDoorVvVg
set_option maxHeartbeats 4000000
set_option maxRecDepth 100000
namespace Go.Proofs.YtcbadebjpogmlaaGreatDoor
open Go.RowKit Tr Go.Proofs.Tryz
set_option linter.unusedSimpArgs false in
theorem acK{d:Exit->Act->World->Prop}{n:World}{g o b m h r:Nat}{q:Option Addr}{xs2:List Value}{dd:jt}{pv:Value}{S:Nat}{u1 u2 u3 u4 u6 u7 u8 u9 Xs Xt Xu Xv Xw Xx u16 u17 u18 u19 u20 u21 u22 u23 u24 u25 u26 u27 u28 u29 u30 u31 u32 u33 u34 u35 u36 u37 u38 u39 u40 u41 u42 u43 u44 u45 u46 u47 u48 u49 u50 u51 u52 u53 u54 u55 u56 u57 u58 u59 u60:Value}{A:TypeInfo}(T:n.cell? (aD g (o+2))=some (pT m))(e8:n.cell? (aD m 8)=some (.slice q h r))(z:(n.alloc (.cells #[pT b] 71)).cell? (aD g (o+2))=some (pT m))(e8a:(n.alloc (.cells #[pT b] 71)).cell? (aD m 8)=some (.slice q h r))(f:∀c a(i:Nat)v w,d (.panic c) (Act.put a (some i) v) w->d (.panic c) a w)(hwl:h<=4000000)(HI:Hid (prog.info? 71=some A))(M:Hid (A.zero=some (.pointer none)))(N:Hid (A.size=1))(P:Hid (A.bytes=8))(L:Hid ((n.alloc (.cells #[pT b] 71)).drew.ownsRow 0 71 1 (.slice q h r) h xs2))(H:Hid (∀(j:Nat)(u:Value),[pT b][j]?=some u->(n.alloc (.cells #[pT b] 71)).drew.cell? (((aD n.heap.size 0):Addr).add j)=some u))(J:Hid (∀u∈[pT b],u.oneCell'=true))(P4:Hid (∀l,(n.alloc (.cells #[pT b] 71)).drew.grownBy l (Value.slice q h r).ownBlock->V l m (kF dd pv S (.slice q h r)) 130))(W:Hid (∀l,(n.alloc (.cells #[pT b] 71)).drew.grownBy l (Value.slice q h r).ownBlock->l.cell? (aD g (o+2))=some (pT m)))(G5:Hid (∀l,(n.alloc (.cells #[pT b] 71)).drew.grownBy l (Value.slice q h r).ownBlock->∀v,(l.setCell (aD m 8) v).cell? (aD g (o+2))=some (pT m)))(G:Hid (∀y k l,l.ownsRow 0 71 1 (.slice (sA y) (h+1) k) (h+1) (xs2++[pT b])->(n.alloc (.cells #[pT b] 71)).drew.grownBy l (Value.slice q h r).ownBlock->((Value.slice q h r).ownBlock=some y\/y=(n.alloc (.cells #[pT b] 71)).drew.heap.size)->d .normal ⟨#[.pointer (some (aD g o)),u1,u2,u3,u4,pT b,u6,u7,u8,u9,Xs,Xt,Xu,Xv,Xw,Xx,u16,u17,u18,u19,u20,u21,u22,u23,u24,u25,u26,u27,u28,u29,u30,u31,u32,u33,u34,u35,u36,u37,u38,u39,u40,u41,u42,u43,.pointer (some (aD g o)),.pointer (some (aD g o)),.pointer (some (aD g (o+2))),pT m,.pointer (some (aD g o)),.pointer (some (aD g o)),.pointer (some (aD g (o+2))),pT m,pT m,.pointer (some (aD m 8)),.slice q h r,pT b,.slice (sA n.heap.size) 1 1,.slice (sA y) (h+1) k,pT m,.pointer (some (aD m 8)),u60],[]⟩ (l.setCell (aD m 8) (.slice (sA y) (h+1) k)))):Code.wp prog (Code.region 4 #[{dst:=some 44,op:=Op.move (Operand.tmp 0),type:=164,pos:= "tree.go:55",after:=#[],guard:=none},{dst:=some 45,op:=Op.nilCheck (Operand.tmp 44),type:=0,pos:= "tree.go:55",after:=#[{on:=0,ground:=Ground.data}],guard:=none},{dst:=some 46,op:=Op.fieldAddr 119 (Operand.tmp 45) 2,type:=0,pos:= "tree.go:55",after:=#[{on:=1,ground:=Ground.data}],guard:=none},{dst:=some 47,op:=Op.load 71 (Operand.tmp 46),type:=71,pos:= "tree.go:55",after:=#[{on:=2,ground:=Ground.data}],guard:=none},{dst:=some 48,op:=Op.move (Operand.tmp 0),type:=164,pos:= "tree.go:55",after:=#[],guard:=none},{dst:=some 49,op:=Op.nilCheck (Operand.tmp 48),type:=0,pos:= "tree.go:55",after:=#[{on:=4,ground:=Ground.data}],guard:=none},{dst:=some 50,op:=Op.fieldAddr 119 (Operand.tmp 49) 2,type:=0,pos:= "tree.go:55",after:=#[{on:=5,ground:=Ground.data}],guard:=none},{dst:=some 51,op:=Op.load 71 (Operand.tmp 50),type:=71,pos:= "tree.go:55",after:=#[{on:=6,ground:=Ground.data}],guard:=none},{dst:=some 52,op:=Op.nilCheck (Operand.tmp 51),type:=0,pos:= "tree.go:55",after:=#[{on:=7,ground:=Ground.data}],guard:=none},{dst:=some 53,op:=Op.fieldAddr 130 (Operand.tmp 52) 8,type:=0,pos:= "tree.go:55",after:=#[{on:=8,ground:=Ground.data}],guard:=none},{dst:=some 54,op:=Op.load 74 (Operand.tmp 53),type:=74,pos:= "tree.go:55",after:=#[{on:=9,ground:=Ground.data}],guard:=none},{dst:=some 55,op:=Op.move (Operand.tmp 5),type:=71,pos:= "tree.go:55",after:=#[],guard:=none},{dst:=some 56,op:=Op.buildSlice 74 1 #[(0,Operand.tmp 55)],type:=74,pos:= "tree.go:55",after:=#[{on:=11,ground:=Ground.data}],guard:=none},{dst:=some 57,op:=Op.call {callee:=Callee.builtin Builtin.append,args:=#[Operand.tmp 54,Operand.tmp 56],argTypes:=#[74,74]},type:=74,pos:= "tree.go:55",after:=#[{on:=10,ground:=Ground.data},{on:=12,ground:=Ground.data}],guard:=none},{dst:=some 58,op:=Op.nilCheck (Operand.tmp 47),type:=0,pos:= "tree.go:55",after:=#[{on:=3,ground:=Ground.data},{on:=0,ground:=Ground.phase},{on:=1,ground:=Ground.phase},{on:=2,ground:=Ground.phase},{on:=3,ground:=Ground.phase},{on:=4,ground:=Ground.phase},{on:=5,ground:=Ground.phase},{on:=6,ground:=Ground.phase},{on:=7,ground:=Ground.phase},{on:=8,ground:=Ground.phase},{on:=9,ground:=Ground.phase},{on:=10,ground:=Ground.phase},{on:=11,ground:=Ground.phase},{on:=12,ground:=Ground.phase},{on:=13,ground:=Ground.phase}],guard:=none},{dst:=some 59,op:=Op.fieldAddr 130 (Operand.tmp 58) 8,type:=0,pos:= "tree.go:55",after:=#[{on:=14,ground:=Ground.data},{on:=0,ground:=Ground.phase},{on:=1,ground:=Ground.phase},{on:=2,ground:=Ground.phase},{on:=3,ground:=Ground.phase},{on:=4,ground:=Ground.phase},{on:=5,ground:=Ground.phase},{on:=6,ground:=Ground.phase},{on:=7,ground:=Ground.phase},{on:=8,ground:=Ground.phase},{on:=9,ground:=Ground.phase},{on:=10,ground:=Ground.phase},{on:=11,ground:=Ground.phase},{on:=12,ground:=Ground.phase},{on:=13,ground:=Ground.phase}],guard:=none},{dst:=none,op:=Op.store 74 (Operand.tmp 59) (Operand.tmp 57),type:=0,pos:= "tree.go:55",after:=#[{on:=15,ground:=Ground.data},{on:=13,ground:=Ground.data},{on:=13,ground:=Ground.chain},{on:=0,ground:=Ground.phase},{on:=1,ground:=Ground.phase},{on:=2,ground:=Ground.phase},{on:=3,ground:=Ground.phase},{on:=4,ground:=Ground.phase},{on:=5,ground:=Ground.phase},{on:=6,ground:=Ground.phase},{on:=7,ground:=Ground.phase},{on:=8,ground:=Ground.phase},{on:=9,ground:=Ground.phase},{on:=10,ground:=Ground.phase},{on:=11,ground:=Ground.phase},{on:=12,ground:=Ground.phase},{on:=13,ground:=Ground.phase}],guard:=none}] true) d ⟨#[.pointer (some (aD g o)),u1,u2,u3,u4,pT b,u6,u7,u8,u9,Xs,Xt,Xu,Xv,Xw,Xx,u16,u17,u18,u19,u20,u21,u22,u23,u24,u25,u26,u27,u28,u29,u30,u31,u32,u33,u34,u35,u36,u37,u38,u39,u40,u41,u42,u43,u44,u45,u46,u47,u48,u49,u50,u51,u52,u53,u54,u55,u56,u57,u58,u59,u60],[]⟩ n:=by
  refine wp_region_held_drew (S:=λw'=>w'.cell? (aD g (o+2))=some (pT m)) (by kernel_rfl) T λR=>?_;refine htk 0 ?_ (hQ:=λ_ _ _=>f _ _ _ _ _);refine htk 1 ?_ (hQ:=λ_ _ _=>f _ _ _ _ _);refine htk 2 ?_ (hQ:=λ_ _ _=>f _ _ _ _ _);refine htk 3 ?_ (hQ:=λ_ _ _=>f _ _ _ _ _);refine htk 4 ?_ (hQ:=λ_ _ _=>f _ _ _ _ _);refine htk 5 ?_ (hQ:=λ_ _ _=>f _ _ _ _ _);refine htk 6 ?_ (hQ:=λ_ _ _=>f _ _ _ _ _);refine htk 7 ?_ (hQ:=λ_ _ _=>f _ _ _ _ _);refine htk 8 ?_ (hQ:=λ_ _ _=>f _ _ _ _ _);refine htk 9 ?_ (hQ:=λ_ _ _=>f _ _ _ _ _);refine htk 11 ?_ (hQ:=λ_ _ _=>f _ _ _ _ _);refine dA [10,12] ?_;refine AllReadyH.cons rfl (λK p=>?_) ?_;focus go_simp;refine p.out _ _ T λt=>?_;clear p K;refine dA [12] ?_
  rotate_left;focus refine hone λK p=>?_;go_simp;refine p.out _ _ z λt=>?_;clear p K;refine dA [10] ?_
  all_goals refine hone λK p=>?_;go_simp;refine p.out _ _ z λD=>?_;clear p K;refine dA [13] ?_;refine hone λK p=>?_;refine step_append_lies _ rfl (.tmp 54) (.tmp 56) 74 rfl 0 71 A _ 1 8 underlying74 HI.o M.o N.o P.o rfl de (.slice q h r) h xs2 rfl L.o (aD n.heap.size 0) 1 1 [pT b] rfl rfl H.o J.o om (by unfold maxLen;omega) om om _ rfl ?_;intro y k l s e x _;have F:=P4.o l e;have f4:=F.fz;have d4:=F.cell 8;simp[kF]at d4;have d2:=W.o l e;have d5:=G5.o l e;have U:=Z (G.o y k l s e x);clear F s e x;refine p.out _ _ d2 λB=>?_;clear p K;refine htk 14 ?_ (hQ:=λ_ _ _=>f _ _ _ _ _);refine htk 15 ?_ (hQ:=λ_ _ _=>f _ _ _ _ _);refine dA [16] ?_;refine hone λK p=>?_;go_simp;refine p.out _ _ (d5 _) λC=>?_;clear p K;refine wpAnyH_done (by kernel_rfl) ?_ _;exact U.o
set_option linter.unusedSimpArgs false in
theorem Db {X:Type} {g:Nat} {T:TypeId} {o:Nat} {gc:X->Value->Value->Value->Array Value} {fb fc:Value} {S:World->(Nat->Prop)->X->Prop} {bk:X->Bool} {bg cl:X->List Fm->Fm->Nat->X->Prop} {qG:X->List Fm->Fm->Nat->Prop} {S_:X->List Fm->Fm->(Nat->Nat)->Prop} (hL:vx T o fb fc gc) (hG:I7 g T gc fb fc S bk bg cl qG S_)
 {w:World} {D:Nat->Prop} {x:X} {A:Nat->Nat} {C:Nat->Prop} {gs:Gs} {M:Nat->Prop} {t:Tok} (hS:S w D x) (hB:V w g (gc x (dZ A gs.st) (.string (bR gs.nm)) (.int .i64 (gs.ix:Nat))) T) (hM:fO w A C gs.bd gs.st [] M) (hok:UN gs) (ht:eN gs.sh t) (hk:t.k=0\/t.k=3) (hC:∀k,C k->k<w.heap.size) (vj:∀k,D k->¬M k/\¬C k/\k≠g) (hg:¬M g/\¬C g)
 (C5:∀b,qG x gs.st (aB gs t false) b) :
 Calls prog 72 #[.pointer (some (aD g o)),bS t] w (BgP g T gc S A C (aB gs t (bk x)) gs.st M D bg x (.int .i64 (gs.ix:Nat)) w):=by
 obtain ⟨N,first,cap,Df,hE,pN⟩:=hG.Am
 obtain ⟨po,I8⟩:=xK A gs.st
 have hbd:gs.bd<=t.af:=by
  rcases hk with y | y
  ·exact (ht.k0 y).2.2.2.2
  exact (ht.k3 y).2.2.2.2
 have nP:g<w.heap.size:=hB.lt
 obtain ⟨w0,hw0⟩:∃w0,w0=w.alloc (.cells #[.int .i64 (t.k:Nat),.int .i64 (t.of:Nat),.int .i64 (t.af:Nat),.int .i64 (t.to:Nat),.int .i64 t.n,.string (bR (fV t.k t.t))] 108):=⟨_,rfl⟩
 have UT:V w0 w.heap.size #[.int .i64 (t.k:Nat),.int .i64 (t.of:Nat),.int .i64 (t.af:Nat),.int .i64 (t.to:Nat),.int .i64 t.n,.string (bR (fV t.k t.t))] 108:=by rw [hw0]; exact V.new w _ _
 have K0:Q w w0:=by rw [hw0]; exact (Fr.refl _ w).alloc _
 have B0:=hB.fr K0 id
 have tc1:=UT.cell 1
 have tc2:=UT.cell 2
 have tc4:=UT.cell 4
 have tc5:=UT.cell 5
 simp at tc1 tc2 tc4 tc5
 have gc2:=hL.c2 B0
 have gc3:=hL.c3 B0
 have gc4:=hL.c4 B0
 rw [I8] at gc2
 -- the value has a block of its own
 obtain ⟨W1,mQ⟩:∃W1,W1=(w0.alloc (.cells #[.int .i64 (t.of:Nat),.int .i64 (t.af:Nat),.int .i64 0,.int .i64 t.n,.string (bR (fV t.k t.t)),.pointer po,.int .i64 (gs.ix:Nat),.string (bR gs.nm),.slice none 0 0] 130)).drew:=⟨_,rfl⟩
 obtain ⟨b,hb⟩:∃b,b=w0.heap.size:=⟨_,rfl⟩
 have hwb:w.heap.size<b:=by rw [hb,hw0]; simp
 have KW1:Q w0 W1:=by rw [mQ]; exact ((Fr.refl _ w0).alloc _).drew
 have K1:Q w W1:=K0.trans KW1
 have BV:V W1 b (kF (bK gs t) (dZ A gs.st) gs.ix (.slice none 0 0)) 130:=by
  rw [xL ht hk,I8,mQ,hb]
  exact V.new w0 _ _
 have YT:b<W1.heap.size:=BV.lt
 have B1:=hB.fr K1 id
 have FM1:fO W1 (fH A t.af b) C (t.af+1) (aB gs t false::gs.st) [] (λk=>k=b\/M k):=hM.new hC (f:=aB gs t false) om BV K1 hbd rfl rfl (OU ht hk)
 have eA:fH A t.af b t.af=b:=tW _ _ _
 have S1:S W1 D x:=hG.keep hS (λk hk=>K1.block k (hG.lt hS hk) id) K1.size
 have UL:=B1.fz
 have t3:=hL.c3 B1
 -- its name is gone
 obtain ⟨W2,nQ⟩:∃W2,W2=W1.setCell (aD g (o+3)) (.string ⟨#[]⟩):=⟨_,rfl⟩
 have K2:Fr (λk=>k=g) W1 W2:=by rw [nQ]; exact (Fr.refl (λk=>k=g) W1).setCell (aD g (o+3)) (Y rfl) _
 have B2:V W2 g (gc x (dZ A gs.st) (.string (bR [])) (.int .i64 (gs.ix:Nat))) T:=by rw [nQ]; exact hL.s3 _ B1
 have gc0:=hL.c0 B2
 rw [nQ,Df] at gc0
 have hg1:¬(g=b\/M g)/\¬C g:=⟨λy=>y.elim (λe=>by omega) hg.1,hg.2⟩
 have U8:∀k,D k->¬(k=b\/M k)/\¬C k/\k≠g:=λk hk=>⟨λy=>y.elim (λe=>by have:=hG.lt hS hk; omega) (vj k hk).1,(vj k hk).2⟩
 have hC1:∀k,C k->k<W1.heap.size:=λk hk=>aI (hC k hk) K1.size
 have FM2:fO W2 (fH A t.af b) C (t.af+1) (aB gs t false::gs.st) [] (λk=>k=b\/M k):=FM1.fr hC1 K2 (λk e=>by rw [e]; exact hg1)
 have S2:S W2 D x:=hG.keep S1 (λk hk=>K2.block k (hG.lt S1 hk) (λe=>(vj k hk).2.2 e)) K2.size
 have hC2:∀k,C k->k<W2.heap.size:=λk hk=>aI (hC1 k hk) K2.size
 have hl:gs.st.length<=8:=hok.len
 have CC:=pN S2 B2 FM2 hl hC2 U8 hg1 (C5 _)
 rw [show fH A t.af b (aB gs t false).d.af=b from eA] at CC
 have F2:Fr (λk=>D k\/M k\/k=g) w W2:=(K1.mono (λk _ e=>e.elim)).trans (K2.mono (λk _ e=>I (I e)))
 have acM:b<W2.heap.size:=aI YT K2.size
 -- behind the one who was told
 have U9:Hid (∀(D':Nat->Prop) (x':X) (w3:World),S w3 D' x'->(∀k,D' k->D k\/W2.heap.size<=k)->Fr (λk=>D k\/k=g) W2 w3 ->
  fO w3 (fH A t.af b) C (t.af+1) (aB gs t false::gs.st) [] (λk=>k=b\/M k)/\(∀k,D' k->¬(k=b\/M k))/\(∀k,D' k->D k\/w.heap.size<=k)/\Fr (λk=>D k\/M k\/k=g) w w3/\(∀k,D' k->k<w3.heap.size)/\(∀k,C k->k<w3.heap.size)):=λD' x' w3 s3 d3 f3=>by
  refine ⟨FM2.fr hC2 f3 (λk e=>?_),λk hk e=>?_,λk hk=>?_,F2.trans (f3.mono (λk _ e=>?_)),λk hk=>hG.lt s3 hk,λk hk=>aI (hC2 k hk) f3.size⟩
  ·grind
  ·rcases d3 k hk with y | y
   ·exact (U8 k y).1 e
   have:=(FM2.lt k e).1; omega
  ·grind
  grind
 have GC2:Hid (∀{w3:World} {x3:X} {nm ix:Value},V w3 g (gc x3 (dZ A gs.st) nm ix) T->w3.cell? (aD g (o+2))=some (.pointer po)):=λh3=>by rw [<-I8]; exact hL.c2 h3
 have HPO:=Z I8
 have HA:Hid (fH A t.af b t.af=b/\∀k,k<t.af->fH A t.af b k=A k):=⟨eA,λk hk=>vw A om⟩
 have HPP:Hid (dZ (fH A t.af b) gs.st=dZ A gs.st):=nJ (λk hk=>vw A om) hM
 have YU:Hid (∀{w w':World} {D:Nat->Prop} {x:X},S w D x->Sm D w w'->w.heap.size<=w'.heap.size->S w' D x):=hG.keep
 have HG1:=Z hg1
 have HWS:Hid (∀p q,gs.st=p::q->p.ws.length<=4000000):=λp q e=>by
  have a1:=hok.ws
  rw [e] at a1
  have a2:=a1.1
  have a3:=hok.ix
  have a4:=hok.bd
  omega
 have HCC:=Z CC
 have UO:=Z hw0
 have me:=Z mQ
 have Cs:=Z nQ
 have HB:=Z hb
 have HFB:=Z Df
 clear hw0 UT K0 B0 pN hS hB hM hok ht hk hC vj hg C5 hbd I8 hG hL KW1 K1 BV YT B1 FM1 eA S1 K2 B2 hg1 U8 hC1 FM2 S2 hC2 CC F2 acM hb mQ nQ Df
 unfold bS
 go_enter func72,ntmps72
 go_wp2
 rw [<-UO.o]
 go_region
 all_goals
  rw [<-me.o,<-HB.o]
  clear tc1 tc2 tc4 tc5 gc2 gc3 gc4
  go_wp2_with fail
  rw [<-Cs.o]
  refine HCC.o.mono ?_
  rintro res w3 ⟨rfl,D',x',UU,hs3,U_,hd3,hf3⟩
  have A3:=Z (U9.o D' x' w3 hs3 hd3 hf3)
  have S3:=Z hs3
  have X3:=Z UU
  have B3:=Z U_
  have e2:=GC2.o U_
  clear hs3 U_ hd3 hf3 UL t3 gc0 UU
  cases hbk:bk x
  ·go_wp2
   go_ret
   rw [hbk]
   exact ⟨b,fH A t.af b,λk=>k=b\/M k,D',x',rfl,om,HA.o.1,HA.o.2,X3.o,S3.o,B3.o,A3.o.1,λk hk=>hk.elim (λe=>I om) Y,A3.o.2.2.1,A3.o.2.1,A3.o.2.2.2.1⟩
  by_cases hst:gs.st=[]
  ·have hp0:po=none:=by
    have:=HPO.o
    rw [hst] at this
    injection this with e
    exact e.symm
   subst hp0
   have FK:Hid (fO w3 (fH A t.af b) C (t.af+1) (aB gs t true::gs.st) [] (λk=>k=b\/M k)):=by
    have:=A3.o.1
    unfold Hid
    rw [hst] at this ⊢
    exact this.YG true
   clear hst
   go_wp2
   go_ret
   rw [hbk]
   exact ⟨b,fH A t.af b,λk=>k=b\/M k,D',x',rfl,om,HA.o.1,HA.o.2,X3.o,S3.o,B3.o,FK.o,λk hk=>hk.elim (λe=>I om) Y,A3.o.2.2.1,A3.o.2.1,A3.o.2.2.2.1⟩
  obtain ⟨p,q,hpq⟩:∃p q,gs.st=p::q:=by
   cases hgs:gs.st with
   | nil=>exact absurd hgs hst
   | cons p q=>exact ⟨p,q,rfl⟩
  have hwl:=HWS.o p q hpq
  have hfm:=A3.o.1
  rw [hpq] at hfm
  obtain ⟨a2,c2,tb,to,tnb,tM,tsM,tk⟩:=fO.top hfm rfl A3.o.2.2.2.2.2
  have eAb:fH A t.af b (aB gs t false).d.af=b:=HA.o.1
  rw [eAb] at tM tsM tk
  have acR:po=(sA (fH A t.af b p.d.af)):=by
   have e1:=HPP.o
   rw [HPO.o,hpq] at e1
   have e1:lF (fH A t.af b p.d.af)=.pointer po:=e1
   injection e1 with e1
   exact e1.symm
  subst acR
  have e8:w3.cell? (aD (fH A t.af b p.d.af) 8)=some (.slice a2 p.ws.length c2):=tb.cell 8
  have Aw:=tb.lt
  have KR:Q w3 (w3.alloc (.cells #[pT b] 71)).drew:=((Fr.refl _ w3).alloc _).drew
  have HOr:Hid ((w3.alloc (.cells #[pT b] 71)).drew.ownsRow 0 71 1 (.slice a2 p.ws.length c2) p.ws.length (p.ws.map (jf (fH A t.af b)))):=aQ to (λk hk=>KR.block k (to.lt k hk).2 id)
  have P4:Hid (∀w4,(w3.alloc (.cells #[pT b] 71)).drew.grownBy w4 (Value.slice a2 p.ws.length c2).ownBlock->V w4 (fH A t.af b p.d.af) (kF p.d (dZ (fH A t.af b) q) p.ix (.slice a2 p.ws.length c2)) 130):=λw4 Jy=>by
   show w4.heap[fH A t.af b p.d.af]?=_
   rw [Jy.block _ (aI Aw KR.size) (λe=>tnb e.symm),KR.block _ Aw id]
   exact tb
  have Fk:Hid (∀g4 mW w4,w4.ownsRow 0 71 1 (.slice (sA g4) (p.ws.length+1) mW) (p.ws.length+1) (p.ws.map (jf (fH A t.af b))++[pT b])->(w3.alloc (.cells #[pT b] 71)).drew.grownBy w4 (Value.slice a2 p.ws.length c2).ownBlock->((Value.slice a2 p.ws.length c2).ownBlock=some g4\/g4=(w3.alloc (.cells #[pT b] 71)).drew.heap.size) ->
   BgP g T gc S A C (aB gs t true) gs.st M D bg x (.int .i64 (gs.ix:Nat)) w (.returned (pT b)) (w4.setCell (aD (fH A t.af b p.d.af) 8) (.slice (sA g4) (p.ws.length+1) mW))):=λg4 mW w4 ho Jy q_=>by
   obtain ⟨M2,r1,r2,r3⟩:=tk (w3.alloc (.cells #[pT b] 71)).drew w4 (.slice (sA g4) (p.ws.length+1) mW) KR Jy ho (q_.elim (λe=>Y e.symm) (λe=>I (by rw [e]; rfl)))
   refine UM (M1:=λk=>k=b\/M k) YU.o (mR hwb) HA.o.1 HA.o.2 X3.o S3.o B3.o A3.o.2.2.2.1 A3.o.2.2.1 A3.o.2.2.2.2.1 A3.o.2.1 (by rw [hpq]; exact r1) r2 (λk hk=>hk.elim (λe=>I om) Y) r3 (λk hk=>?_) HG1.o.1
   rcases hk with e | e
   ·grind
   grind
  have e2a:(w3.alloc (.cells #[pT b] 71)).cell? (aD g (o+2))=some (pT (fH A t.af b p.d.af)):=GC2.o (B3.o.alloc _)
  have e8a:(w3.alloc (.cells #[pT b] 71)).cell? (aD (fH A t.af b p.d.af) 8)=some (.slice a2 p.ws.length c2):=(tb.alloc _).cell 8
  have G4:Hid (∀w4,(w3.alloc (.cells #[pT b] 71)).drew.grownBy w4 (Value.slice a2 p.ws.length c2).ownBlock->w4.cell? (aD g (o+2))=some (pT (fH A t.af b p.d.af))):=λw4 Jy=>by
   have hb:V w4 g (gc x' (dZ A gs.st) (.string (bR [])) (.int .i64 (gs.ix:Nat))) T:=by
    show w4.heap[g]?=_
    rw [Jy.block g (aI B3.o.lt KR.size) (λe=>HG1.o.1 (tsM g e.symm).1),KR.block g B3.o.lt id]
    exact B3.o
   exact GC2.o hb
  have hgb:g≠fH A t.af b p.d.af:=λe=>HG1.o.1 (e▸tM.1)
  have YV:Hid (∀(j:Nat) (u:Value),[pT b][j]?=some u->(w3.alloc (.cells #[pT b] 71)).drew.cell? (((aD w3.heap.size 0):Addr).add j)=some u):=by
   intro j u hj
   match j,hj with
   | 0,hj=>simp at hj; subst hj; simp [Addr.add]
  have YW:Hid (∀u ∈ [pT b],u.oneCell'=true):=by
   intro u hu; simp at hu; subst hu; rfl
  have G5:Hid (∀w4,(w3.alloc (.cells #[pT b] 71)).drew.grownBy w4 (Value.slice a2 p.ws.length c2).ownBlock->∀v,(w4.setCell (aD (fH A t.af b p.d.af) 8) v).cell? (aD g (o+2))=some (pT (fH A t.af b p.d.af))):=λw4 Jy v=>by
   rw [<-G4.o w4 Jy]
   exact World.cell?_of_block (Below.heap_setCell _ _ _ _ (λe=>hgb e))
  obtain ⟨i0,hi0,hz0,hz1,eE⟩:=info_parts Jz
  have HI:=Z hi0
  have iK:=Z hz0
  have iz:=Z hz1
  have ja:=Z eE
  clear hfm tb to tnb tM tsM tk KR hi0 hz0 hz1 eE hst hpq eAb
  generalize fH A t.af b p.d.af=bp at *
  go_wp2
  refine acK (xs2:=p.ws.map (jf (fH A t.af b))) e2 e8 e2a e8a (λ_ _ _ _ _ hq=>hq) hwl HI iK iz ja HOr YV YW P4 G4 G5 ?_
  intro g4 mW w4 ho Jy q_
  have F4:=Z (Fk.o g4 mW w4 ho Jy q_)
  clear ho Jy q_
  go_wp2
  go_ret
  rw [hbk]
  exact F4.o
