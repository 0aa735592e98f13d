import Derived.Test.YtcbadebjpogmlaaGreatDoorVsSq
import Derived.Test.YtcbadebjpogmlaaGreatDoorProg
import Derived.Shelf.LaysM
import Derived.Shelf.LaysC
import Derived.Shelf.Strconv.Itoa3
import Derived.Shelf.Strings.Replace
import Derived.Shelf.Small.Strs
set_option maxHeartbeats 2000000
set_option maxRecDepth 100000
namespace Go.Proofs.YtcbadebjpogmlaaGreatDoor
open Go.RowKit Tr
theorem vp (k:Nat) (l:List UInt8) (b:UInt8):fK k (l++[b])=if k=3/\9<=(fK k l).length then fK k l else fK k l++[b]:=by
 unfold fK
 by_cases h:k=3
 ·rw [if_pos h,if_pos h]
  by_cases h9:9<=l.length
  ·have:9<=(l.take 9).length:=by simp; omega
   rw [if_pos ⟨h,this⟩,List.take_append_of_le_length h9]
  have:¬9<=(l.take 9).length:=by simp; omega
  rw [if_neg (λ x=>this x.2),List.take_of_length_le (by simp; omega),List.take_of_length_le (by omega)]
 rw [if_neg h,if_neg h,if_neg (λ x=>h x.1)]
theorem No (k:Nat) (l:List UInt8):(fK k l).length<=l.length:=by
 unfold fK
 split
 ·simp; omega
 exact Nat.le_refl _
theorem jQ {S:World->(Nat->Prop)->List Tok->Prop} {V:List Tok->Tok->Prop} {tell:Value} (hS:fG tell S V) {w:World} {r s0:Nat} {z:Sn} {ts:List Tok} {E:Nat->Prop} (h:RM S tell r s0 z ts E w) (hk:z.tk.k=2\/z.tk.k=3) (hx:z.tx.length<=4000000) (b:Nat) (hb:b<256) :
 Calls Tryz.prog 175 #[.pointer (some ⟨r,0,none⟩),.int .u8 (b:Int)] w (RP S tell r s0 (dZ z b) ts E w):=by
 obtain ⟨ov,bp,bv,D,h1,h2,h3,h4⟩:=h.ex
 have c3:w.cell? ⟨r,3,none⟩=some (.int .i64 (z.tk.k:Nat)):=h1.b.cell 3
 have hlx:=No z.tk.k z.tx
 -- the byte is written
 have WR:(Hid (¬(z.tk.k=3/\9<=(fK z.tk.k z.tx).length)))->Hid (Calls Tryz.prog 221 #[.pointer (some ⟨r,9,none⟩),.int .u8 (b:Int)] w λ res w'=>res=.returned .nilIface/\∃E',RM S tell r s0 (dZ z b).z ts E' w'/\Ev E w E' w'):=λ hn=>by
  refine (yA (l:=fK z.tk.k z.tx) h1.b rfl rfl rfl h1.p h1.t (by omega) b hb).mono ?_
  rintro res w' ⟨rfl,v',g1,g2,g3,g4⟩
  have kb:∀k,k<w.heap.size->k≠r->bv.ownBlock≠some k->w'.heap[k]?=w.heap[k]?:=λ k hk Np hn2=>g3.block k hk (λ x=>x.elim Np hn2)
  have Uh:∀k,ov.ownBlock=some k->k≠r/\bv.ownBlock≠some k:=λ k hk=>by
   refine ⟨λ e=>by have:=(h1.o.lt k hk).1; omega,λ e=>?_⟩
   rcases h1.o.2 with ⟨x,_⟩ | ⟨g5,cp5,cu5,x5,_,x6,_⟩
   ·rw [x] at hk; cases hk
   rcases h1.t.2 with ⟨y,_⟩ | ⟨g7,cp7,cu7,y7,_,y8,_⟩
   ·rw [y] at e; cases e
   rw [x5] at hk; rw [y7] at e
   have e1:g5=k:=Option.some.inj hk
   have e2:g7=k:=Option.some.inj e
   subst e1
   subst e2
   rw [x6] at y8
   injection y8 with y8
   injection y8 with _ y9 _
   exact absurd y9 (by decide)
  refine ⟨rfl,λ k=>k=r\/ov.ownBlock=some k\/v'.ownBlock=some k\/D k,⟨ov,.pointer (some ⟨r,9,none⟩),v',D,⟨g1,bJ h1.o (λ k hk=>kb k (h1.o.lt k hk).2 (Uh k hk).1 (Uh k hk).2),?_,Or.inr rfl,?_⟩,hS.keep h2 (λ k hk=>kb k (hS.lt h2 hk) (h3 k hk).1 (h3 k hk).2.2) g3.size,λ k hk=>?_,λ_=>Iff.rfl⟩,⟨λ k hk=>?_,g3.mono (λ k _ x=>(h4 k).2 (x.elim Or.inl (λ y=>Or.inr (Or.inr (Or.inl y)))))⟩⟩
  ·show World.ownsRow _ _ _ _ _ (fK z.tk.k (z.tx++[UInt8.ofNat b])).length (Lib.byteCells (fK z.tk.k (z.tx++[UInt8.ofNat b])))
   rw [vp,if_neg hn.out]
   exact g2
  ·show fK z.tk.k (z.tx++[UInt8.ofNat b])=[]->_
   rw [vp,if_neg hn.out]
   intro e
   simp at e
  ·refine ⟨(h3 k hk).1,(h3 k hk).2.1,λ e=>?_⟩
   rcases g4 with x | ⟨k2,x,y⟩
   ·rw [x] at e; exact (h3 k hk).2.2 e
   rw [x] at e
   have:k2=k:=Option.some.inj e
   have:=hS.lt h2 hk
   omega
  rcases hk with x | x | x | x
  ·exact Or.inl ((h4 k).2 (Or.inl x))
  ·exact Or.inl ((h4 k).2 (Or.inr (Or.inl x)))
  ·rcases g4 with y | ⟨k2,y,y2⟩
   ·rw [y] at x; exact Or.inl ((h4 k).2 (Or.inr (Or.inr (Or.inl x))))
   rw [y] at x
   have:k2=k:=Option.some.inj x
   exact Or.inr (by omega)
  exact Or.inl ((h4 k).2 (Or.inr (Or.inr (Or.inr x))))
 obtain ⟨ao,cp,Kx⟩:=ah h1.t
 have LN:=aa (Xo (w:=w) h1.b (show (vL s0 z ov bp bv tell)[10]?=some (.slice ao (fK z.tk.k z.tx).length cp) from congrArg some Kx))
 have fin:∀W:World,W=w->fK z.tk.k (z.tx++[UInt8.ofNat b])=fK z.tk.k z.tx->RP S tell r s0 (dZ z b) ts E w (.returned (.int .i64 6)) W:=λ W hW e=>by
  subst hW
  refine ⟨rfl,E,?_,Ev.refl _ _⟩
  show RM _ _ _ _ _ (ts++[]) _ _
  rw [List.append_nil]
  exact ⟨ov,bp,bv,D,⟨h1.b,h1.o,by show World.ownsRow _ _ _ _ _ (fK z.tk.k (z.tx++[UInt8.ofNat b])).length (Lib.byteCells (fK z.tk.k (z.tx++[UInt8.ofNat b]))); rw [e]; exact h1.t,h1.p,by show fK z.tk.k (z.tx++[UInt8.ofNat b])=[]->_; rw [e]; exact h1.e⟩,h2,h3,h4⟩
 have Bj:=aa fin
 have HA:=aa (vp z.tk.k z.tx (UInt8.ofNat b))
 clear h h1 h2 h3 h4 hS fin
 generalize hL:(fK z.tk.k z.tx).length=L at *
 rcases hk with hk | hk
 ·rw [hk] at c3
  have W1:=WR (λ x=>by rw [hk] at x; exact absurd x.1 (by decide))
  clear WR hL Kx HA hk Bj
  go_enter Tryz.func175,Tryz.ntmps175
  go_wp2_with fail
  refine (W1.out).mono ?_
  rintro res w1 ⟨rfl,E1,hM,hE⟩
  have M1:=aa hM
  have ou:=aa hE
  clear hM hE
  go_wp2
  go_ret
  exact ⟨rfl,E1,by show RM _ _ _ _ _ (ts++[]) _ _; rw [List.append_nil]; exact M1.out,ou.out⟩
 rw [hk] at c3
 by_cases h9:9<=L
 ·have e:=HA.out
  rw [if_pos ⟨hk,by omega⟩] at e
  have F1:=aa (Bj.out w rfl e)
  have l9:¬(L:Int)<9:=by omega
  clear WR hL Kx HA hk Bj e
  go_enter Tryz.func175,Tryz.ntmps175
  go_wp2_with fail
  refine (LN.out).mono ?_
  rintro res w1 ⟨rfl,rfl⟩
  go_wp2
  go_ret
  exact F1.out
 have W1:=WR (λ x=>by have:=x.2; omega)
 have l9:(L:Int)<9:=by omega
 clear WR hL Kx HA hk Bj
 go_enter Tryz.func175,Tryz.ntmps175
 go_wp2_with fail
 refine (LN.out).mono ?_
 rintro res w1 ⟨rfl,rfl⟩
 go_wp2_with fail
 refine (W1.out).mono ?_
 rintro res w1 ⟨rfl,E1,hM,hE⟩
 have M1:=aa hM
 have ou:=aa hE
 clear hM hE
 go_wp2
 go_ret
 exact ⟨rfl,E1,by show RM _ _ _ _ _ (ts++[]) _ _; rw [List.append_nil]; exact M1.out,ou.out⟩
theorem yB {S:World->(Nat->Prop)->List Tok->Prop} {V:List Tok->Tok->Prop} {tell:Value} (hS:fG tell S V) {w:World} {r s0:Nat} {z:Sn} {ts:List Tok} {E:Nat->Prop} (h:RM S tell r s0 z ts E w) (hk:z.tk.k=2\/z.tk.k=3) (bN:z.at'<=4000000) (hV:VL V ts (fP z).ts) :
 Calls Tryz.prog 174 #[.pointer (some ⟨r,0,none⟩)] w (RP S tell r s0 (fP z) ts E w):=by
 obtain ⟨ov,bp,bv,D,h1,h2,h3,h4⟩:=h.ex
 obtain ⟨N,first,zl,mZ,hE,cV⟩:=RM.tell hS
 have ST:=aa (JL h1.b rfl h1.t h1.e)
 obtain ⟨z1,hz1⟩:∃z1:Sn,z1={ z with st:=4,tk:={ z.tk with t:=z.tx },tx:=[] }:=⟨_,rfl⟩
 have Uh:∀k,ov.ownBlock=some k->k≠r/\bv.ownBlock≠some k:=λ k hk=>by
  refine ⟨λ e=>by have:=(h1.o.lt k hk).1; omega,λ e=>?_⟩
  rcases h1.o.2 with ⟨x,_⟩ | ⟨g5,cp5,cu5,x5,_,x6,_⟩
  ·rw [x] at hk; cases hk
  rcases h1.t.2 with ⟨y,_⟩ | ⟨g7,cp7,cu7,y7,_,y8,_⟩
  ·rw [y] at e; cases e
  rw [x5] at hk; rw [y7] at e
  have e1:g5=k:=Option.some.inj hk
  have e2:g7=k:=Option.some.inj e
  subst e1
  subst e2
  rw [x6] at y8
  injection y8 with y8
  injection y8 with _ y9 _
  exact absurd y9 (by decide)
 have bvn:∀k,bv.ownBlock=some k->k≠r:=λ k hk e=>by have:=(h1.t.lt k hk).1; omega
 have B1:Hid (∀w1,Fr (λ k=>bv.ownBlock=some k) w w1->ay w1 r (vL s0 z ov bp bv tell) 115):=λ w1 f1=>h1.b.fr f1 (λ e=>bvn r e rfl)
 have Xp:Hid (∀w1,ay w1 r ((vL s0 z ov bp bv tell).setIfInBounds 8 (.string (bZ (fK z.tk.k z.tx)))) 115->Calls Tryz.prog 219 #[.pointer (some ⟨r,9,none⟩)] w1 λ res w'=>res=.returned (.tuple #[])/\ay w' r (vL s0 z1 ov (.pointer none) (.slice none 0 0) tell) 115/\Fr (λ k=>k=r) w1 w'):=λ w1 b1=>by
  refine (Nq b1 rfl rfl).mono ?_
  rintro res w' ⟨rfl,g1,g2⟩
  exact ⟨rfl,by rw [hz1]; exact g1,g2⟩
 have Bj:Hid (∀w2,ay w2 r (vL s0 z1 ov (.pointer none) (.slice none 0 0) tell) 115->Fr (λ k=>k=r\/bv.ownBlock=some k) w w2->∃E',RM S tell r s0 z1 ts E' w2/\Ev E w E' w2):=λ w2 b2 f2=>by
  have kb:∀k,k<w.heap.size->k≠r->bv.ownBlock≠some k->w2.heap[k]?=w.heap[k]?:=λ k hk Np hn2=>f2.block k hk (λ x=>x.elim Np hn2)
  refine ⟨λ k=>k=r\/ov.ownBlock=some k\/(.slice none 0 0:Value).ownBlock=some k\/D k,⟨ov,.pointer none,.slice none 0 0,D,⟨b2,?_,?_,Or.inl rfl,λ_=>rfl⟩,hS.keep h2 (λ k hk=>kb k (hS.lt h2 hk) (h3 k hk).1 (h3 k hk).2.2) f2.size,λ k hk=>⟨(h3 k hk).1,(h3 k hk).2.1,λ e=>by cases e⟩,λ_=>Iff.rfl⟩,⟨λ k hk=>Or.inl ((h4 k).2 ?_),f2.mono (λ k _ x=>(h4 k).2 (x.elim Or.inl (λ y=>Or.inr (Or.inr (Or.inl y)))))⟩⟩
  ·rw [hz1]; exact bJ h1.o (λ k hk=>kb k (h1.o.lt k hk).2 (Uh k hk).1 (Uh k hk).2)
  ·rw [hz1]
   have e0:fK z.tk.k ([]:List UInt8)=[]:=by unfold fK; split<;>rfl
   show World.ownsRow _ _ _ _ _ (fK z.tk.k []).length (Lib.byteCells (fK z.tk.k []))
   rw [e0]
   exact World.ownsRow_nil _ _ _ _
  rcases hk with x | x | x | x
  ·exact Or.inl x
  ·exact Or.inr (Or.inl x)
  ·cases x
  exact Or.inr (Or.inr (Or.inr x))
 have hZ:=aa hz1
 have fz:=h1.b.fz
 have c8:(vL s0 z ov bp bv tell)[8]?=some (.string (bZ (fK z.tk.k z.tk.t))):=rfl
 have C8:=aa c8
 have C3:Hid (∀W,ay W r (vL s0 z1 ov (.pointer none) (.slice none 0 0) tell) 115->W.cell? ⟨r,3,none⟩=some (.int .i64 (z.tk.k:Nat))):=λ W hW=>by
  have:=hW.cell 3
  rw [hz1] at this
  exact this
 have CC:Hid (∀E W,RM S tell r s0 z1 ts E W->(W.cell? ⟨r,14,none⟩=some tell/\W.cell? ⟨r,3,none⟩=some (.int .i64 (z1.tk.k:Nat))/\W.cell? ⟨r,4,none⟩=some (.int .i64 (z1.tk.of:Nat))/\W.cell? ⟨r,5,none⟩=some (.int .i64 (z1.tk.ai:Nat))/\W.cell? ⟨r,6,none⟩=some (.int .i64 (z1.tk.to:Nat))/\W.cell? ⟨r,7,none⟩=some (.int .i64 z1.tk.n)/\W.cell? ⟨r,8,none⟩=some (.string (bZ (fK z1.tk.k z1.tk.t))))):=λ E W hW=>by
  obtain ⟨_,_,_,y⟩:=hW.rs
  exact ⟨y.b.cell 14,y.b.cell 3,y.b.cell 4,y.b.cell 5,y.b.cell 6,y.b.cell 7,y.b.cell 8⟩
 have DR:Hid (∀E W n,RM S tell r s0 z1 ts E W->RM S tell r s0 z1 ts E (W.drewN n)):=λ E W n hW=>RM.drewN hS hW n
 have NM:Hid (z.tk.k=2->V ts z1.tk/\fP z=⟨z1,[z1.tk]⟩):=λ hk2=>by
  have e:fP z=⟨z1,[z1.tk]⟩:=by unfold fP; rw [if_neg (by omega),hz1]
  rw [e] at hV
  exact ⟨hV.1,e⟩
 have PL:Hid (z.tk.k=3->∀E W,RM S tell r s0 z1 ts E W->Calls Tryz.prog 180 #[.pointer (some ⟨r,0,none⟩)] W (RP S tell r s0 (fP z) ts E W)):=λ qm E W hW=>by
  have e:fP z=eJ { z with tk:={ z.tk with t:=z.tx },tx:=[] }:=by unfold fP; rw [if_pos qm]
  rw [e] at hV ⊢
  rw [hz1] at hW
  exact rD hS (hW.st z.st) bN hV
 have TE:Hid (V ts z1.tk->∀E W,RM S tell r s0 z1 ts E W->Calls Tryz.prog N (first.push (gD z1.tk)++zl) W λ res w'=>res=.returned (.tuple #[])/\∃E',RM S tell r s0 z1 (ts++[z1.tk]) E' w'/\Ev E W E' w'):=λ hv E W hW=>cV _ hW hv
 clear cV h h1 h2 h3 h4 hV hS Uh bvn hz1 c8
 subst mZ
 go_enter Tryz.func174,Tryz.ntmps174
 go_wp2_with fail
 refine (ST.out).mono ?_
 rintro res w1 ⟨rfl,hf1⟩
 have b1:=B1.out w1 hf1
 have d8:w1.cell? ⟨r,8,none⟩=some (.string (bZ (fK z.tk.k z.tk.t))):=(b1.cell 8).trans C8.out
 have Qf:=b1.fz
 have BB:=aa b1
 have F1:=aa hf1
 clear b1 hf1 ST B1 fz
 go_wp2_with fail
 refine (Xp.out _ (BB.out.set 8 _)).mono ?_
 rintro res w2 ⟨rfl,g1,g2⟩
 have f2:Fr (λ k=>k=r\/bv.ownBlock=some k) w w2:=((F1.out.mono (L:=λ k=>k=r\/bv.ownBlock=some k) (λ_ _ x=>Or.inr x)).setCell ⟨r,8,none⟩ (Or.inl (Or.inl rfl)) _).trans (g2.mono (λ_ _ x=>Or.inl x))
 obtain ⟨E2,rW,wq⟩:=Bj.out w2 g1 f2
 have M2:=aa rW
 have rV:=aa wq
 have d3:=C3.out w2 g1
 clear g1 g2 f2 rW wq Bj Xp F1 BB d8 Qf C3
 rcases hk with hk | hk
 ·rw [hk] at d3
  obtain ⟨hv,he⟩:=NM.out hk
  have HE:=aa he
  have HV:=aa hv
  clear NM PL he hv
  go_wp2_with fail
  clear d3 hk
  obtain ⟨e14,e3,e4,e5,e6,e7,e8⟩:=CC.out _ _ M2.out
  clear CC
  unfold gD at TE
  go_region_with (refine (TE.out HV.out _ _ (DR.out _ _ 1 M2.out)).mono ?_; rintro res w3 ⟨rfl,E3,JM,JN⟩; have M3:=aa JM; have La:=aa JN; clear JM JN)
  all_goals
   go_wp2
   go_ret
   rw [HE.out]
   refine ⟨by show _=Ending.returned (.int .i64 (z1.st:Nat)); rw [hZ.out]; rfl,E3,M3.out,(rV.out.drewN 1).trans La.out⟩
 rw [hk] at d3
 have P1:=aa (PL.out hk E2 w2 M2.out)
 clear NM PL CC TE hk
 go_wp2_with fail
 refine (P1.out).mono ?_
 rintro res w3 ⟨rfl,E3,JM,JN⟩
 have M3:=aa JM
 have La:=aa JN
 clear JM JN
 go_wp2
 go_ret
 exact ⟨rfl,E3,M3.out,rV.out.trans La.out⟩
theorem vq {S:World->(Nat->Prop)->List Tok->Prop} {V:List Tok->Tok->Prop} {tell:Value} (hS:fG tell S V) {w:World} {r s0:Nat} {z:Sn} {ts:List Tok} {E:Nat->Prop} (h:RM S tell r s0 z ts E w) (hk:z.tk.k=2\/z.tk.k=3) (hx:z.tx.length<=4000000) (bN:z.at'<=4000000) (b:Nat) (hb:b<256) (hV:VL V ts (gf z b).ts) :
 Calls Tryz.prog 134 #[.pointer (some ⟨r,0,none⟩),.int .u8 (b:Int)] w (RP S tell r s0 (gf z b) ts E w):=by
 have KO:=aa (λ w=>kY (w:=w) b hb)
 have H:=aa h
 rcases fW b with ⟨c,k⟩ | ⟨c,c',k⟩ | ⟨c,k⟩ | ⟨c,k⟩ | ⟨c,c',k⟩ | ⟨c,k⟩ | ⟨c,k⟩ | ⟨c,c',c2,c3,c4,k⟩
 ·have e:gf z b=z.to 12:=by unfold gf; rw [if_pos (by omega)]
  rw [e]
  rw [k] at KO
  clear hV e k h hS c
  go_enter Tryz.func134,Tryz.ntmps134
  go_wp2_with fail
  refine (KO.out _).mono ?_
  rintro res w1 ⟨rfl,rfl⟩
  go_wp2
  go_ret
  exact H.out.to (Ev.refl _ _) 12
 ·have e:gf z b=z.to 12:=by unfold gf; rw [if_pos (by omega)]
  rw [e]
  rw [k] at KO
  clear hV e k h hS c
  go_enter Tryz.func134,Tryz.ntmps134
  go_wp2_with fail
  refine (KO.out _).mono ?_
  rintro res w1 ⟨rfl,rfl⟩
  go_wp2
  go_ret
  exact H.out.to (Ev.refl _ _) 12
 ·have e:gf z b=dZ z b:=by unfold gf; rw [if_neg (by omega),if_neg (by omega),if_neg (by omega)]
  rw [e]
  rw [k] at KO
  have AD:=aa (jQ hS h hk hx b hb)
  clear hV e k h hS c
  go_enter Tryz.func134,Tryz.ntmps134
  go_wp2_with fail
  refine (KO.out _).mono ?_
  rintro res w1 ⟨rfl,rfl⟩
  go_wp2_with fail
  refine (AD.out).mono ?_
  rintro res w1 ⟨rfl,E1,hM,hE⟩
  have M1:=aa hM
  have ou:=aa hE
  clear hM hE
  go_wp2
  go_ret
  exact ⟨rfl,E1,M1.out,ou.out⟩
 ·have e:gf z b=dZ z b:=by unfold gf; rw [if_neg (by omega),if_neg (by omega),if_neg (by omega)]
  rw [e]
  rw [k] at KO
  have AD:=aa (jQ hS h hk hx b hb)
  clear hV e k h hS c
  go_enter Tryz.func134,Tryz.ntmps134
  go_wp2_with fail
  refine (KO.out _).mono ?_
  rintro res w1 ⟨rfl,rfl⟩
  go_wp2_with fail
  refine (AD.out).mono ?_
  rintro res w1 ⟨rfl,E1,hM,hE⟩
  have M1:=aa hM
  have ou:=aa hE
  clear hM hE
  go_wp2
  go_ret
  exact ⟨rfl,E1,M1.out,ou.out⟩
 ·have e:gf z b=dZ z b:=by unfold gf; rw [if_neg (by omega),if_neg (by omega),if_neg (by omega)]
  rw [e]
  rw [k] at KO
  have AD:=aa (jQ hS h hk hx b hb)
  clear hV e k h hS c
  go_enter Tryz.func134,Tryz.ntmps134
  go_wp2_with fail
  refine (KO.out _).mono ?_
  rintro res w1 ⟨rfl,rfl⟩
  go_wp2_with fail
  refine (AD.out).mono ?_
  rintro res w1 ⟨rfl,E1,hM,hE⟩
  have M1:=aa hM
  have ou:=aa hE
  clear hM hE
  go_wp2
  go_ret
  exact ⟨rfl,E1,M1.out,ou.out⟩
 ·have e:gf z b=fP z:=by unfold gf; rw [if_neg (by omega),if_neg (by omega),if_pos c]
  rw [e] at hV ⊢
  rw [k] at KO
  have ES:=aa (yB hS h hk bN hV)
  clear hV e k h hS c
  go_enter Tryz.func134,Tryz.ntmps134
  go_wp2_with fail
  refine (KO.out _).mono ?_
  rintro res w1 ⟨rfl,rfl⟩
  go_wp2_with fail
  refine (ES.out).mono ?_
  rintro res w1 ⟨rfl,E1,hM,hE⟩
  have M1:=aa hM
  have ou:=aa hE
  clear hM hE
  go_wp2
  go_ret
  exact ⟨rfl,E1,M1.out,ou.out⟩
 ·have e:gf z b=z.to 7:=by unfold gf; rw [if_neg (by omega),if_pos c]
  rw [e]
  rw [k] at KO
  clear hV e k h hS c
  go_enter Tryz.func134,Tryz.ntmps134
  go_wp2_with fail
  refine (KO.out _).mono ?_
  rintro res w1 ⟨rfl,rfl⟩
  go_wp2
  go_ret
  exact H.out.to (Ev.refl _ _) 7
 have e:gf z b=dZ z b:=by unfold gf; rw [if_neg (by omega),if_neg (by omega),if_neg (by omega)]
 rw [e]
 rw [k] at KO
 have AD:=aa (jQ hS h hk hx b hb)
 clear hV e k h hS c
 go_enter Tryz.func134,Tryz.ntmps134
 go_wp2_with fail
 refine (KO.out _).mono ?_
 rintro res w1 ⟨rfl,rfl⟩
 go_wp2_with fail
 refine (AD.out).mono ?_
 rintro res w1 ⟨rfl,E1,hM,hE⟩
 have M1:=aa hM
 have ou:=aa hE
 clear hM hE
 go_wp2
 go_ret
 exact ⟨rfl,E1,M1.out,ou.out⟩
theorem sC {S:World->(Nat->Prop)->List Tok->Prop} {V:List Tok->Tok->Prop} {tell:Value} (hS:fG tell S V) {w:World} {r s0:Nat} {z:Sn} {ts:List Tok} {E:Nat->Prop} (h:RM S tell r s0 z ts E w) (hk:z.tk.k=2\/z.tk.k=3) (hx:z.tx.length<=4000000) (b:Nat) (hb:b<256) :
 Calls Tryz.prog 135 #[.pointer (some ⟨r,0,none⟩),.int .u8 (b:Int)] w (RP S tell r s0 (lM z b) ts E w):=by
 have KO:=aa (λ w=>kY (w:=w) b hb)
 have H:=aa h
 have AD:=aa (jQ hS h hk hx b hb)
 by_cases fI:b=34
 ·have e:lM z b=dZ z b:=by unfold lM; rw [if_neg (by omega)]
  rw [e]
  have k:cj b=5:=by rw [fI]; rfl
  rw [k] at KO
  clear e k h hS fI
  go_enter Tryz.func135,Tryz.ntmps135
  go_wp2_with fail
  refine (KO.out _).mono ?_
  rintro res w1 ⟨rfl,rfl⟩
  go_wp2_with fail
  refine (AD.out).mono ?_
  rintro res w1 ⟨rfl,E1,hM,hE⟩
  have M1:=aa hM
  have ou:=aa hE
  clear hM hE
  go_wp2
  go_ret
  exact ⟨rfl,E1,M1.out,ou.out⟩
 by_cases mo:b=92
 ·have e:lM z b=dZ z b:=by unfold lM; rw [if_neg (by omega)]
  rw [e]
  have k:cj b=6:=by rw [mo]; rfl
  rw [k] at KO
  clear e k h hS fI mo
  go_enter Tryz.func135,Tryz.ntmps135
  go_wp2_with fail
  refine (KO.out _).mono ?_
  rintro res w1 ⟨rfl,rfl⟩
  go_wp2_with fail
  refine (KO.out _).mono ?_
  rintro res w1 ⟨rfl,rfl⟩
  go_wp2_with fail
  refine (AD.out).mono ?_
  rintro res w1 ⟨rfl,E1,hM,hE⟩
  have M1:=aa hM
  have ou:=aa hE
  clear hM hE
  go_wp2
  go_ret
  exact ⟨rfl,E1,M1.out,ou.out⟩
 have e:lM z b=z.to 12:=by unfold lM; rw [if_pos ⟨fI,mo⟩]
 rw [e]
 have k5:cj b≠5/\cj b≠6:=by
  rcases fW b with ⟨c,k⟩ | ⟨c,c',k⟩ | ⟨c,k⟩ | ⟨c,k⟩ | ⟨c,c',k⟩ | ⟨c,k⟩ | ⟨c,k⟩ | ⟨c,c',c2,c3,c4,k⟩<;>rw [k]<;>first | exact ⟨by decide,by decide⟩ | omega
 generalize cj b=kk at *
 have n5:((kk:Int) != 5)=true:=by rw [bne_iff_ne]; omega
 have n6:((kk:Int) != 6)=true:=by rw [bne_iff_ne]; omega
 clear e h hS fI mo AD k5
 go_enter Tryz.func135,Tryz.ntmps135
 go_wp2_with fail
 refine (KO.out _).mono ?_
 rintro res w1 ⟨rfl,rfl⟩
 go_wp2_with fail
 refine (KO.out _).mono ?_
 rintro res w1 ⟨rfl,rfl⟩
 go_wp2
 go_ret
 exact H.out.to (Ev.refl _ _) 12
theorem mg {S:World->(Nat->Prop)->List Tok->Prop} {V:List Tok->Tok->Prop} {tell:Value} (hS:fG tell S V) {w:World} {r s0:Nat} {z:Sn} {ts:List Tok} {E:Nat->Prop} (h:RM S tell r s0 z ts E w) (hn:0<=z.tk.n/\z.tk.n<=1000000000) (hz:z.sz<=9) (b:Nat) (hb:af b=true) :
 Calls Tryz.prog 177 #[.pointer (some ⟨r,0,none⟩),.int .u8 (b:Int)] w (RP S tell r s0 (dw z b) ts E w):=by
 obtain ⟨ov,bp,bv,D,h1,h2,h3,h4⟩:=h.ex
 have c7:w.cell? ⟨r,7,none⟩=some (.int .i64 z.tk.n):=h1.b.cell 7
 have c12:w.cell? ⟨r,12,none⟩=some (.int .i64 (z.sz:Nat)):=h1.b.cell 12
 have fz:=h1.b.fz
 have hbd:48<=b/\b<=57:=by simpa [af] using hb
 obtain ⟨v,hv⟩:∃v:Int,v=z.tk.n * 10+((b - 48:Nat):Int):=⟨_,rfl⟩
 have hw1:IntKind.i64.wrap (z.tk.n * 10)=z.tk.n * 10:=IntWalk.i64_in _ (by omega)
 have pM:IntKind.u8.wrap ((b:Int) - 48)=((b - 48:Nat):Int):=by rw [IntWalk.u8_in _ (by omega)]; omega
 have Lg:IntKind.i64.wrap (z.tk.n * 10+((b - 48:Nat):Int))=v:=by rw [IntWalk.i64_in _ (by omega),hv]
 have hw4:IntKind.i64.wrap ((z.sz:Int)+1)=((z.sz+1:Nat):Int):=by rw [IntWalk.i64_in _ (by omega)]; omega
 have f0:∀(a b c:Value),Fr (λ k=>k=r) w (((w.setCell ⟨r,7,none⟩ a).setCell ⟨r,12,none⟩ b).setCell ⟨r,12,none⟩ c):=λ a b c=>(((Fr.refl (λ k=>k=r) w).setCell ⟨r,7,none⟩ (Or.inl rfl) _).setCell ⟨r,12,none⟩ (Or.inl rfl) _).setCell ⟨r,12,none⟩ (Or.inl rfl) _
 have f1:∀(a b:Value),Fr (λ k=>k=r) w ((w.setCell ⟨r,7,none⟩ a).setCell ⟨r,12,none⟩ b):=λ a b=>((Fr.refl (λ k=>k=r) w).setCell ⟨r,7,none⟩ (Or.inl rfl) _).setCell ⟨r,12,none⟩ (Or.inl rfl) _
 have YX:ts++(dw z b).ts=ts:=by show ts++[]=ts; simp
 by_cases h0:v=0
 ·have R:=RM.set (z':=(dw z b).z) (s1:=s0) hS h1 h2 h3 h4 (w':=((w.setCell ⟨r,7,none⟩ (.int .i64 v)).setCell ⟨r,12,none⟩ (.int .i64 ((z.sz+1:Nat):Int))).setCell ⟨r,12,none⟩ (.int .i64 9)) (by
   have:=((h1.b.set 7 (.int .i64 v)).set 12 (.int .i64 ((z.sz+1:Nat):Int))).set 12 (.int .i64 9)
   have e:(dw z b).z={ z with st:=9,tk:={ z.tk with n:=v },sz:=9 }:=by unfold dw; simp only; rw [<-hv,if_pos h0]
   rw [e]
   exact this) (f0 _ _ _) rfl rfl
  have RR:Hid (RP S tell r s0 (dw z b) ts E w (.returned (.int .i64 9)) (((w.setCell ⟨r,7,none⟩ (.int .i64 v)).setCell ⟨r,12,none⟩ (.int .i64 ((z.sz+1:Nat):Int))).setCell ⟨r,12,none⟩ (.int .i64 9))):=⟨rfl,E,by rw [YX]; exact R.1,R.2⟩
  clear h h1 h2 h3 h4 hS R f0 f1 YX hv
  subst h0
  go_enter Tryz.func177,Tryz.ntmps177
  go_wp2
  go_ret
  exact RR.out
 have R:=RM.set (z':=(dw z b).z) (s1:=s0) hS h1 h2 h3 h4 (w':=(w.setCell ⟨r,7,none⟩ (.int .i64 v)).setCell ⟨r,12,none⟩ (.int .i64 ((z.sz+1:Nat):Int))) (by
  have:=(h1.b.set 7 (.int .i64 v)).set 12 (.int .i64 ((z.sz+1:Nat):Int))
  have e:(dw z b).z={ z with st:=9,tk:={ z.tk with n:=v },sz:=z.sz+1 }:=by unfold dw; simp only; rw [<-hv,if_neg h0]
  rw [e]
  exact this) (f1 _ _) rfl rfl
 have RR:Hid (RP S tell r s0 (dw z b) ts E w (.returned (.int .i64 9)) ((w.setCell ⟨r,7,none⟩ (.int .i64 v)).setCell ⟨r,12,none⟩ (.int .i64 ((z.sz+1:Nat):Int)))):=⟨rfl,E,by rw [YX]; exact R.1,R.2⟩
 have n0:(v == 0)=false:=by rw [beq_eq_false_iff_ne]; exact h0
 clear h h1 h2 h3 h4 hS R f0 f1 YX hv h0
 go_enter Tryz.func177,Tryz.ntmps177
 go_wp2
 go_ret
 exact RR.out
theorem SU {R:Ending->World->Prop} {a:Act} {W:World} {g:Nat} {x0 x1 x2 x3 x4 x5:Value} (hd:a.defers=[]) (ha:a.tmps[2]?.getD undef=.pointer (some ⟨g,0,none⟩))
 (hB:ay W g #[x0,x1,x2,x3,x4,x5] 108) (hR:R (.returned (.agg #[x0,x1,x2,x3,x4,x5])) W):bodyPost Tryz.prog Tryz.f74 R .ret a W:=by
 have k0:=hB.cell 0
 have k1:=hB.cell 1
 have k2:=hB.cell 2
 have k3:=hB.cell 3
 have k4:=hB.cell 4
 have k5:=hB.cell 5
 simp at k0 k1 k2 k3 k4 k5
 refine bodyPost_ret (v:=.agg #[x0,x1,x2,x3,x4,x5]) ?_ hd hR
 simp [results,Tryz.results74,go_sem,ha,k0,k1,k2,k3,k4,k5]
theorem wm {w:World} {r s0:Nat} {z:Sn} {tell ov bp bv:Value} (h:RS w r s0 z tell ov bp bv) (hn:0<=z.tk.n/\z.tk.n<=1000000000) (hg:z.sg=1\/z.sg=-1) :
 Calls Tryz.prog 74 #[.pointer (some ⟨r,0,none⟩)] w λ res w'=>res=.returned (gD (cz z))/\ak w w':=by
 have hrl:r<w.heap.size:=h.b.lt
 have c1:w.cell? ⟨r,1,none⟩=some (.int .i64 (z.at':Nat)):=h.b.cell 1
 have c3:w.cell? ⟨r,3,none⟩=some (.int .i64 (z.tk.k:Nat)):=h.b.cell 3
 have c4:w.cell? ⟨r,4,none⟩=some (.int .i64 (z.tk.of:Nat)):=h.b.cell 4
 have c5:w.cell? ⟨r,5,none⟩=some (.int .i64 (z.tk.ai:Nat)):=h.b.cell 5
 have c6:w.cell? ⟨r,6,none⟩=some (.int .i64 (z.tk.to:Nat)):=h.b.cell 6
 have c7:w.cell? ⟨r,7,none⟩=some (.int .i64 z.tk.n):=h.b.cell 7
 have c8:w.cell? ⟨r,8,none⟩=some (.string (bZ (fK z.tk.k z.tk.t))):=h.b.cell 8
 have c13:w.cell? ⟨r,13,none⟩=some (.int .i64 z.sg):=h.b.cell 13
 have hw:IntKind.i64.wrap (z.tk.n * z.sg)=z.tk.n * z.sg:=IntWalk.i64_in _ (by rcases hg with e | e<;>rw [e]<;>omega)
 have pM:wrap64 (z.tk.n * z.sg)=z.tk.n * z.sg:=by rw [<-IntWalk.i64_left]; exact hw
 have eT:gD (cz z)=.agg #[.int .i64 (z.tk.k:Nat),.int .i64 (z.tk.of:Nat),.int .i64 (z.tk.ai:Nat),.int .i64 (z.at':Nat),.int .i64 (z.tk.n * z.sg),.string (bZ (fK z.tk.k z.tk.t))]:=rfl
 rw [eT]
 clear h hn hg eT
 generalize bZ (fK z.tk.k z.tk.t)=tx at *
 generalize z.tk.k=a1 at *
 generalize z.tk.of=a2 at *
 generalize z.tk.ai=a3 at *
 generalize z.tk.to=a4 at *
 generalize z.at'=a5 at *
 generalize z.tk.n=a6 at *
 generalize z.sg=a7 at *
 go_enter Tryz.func74,Tryz.ntmps74
 go_wp2
 go_region
 all_goals
  go_wp2
  refine SU rfl rfl ((ay.new w _ 108).alloc _) ?_
  exact ⟨rfl,(((Fr.refl _ w).alloc _).alloc _).drew⟩
theorem RM.keeps {S:World->(Nat->Prop)->List Tok->Prop} {f:Value} {V:List Tok->Tok->Prop} (hS:fG f S V) {tell:Value} {r s0:Nat} {z:Sn} {ts:List Tok} {E:Nat->Prop} {w w':World} (h:RM S tell r s0 z ts E w) (k:ak w w'):RM S tell r s0 z ts E w'/\Ev E w E w':=by
 obtain ⟨ov,bp,bv,D,h1,h2,h3⟩:=h.ex
 exact ⟨⟨ov,bp,bv,D,⟨h1.b.fr k id,aW h1.o k (λ_ _ x=>x),aW h1.t k (λ_ _ x=>x),h1.p,h1.e⟩,hS.keep h2 (λ q hq=>k.block q (hS.lt h2 hq) id) k.size,h3⟩,⟨λ_=>Or.inl,k.mono (λ_ _ x=>x.elim)⟩⟩
theorem m_ {S:World->(Nat->Prop)->List Tok->Prop} {V:List Tok->Tok->Prop} {tell:Value} (hS:fG tell S V) {w:World} {r s0:Nat} {z:Sn} {ts:List Tok} {E:Nat->Prop} (h:RM S tell r s0 z ts E w) (hs0:s0=z.st) (hst:z.st=8\/z.st=9) (hok:kI z) (bN:z.at'<=4000000) (b:Nat) (hb:b<256) (hV:VL V ts (gC z b).ts) :
 Calls Tryz.prog 136 #[.pointer (some ⟨r,0,none⟩),.int .u8 (b:Int)] w (RP S tell r s0 (gC z b) ts E w):=by
 obtain ⟨hsz,hn0,Np,EY,qm⟩:=hok.n hst
 have h10:(10:Nat) ^ z.sz<=1000000000:=Nat.pow_le_pow_right (n:=10) (by decide) hsz
 have hnn:0<=z.tk.n/\z.tk.n<=1000000000:=⟨hn0,by omega⟩
 obtain ⟨ov,bp,bv,h1⟩:=h.rs
 have c0:w.cell? ⟨r,0,none⟩=some (.int .i64 (s0:Nat)):=h1.b.cell 0
 have c12:w.cell? ⟨r,12,none⟩=some (.int .i64 (z.sz:Nat)):=h1.b.cell 12
 have H:=aa h
 have KO:=aa (λ w=>kY (w:=w) b hb)
 have DG:=aa (λ w=>uc (w:=w) b hb)
 have MF:=aa (oX h1 hok.op.1 hok.op.2 b hb)
 have DR:Hid (∀n,RM S tell r s0 z ts E (w.drewN n)):=λ n=>RM.drewN hS h n
 by_cases c1:z.st=8/\¬(49<=b/\b<=57)
 ·have e:gC z b=z.to 12:=by unfold gC; rw [if_pos c1]
  rw [e]
  have k4:cj b≠4:=by
   rcases fW b with ⟨c,k⟩ | ⟨c,c',k⟩ | ⟨c,k⟩ | ⟨c,k⟩ | ⟨c,c',k⟩ | ⟨c,k⟩ | ⟨c,k⟩ | ⟨c,c',c2,c3,c4,k⟩<;>rw [k]<;>first | decide | omega
  rw [hs0,c1.1] at c0
  generalize cj b=kk at *
  have n4:((kk:Int) != 4)=true:=by rw [bne_iff_ne]; omega
  clear e hV h h1 hS hok c1 k4 MF DG DR hnn hn0 Np h10 EY qm hsz hst c12
  go_enter Tryz.func136,Tryz.ntmps136
  go_wp2_with fail
  refine (KO.out _).mono ?_
  rintro res w1 ⟨rfl,rfl⟩
  go_wp2
  go_ret
  exact H.out.to (Ev.refl _ _) 12
 rcases hst with h8 | h9
 · -- behind the sign
  obtain ⟨m1,m2⟩:=hok.m h8
  have xH:49<=b/\b<=57:=by omega
  have hd:af b=true:=by simp [af]; omega
  have e:gC z b=dw z b:=by unfold gC; rw [if_neg c1,if_pos ⟨hd,by omega⟩]
  rw [e]
  have AD:=aa (mg hS h hnn (by omega) b hd)
  have k4:cj b=4:=by
   rcases fW b with ⟨c,k⟩ | ⟨c,c',k⟩ | ⟨c,k⟩ | ⟨c,k⟩ | ⟨c,c',k⟩ | ⟨c,k⟩ | ⟨c,k⟩ | ⟨c,c',c2,c3,c4,k⟩<;>first | exact k | omega
  rw [hs0,h8] at c0
  rw [m1] at c12
  rw [k4] at KO
  rw [hd] at DG
  clear e hV h h1 hS hok c1 hnn hn0 Np h10 EY qm h8 m1 m2 hd k4 MF DR hsz
  go_enter Tryz.func136,Tryz.ntmps136
  go_wp2_with fail
  refine (KO.out _).mono ?_
  rintro res w1 ⟨rfl,rfl⟩
  go_wp2_with fail
  refine (DG.out _).mono ?_
  rintro res w1 ⟨rfl,rfl⟩
  go_wp2_with fail
  refine (AD.out).mono ?_
  rintro res w1 ⟨rfl,E1,hM,hE⟩
  have M1:=aa hM
  have ou:=aa hE
  clear hM hE
  go_wp2
  go_ret
  exact ⟨rfl,E1,M1.out,ou.out⟩
 rw [hs0,h9] at c0
 by_cases hd:af b=true/\z.sz<9
 ·have e:gC z b=dw z b:=by unfold gC; rw [if_neg c1,if_pos hd]
  rw [e]
  have AD:=aa (mg hS h hnn hsz b hd.1)
  have l9:(z.sz:Int)<9:=by omega
  have DG2:=DG
  rw [hd.1] at DG2
  clear e hV h h1 hS hok c1 hnn hn0 Np h10 EY qm h9 hd MF DR hsz KO DG
  go_enter Tryz.func136,Tryz.ntmps136
  go_wp2_with fail
  refine (DG2.out _).mono ?_
  rintro res w1 ⟨rfl,rfl⟩
  go_wp2_with fail
  refine (AD.out).mono ?_
  rintro res w1 ⟨rfl,E1,hM,hE⟩
  have M1:=aa hM
  have ou:=aa hE
  clear hM hE
  go_wp2
  go_ret
  exact ⟨rfl,E1,M1.out,ou.out⟩
 by_cases hm:gF z.op b=false
 ·have e:gC z b=z.to 12:=by unfold gC; rw [if_neg c1,if_neg hd,if_pos hm]
  rw [e]
  rw [hm] at MF
  have T12:Hid (∀n,RP S tell r s0 (z.to 12) ts E w (.returned (.int .i64 12)) (w.drewN n)):=λ n=>(DR.out n).to ((Ev.refl E w).drewN n) 12
  clear e hV h h1 hS hok c1 hnn hn0 Np h10 EY qm h9 DR hsz KO hm H
  by_cases hg:af b=true
  ·rw [hg] at DG
   have l9:¬(z.sz:Int)<9:=by have:¬z.sz<9:=λ x=>hd ⟨hg,x⟩; omega
   clear hd hg
   go_enter Tryz.func136,Tryz.ntmps136
   go_wp2_with fail
   refine (DG.out _).mono ?_
   rintro res w1 ⟨rfl,rfl⟩
   go_wp2_with fail
   refine (MF.out).mono ?_
   rintro res w1 ⟨rfl,n,rfl⟩
   go_wp2
   go_ret
   exact T12.out n
  have hg:af b=false:=by simpa using hg
  rw [hg] at DG
  clear hd hg
  go_enter Tryz.func136,Tryz.ntmps136
  go_wp2_with fail
  refine (DG.out _).mono ?_
  rintro res w1 ⟨rfl,rfl⟩
  go_wp2_with fail
  refine (MF.out).mono ?_
  rintro res w1 ⟨rfl,n,rfl⟩
  go_wp2
  go_ret
  exact T12.out n
 have hm:gF z.op b=true:=by simpa using hm
 have e:gC z b=⟨(aF z b).z,cz z::(aF z b).ts⟩:=by unfold gC; rw [if_neg c1,if_neg hd,if_neg (by rw [hm]; decide)]
 rw [e] at hV ⊢
 rw [hm] at MF
 obtain ⟨VM,lY⟩:=hV
 obtain ⟨N,first,zl,mZ,hE,cV⟩:=RM.tell hS
 have NU:Hid (∀W,RM S tell r s0 z ts E W->Calls Tryz.prog 74 #[.pointer (some ⟨r,0,none⟩)] W λ res w'=>res=.returned (gD (cz z))/\ak W w'):=λ W hW=>by
  obtain ⟨_,_,_,y⟩:=hW.rs
  exact wm y hnn EY
 have KP:Hid (∀W W',RM S tell r s0 z ts E W->ak W W'->RM S tell r s0 z ts E W'/\Ev E W E W'):=λ W W' hW k=>RM.keeps hS hW k
 have TE:Hid (∀W,RM S tell r s0 z ts E W->Calls Tryz.prog N (first.push (gD (cz z))++zl) W λ res w'=>res=.returned (.tuple #[])/\∃E',RM S tell r s0 z (ts++[cz z]) E' w'/\Ev E W E' w'):=λ W hW=>cV _ hW VM
 have BH:Hid (∀E W,RM S tell r s0 z (ts++[cz z]) E W->Calls Tryz.prog 179 #[.pointer (some ⟨r,0,none⟩),.int .u8 (b:Int)] W (RP S tell r s0 (aF z b) (ts++[cz z]) E W)):=λ E W hW=>yC hS hW hok.op.1 hok.op.2 bN b hb lY
 have YY:Hid (∀W,RM S tell r s0 z ts E W->W.cell? ⟨r,14,none⟩=some tell):=λ W hW=>by
  obtain ⟨_,_,_,y⟩:=hW.rs
  exact y.b.cell 14
 have wo:Hid (∀E2 w2 (res:Ending) w3,Ev E w E2 w2->RP S tell r s0 (aF z b) (ts++[cz z]) E2 w2 res w3->RP S tell r s0 ⟨(aF z b).z,cz z::(aF z b).ts⟩ ts E w res w3):=λ E2 w2 res w3 hev hr=>by
  obtain ⟨q1,E3,q2,q3⟩:=hr
  exact ⟨q1,E3,by simpa using q2,hev.trans q3⟩
 generalize gD (cz z)=tg at *
 clear e h h1 hok c1 hnn hn0 Np h10 EY qm h9 hsz KO hm H cV VM lY hS
 subst mZ
 by_cases hg:af b=true
 ·rw [hg] at DG
  have l9:¬(z.sz:Int)<9:=by have:¬z.sz<9:=λ x=>hd ⟨hg,x⟩; omega
  clear hd hg
  go_enter Tryz.func136,Tryz.ntmps136
  go_wp2_with fail
  refine (DG.out _).mono ?_
  rintro res w1 ⟨rfl,rfl⟩
  go_wp2_with fail
  refine (MF.out).mono ?_
  rintro res w1 ⟨rfl,n,rfl⟩
  go_wp2_with fail
  have d14:=YY.out _ (DR.out (n+1))
  go_region_with (first
   | (go_at_call 74; refine (NU.out _ (DR.out (n+1))).mono ?_; rintro res w2 ⟨rfl,hk⟩; have M2:=aa (KP.out _ _ (DR.out (n+1)) hk).1; have rV:=aa (KP.out _ _ (DR.out (n+1)) hk).2; have abF:=YY.out _ M2.out; clear hk)
   | (refine (TE.out _ M2.out).mono ?_; rintro res w3 ⟨rfl,E3,JM,JN⟩; have M3:=aa JM; have La:=aa JN; clear JM JN))
  all_goals
   go_wp2_with fail
   refine (BH.out E3 _ M3.out).mono ?_
   intro res w4 hr
   have q:=aa (wo.out E3 _ res w4 ((((Ev.refl E _).drewN (n+1)).trans rV.out).trans La.out) hr)
   obtain ⟨rfl,_⟩:=hr
   go_wp2
   go_ret
   exact q.out
 have hg:af b=false:=by simpa using hg
 rw [hg] at DG
 clear hd hg
 go_enter Tryz.func136,Tryz.ntmps136
 go_wp2_with fail
 refine (DG.out _).mono ?_
 rintro res w1 ⟨rfl,rfl⟩
 go_wp2_with fail
 refine (MF.out).mono ?_
 rintro res w1 ⟨rfl,n,rfl⟩
 go_wp2_with fail
 have d14:=YY.out _ (DR.out (n+1))
 go_region_with (first
  | (go_at_call 74; refine (NU.out _ (DR.out (n+1))).mono ?_; rintro res w2 ⟨rfl,hk⟩; have M2:=aa (KP.out _ _ (DR.out (n+1)) hk).1; have rV:=aa (KP.out _ _ (DR.out (n+1)) hk).2; have abF:=YY.out _ M2.out; clear hk)
  | (refine (TE.out _ M2.out).mono ?_; rintro res w3 ⟨rfl,E3,JM,JN⟩; have M3:=aa JM; have La:=aa JN; clear JM JN))
 all_goals
  go_wp2_with fail
  refine (BH.out E3 _ M3.out).mono ?_
  intro res w4 hr
  have q:=aa (wo.out E3 _ res w4 ((((Ev.refl E _).drewN (n+1)).trans rV.out).trans La.out) hr)
  obtain ⟨rfl,_⟩:=hr
  go_wp2
  go_ret
  exact q.out
end Go.Proofs.YtcbadebjpogmlaaGreatDoor
namespace Go.Proofs
open Go.Shelf
def Tryz.vr:Go.Shelf.Ren:=⟨fun | 171=>75 | 243=>103 | 246=>140 | 283=>184 | 284=>185 | 285=>186 | 286=>187 | 129=>227 | 317=>226 | 318=>228 | 319=>229 | 320=>230 | 337=>245 | 338=>246 | n=>n,fun | 3=>3 | 9=>9 | 2=>2 | 4=>4 | 171=>257 | 0=>0 | 53=>258 | 37=>110 | 5=>5 | 173=>261 | 212=>277 | 51=>278 | 20=>20 | 213=>279 | 46=>281 | 232=>304 | 233=>305 | n=>n,fun | 17=>0 | 18=>4 | 19=>5 | n=>n⟩
theorem Tryz.Fz:Go.Proofs.LaysM.n171 Tryz.prog Tryz.vr:={
 mixed:=by kernel_rfl
 f129:=Tryz.func227.trans (congrArg some (by kernel_rfl))
 f171:=Tryz.func75.trans (congrArg some (by kernel_rfl))
 f243:=Tryz.func103.trans (congrArg some (by kernel_rfl))
 f246:=Tryz.func140.trans (congrArg some (by kernel_rfl))
 f283:=Tryz.func184.trans (congrArg some (by kernel_rfl))
 f284:=Tryz.func185.trans (congrArg some (by kernel_rfl))
 f285:=Tryz.func186.trans (congrArg some (by kernel_rfl))
 f286:=Tryz.func187.trans (congrArg some (by kernel_rfl))
 f317:=Tryz.func226.trans (congrArg some (by kernel_rfl))
 f318:=Tryz.func228.trans (congrArg some (by kernel_rfl))
 f319:=Tryz.func229.trans (congrArg some (by kernel_rfl))
 f320:=Tryz.func230.trans (congrArg some (by kernel_rfl))
 f337:=Tryz.func245.trans (congrArg some (by kernel_rfl))
 f338:=Tryz.func246.trans (congrArg some (by kernel_rfl))
 t0:=Tryz.underlying0
 a0:=Tryz.isAgg0
 z0:=Tryz.sizeOf0
 v0:=Tryz.zeroValue0
 t2:=Tryz.underlying2
 a2:=Tryz.isAgg2
 z2:=Tryz.sizeOf2
 v2:=Tryz.zeroValue2
 t3:=Tryz.underlying3
 a3:=Tryz.isAgg3
 z3:=Tryz.sizeOf3
 v3:=Tryz.zeroValue3
 t4:=Tryz.underlying4
 a4:=Tryz.isAgg4
 z4:=Tryz.sizeOf4
 v4:=Tryz.zeroValue4
 t5:=Tryz.underlying5
 a5:=Tryz.isAgg5
 z5:=Tryz.sizeOf5
 v5:=Tryz.zeroValue5
 t9:=Tryz.underlying9
 a9:=Tryz.isAgg9
 z9:=Tryz.sizeOf9
 v9:=Tryz.zeroValue9
 t20:=Tryz.underlying20
 a20:=Tryz.isAgg20
 z20:=Tryz.sizeOf20
 v20:=Tryz.zeroValue20
 t37:=Tryz.underlying110
 a37:=Tryz.isAgg110
 z37:=Tryz.sizeOf110
 v37:=Tryz.zeroValue110
 t46:=Tryz.underlying281
 a46:=Tryz.isAgg281
 z46:=Tryz.sizeOf281
 v46:=Tryz.zeroValue281
 t51:=Tryz.underlying278
 a51:=Tryz.isAgg278
 z51:=Tryz.sizeOf278
 v51:=Tryz.zeroValue278
 t53:=Tryz.underlying258
 a53:=Tryz.isAgg258
 z53:=Tryz.sizeOf258
 v53:=Tryz.zeroValue258
 t171:=Tryz.underlying257
 a171:=Tryz.isAgg257
 z171:=Tryz.sizeOf257
 v171:=Tryz.zeroValue257
 t173:=Tryz.underlying261
 a173:=Tryz.isAgg261
 z173:=Tryz.sizeOf261
 v173:=Tryz.zeroValue261
 t212:=Tryz.underlying277
 a212:=Tryz.isAgg277
 z212:=Tryz.sizeOf277
 v212:=Tryz.zeroValue277
 t213:=Tryz.underlying279
 a213:=Tryz.isAgg279
 z213:=Tryz.sizeOf279
 t232:=Tryz.underlying304
 a232:=Tryz.isAgg304
 z232:=Tryz.sizeOf304
 v232:=Tryz.zeroValue304
 t233:=Tryz.underlying305
 a233:=Tryz.isAgg305
 z233:=Tryz.sizeOf305
 v233:=Tryz.zeroValue305
 g17:=by kernel_rfl
 g18:=by kernel_rfl
 g19:=by kernel_rfl
 i0:=by kernel_rfl
 i2:=by kernel_rfl
 i3:=by kernel_rfl
 i4:=by kernel_rfl
 i5:=by kernel_rfl
 i9:=by kernel_rfl
 i20:=by kernel_rfl
 i37:=by kernel_rfl
 i46:=by kernel_rfl
 i51:=by kernel_rfl
 i53:=by kernel_rfl
 i171:=by kernel_rfl
 i173:=by kernel_rfl
 i212:=by kernel_rfl
 i232:=by kernel_rfl
 i233:=by kernel_rfl
 m17:=by kernel_rfl
 m18:=by kernel_rfl
 m19:=by kernel_rfl }
def Tryz.oC:Go.Shelf.Ren:=⟨fun | 155=>104 | 154=>141 | 138=>188 | 165=>189 | 143=>190 | 166=>86 | 197=>191 | 169=>88 | 195=>231 | 218=>232 | 240=>114 | 241=>233 | 219=>234 | 260=>235 | 276=>158 | 277=>247 | 217=>144 | 225=>248 | 224=>249 | 267=>250 | 266=>192 | 314=>260 | n=>n,fun | 9=>9 | 3=>3 | 4=>4 | 72=>112 | 0=>0 | 76=>181 | 105=>265 | 21=>21 | 5=>5 | 70=>109 | 20=>20 | 37=>110 | 75=>180 | 127=>209 | 164=>234 | 46=>281 | 119=>295 | 139=>298 | 138=>297 | 146=>306 | 51=>278 | 80=>52 | n=>n,fun | 1=>1 | 3=>2 | 4=>3 | n=>n⟩
theorem Tryz.mw:Go.Proofs.Lays.n155 Tryz.prog Tryz.oC:={
 mixed:=by kernel_rfl
 f138:=Tryz.func188.trans (congrArg some (by kernel_rfl))
 f143:=Tryz.func190.trans (congrArg some (by kernel_rfl))
 f154:=Tryz.func141.trans (congrArg some (by kernel_rfl))
 f155:=Tryz.func104.trans (congrArg some (by kernel_rfl))
 f165:=Tryz.func189.trans (congrArg some (by kernel_rfl))
 f166:=Tryz.func86.trans (congrArg some (by kernel_rfl))
 f169:=Tryz.func88.trans (congrArg some (by kernel_rfl))
 f195:=Tryz.func231.trans (congrArg some (by kernel_rfl))
 f197:=Tryz.func191.trans (congrArg some (by kernel_rfl))
 f217:=Tryz.func144.trans (congrArg some (by kernel_rfl))
 f218:=Tryz.func232.trans (congrArg some (by kernel_rfl))
 f219:=Tryz.func234.trans (congrArg some (by kernel_rfl))
 f224:=Tryz.func249.trans (congrArg some (by kernel_rfl))
 f225:=Tryz.func248.trans (congrArg some (by kernel_rfl))
 f240:=Tryz.func114.trans (congrArg some (by kernel_rfl))
 f241:=Tryz.func233.trans (congrArg some (by kernel_rfl))
 f260:=Tryz.func235.trans (congrArg some (by kernel_rfl))
 f266:=Tryz.func192.trans (congrArg some (by kernel_rfl))
 f267:=Tryz.func250.trans (congrArg some (by kernel_rfl))
 f276:=Tryz.func158.trans (congrArg some (by kernel_rfl))
 f277:=Tryz.func247.trans (congrArg some (by kernel_rfl))
 f314:=Tryz.func260.trans (congrArg some (by kernel_rfl))
 t0:=Tryz.underlying0
 a0:=Tryz.isAgg0
 z0:=Tryz.sizeOf0
 v0:=Tryz.zeroValue0
 t3:=Tryz.underlying3
 a3:=Tryz.isAgg3
 z3:=Tryz.sizeOf3
 v3:=Tryz.zeroValue3
 t4:=Tryz.underlying4
 a4:=Tryz.isAgg4
 z4:=Tryz.sizeOf4
 v4:=Tryz.zeroValue4
 t5:=Tryz.underlying5
 a5:=Tryz.isAgg5
 z5:=Tryz.sizeOf5
 v5:=Tryz.zeroValue5
 t9:=Tryz.underlying9
 a9:=Tryz.isAgg9
 z9:=Tryz.sizeOf9
 v9:=Tryz.zeroValue9
 t20:=Tryz.underlying20
 a20:=Tryz.isAgg20
 z20:=Tryz.sizeOf20
 v20:=Tryz.zeroValue20
 t21:=Tryz.underlying21
 a21:=Tryz.isAgg21
 z21:=Tryz.sizeOf21
 v21:=Tryz.zeroValue21
 t37:=Tryz.underlying110
 a37:=Tryz.isAgg110
 z37:=Tryz.sizeOf110
 v37:=Tryz.zeroValue110
 t46:=Tryz.underlying281
 a46:=Tryz.isAgg281
 z46:=Tryz.sizeOf281
 v46:=Tryz.zeroValue281
 t51:=Tryz.underlying278
 a51:=Tryz.isAgg278
 z51:=Tryz.sizeOf278
 v51:=Tryz.zeroValue278
 t70:=Tryz.underlying109
 a70:=Tryz.isAgg109
 z70:=Tryz.sizeOf109
 v70:=Tryz.zeroValue109
 t72:=Tryz.underlying112
 a72:=Tryz.isAgg112
 z72:=Tryz.sizeOf112
 v72:=Tryz.zeroValue112
 t75:=Tryz.underlying180
 a75:=Tryz.isAgg180
 z75:=Tryz.sizeOf180
 v75:=Tryz.zeroValue180
 t76:=Tryz.underlying181
 a76:=Tryz.isAgg181
 z76:=Tryz.sizeOf181
 v76:=Tryz.zeroValue181
 t105:=Tryz.underlying265
 a105:=Tryz.isAgg265
 z105:=Tryz.sizeOf265
 v105:=Tryz.zeroValue265
 t119:=Tryz.underlying295
 a119:=Tryz.isAgg295
 z119:=Tryz.sizeOf295
 t127:=Tryz.underlying209
 a127:=Tryz.isAgg209
 z127:=Tryz.sizeOf209
 v127:=Tryz.zeroValue209
 t138:=Tryz.underlying297
 a138:=Tryz.isAgg297
 z138:=Tryz.sizeOf297
 v138:=Tryz.zeroValue297
 t139:=Tryz.underlying298
 a139:=Tryz.isAgg298
 z139:=Tryz.sizeOf298
 v139:=Tryz.zeroValue298
 t146:=Tryz.underlying306
 a146:=Tryz.isAgg306
 z146:=Tryz.sizeOf306
 v146:=Tryz.zeroValue306
 t164:=Tryz.underlying234
 a164:=Tryz.isAgg234
 z164:=Tryz.sizeOf234
 v164:=Tryz.zeroValue234
 g1:=by kernel_rfl
 g3:=by kernel_rfl
 g4:=by kernel_rfl }
end Go.Proofs
