import Derived.Test.YtcbadebjpogmlaaGreatDoorVsSj
set_option maxHeartbeats 2000000
set_option maxRecDepth 100000
namespace Go.Proofs.YtcbadebjpogmlaaGreatDoor
open Go.RowKit Tr
theorem RM.num {S:World->(Nat->Prop)->List Tok->Prop} {V:List Tok->Tok->Prop} {tell:Value} (hS:fG tell S V) {w:World} {r s0:Nat} {z:Sn} {ts:List Tok} {E:Nat->Prop} (h:RM S tell r s0 z ts E w) (hx:z.tx=[]):RM S tell r s0 { z with tk:=⟨3,3,z.at',0,0,[]⟩,sz:=0,sg:=1 } ts E ((((((((w.setCell ⟨r,3,none⟩ (.int .i64 (3))).setCell ⟨r,4,none⟩ (.int .i64 (3))).setCell ⟨r,5,none⟩ (.int .i64 (z.at':Nat))).setCell ⟨r,6,none⟩ (.int .i64 0)).setCell ⟨r,7,none⟩ (.int .i64 0)).setCell ⟨r,8,none⟩ (.string ⟨#[]⟩)).setCell ⟨r,12,none⟩ (.int .i64 0)).setCell ⟨r,13,none⟩ (.int .i64 1))/\Ev E w E ((((((((w.setCell ⟨r,3,none⟩ (.int .i64 (3))).setCell ⟨r,4,none⟩ (.int .i64 (3))).setCell ⟨r,5,none⟩ (.int .i64 (z.at':Nat))).setCell ⟨r,6,none⟩ (.int .i64 0)).setCell ⟨r,7,none⟩ (.int .i64 0)).setCell ⟨r,8,none⟩ (.string ⟨#[]⟩)).setCell ⟨r,12,none⟩ (.int .i64 0)).setCell ⟨r,13,none⟩ (.int .i64 1)):=by
 obtain ⟨ov,bp,bv,D,h1,h2,h3,h4⟩:=h.ex
 have b6:ay ((((((w.setCell ⟨r,3,none⟩ (.int .i64 (3))).setCell ⟨r,4,none⟩ (.int .i64 (3))).setCell ⟨r,5,none⟩ (.int .i64 (z.at':Nat))).setCell ⟨r,6,none⟩ (.int .i64 0)).setCell ⟨r,7,none⟩ (.int .i64 0)).setCell ⟨r,8,none⟩ (.string ⟨#[]⟩)) r (vL s0 { z with tk:=⟨3,3,z.at',0,0,[]⟩ } ov bp bv tell) 115:=((((((h1.b.set 3 (.int .i64 (3))).set 4 (.int .i64 (3))).set 5 (.int .i64 (z.at':Nat))).set 6 (.int .i64 0)).set 7 (.int .i64 0)).set 8 (.string ⟨#[]⟩))
 exact RM.set (z':={ z with tk:=⟨3,3,z.at',0,0,[]⟩,sz:=0,sg:=1 }) (s1:=s0) hS h1 h2 h3 h4 (w':=((((((((w.setCell ⟨r,3,none⟩ (.int .i64 (3))).setCell ⟨r,4,none⟩ (.int .i64 (3))).setCell ⟨r,5,none⟩ (.int .i64 (z.at':Nat))).setCell ⟨r,6,none⟩ (.int .i64 0)).setCell ⟨r,7,none⟩ (.int .i64 0)).setCell ⟨r,8,none⟩ (.string ⟨#[]⟩)).setCell ⟨r,12,none⟩ (.int .i64 0)).setCell ⟨r,13,none⟩ (.int .i64 1))) ((b6.set 12 (.int .i64 0)).set 13 (.int .i64 1)) (((Fr.sj (Fr.refl _ w) _ _ _ _ _ _).setCell ⟨r,12,none⟩ (Or.inl rfl) _).setCell ⟨r,13,none⟩ (Or.inl rfl) _) rfl (by show fK 3 z.tx=_; rw [hx,iz,iz])
theorem RM.num' {S:World->(Nat->Prop)->List Tok->Prop} {V:List Tok->Tok->Prop} {tell:Value} (hS:fG tell S V) {w:World} {r s0:Nat} {z:Sn} {ts:List Tok} {E:Nat->Prop} (h:RM S tell r s0 z ts E w) (hx:z.tx=[]):RM S tell r s0 { z with tk:=⟨3,3,z.at',0,0,[]⟩,sz:=0,sg:=-1,st:=8 } ts E (((((((((w.setCell ⟨r,3,none⟩ (.int .i64 (3))).setCell ⟨r,4,none⟩ (.int .i64 (3))).setCell ⟨r,5,none⟩ (.int .i64 (z.at':Nat))).setCell ⟨r,6,none⟩ (.int .i64 0)).setCell ⟨r,7,none⟩ (.int .i64 0)).setCell ⟨r,8,none⟩ (.string ⟨#[]⟩)).setCell ⟨r,12,none⟩ (.int .i64 0)).setCell ⟨r,13,none⟩ (.int .i64 1)).setCell ⟨r,13,none⟩ (.int .i64 (-1)))/\Ev E w E (((((((((w.setCell ⟨r,3,none⟩ (.int .i64 (3))).setCell ⟨r,4,none⟩ (.int .i64 (3))).setCell ⟨r,5,none⟩ (.int .i64 (z.at':Nat))).setCell ⟨r,6,none⟩ (.int .i64 0)).setCell ⟨r,7,none⟩ (.int .i64 0)).setCell ⟨r,8,none⟩ (.string ⟨#[]⟩)).setCell ⟨r,12,none⟩ (.int .i64 0)).setCell ⟨r,13,none⟩ (.int .i64 1)).setCell ⟨r,13,none⟩ (.int .i64 (-1))):=by
 obtain ⟨ov,bp,bv,D,h1,h2,h3,h4⟩:=h.ex
 have b6:ay ((((((w.setCell ⟨r,3,none⟩ (.int .i64 (3))).setCell ⟨r,4,none⟩ (.int .i64 (3))).setCell ⟨r,5,none⟩ (.int .i64 (z.at':Nat))).setCell ⟨r,6,none⟩ (.int .i64 0)).setCell ⟨r,7,none⟩ (.int .i64 0)).setCell ⟨r,8,none⟩ (.string ⟨#[]⟩)) r (vL s0 { z with tk:=⟨3,3,z.at',0,0,[]⟩ } ov bp bv tell) 115:=((((((h1.b.set 3 (.int .i64 (3))).set 4 (.int .i64 (3))).set 5 (.int .i64 (z.at':Nat))).set 6 (.int .i64 0)).set 7 (.int .i64 0)).set 8 (.string ⟨#[]⟩))
 exact RM.set (z':={ z with tk:=⟨3,3,z.at',0,0,[]⟩,sz:=0,sg:=-1,st:=8 }) (s1:=s0) hS h1 h2 h3 h4 (w':=((((((((w.setCell ⟨r,3,none⟩ (.int .i64 (3))).setCell ⟨r,4,none⟩ (.int .i64 (3))).setCell ⟨r,5,none⟩ (.int .i64 (z.at':Nat))).setCell ⟨r,6,none⟩ (.int .i64 0)).setCell ⟨r,7,none⟩ (.int .i64 0)).setCell ⟨r,8,none⟩ (.string ⟨#[]⟩)).setCell ⟨r,12,none⟩ (.int .i64 0)).setCell ⟨r,13,none⟩ (.int .i64 1)).setCell ⟨r,13,none⟩ (.int .i64 (-1))) (((b6.set 12 (.int .i64 0)).set 13 (.int .i64 1)).set 13 (.int .i64 (-1))) ((((Fr.sj (Fr.refl _ w) _ _ _ _ _ _).setCell ⟨r,12,none⟩ (Or.inl rfl) _).setCell ⟨r,13,none⟩ (Or.inl rfl) _).setCell ⟨r,13,none⟩ (Or.inl rfl) _) rfl (by show fK 3 z.tx=_; rw [hx,iz,iz])
theorem sD {S:World->(Nat->Prop)->List Tok->Prop} {V:List Tok->Tok->Prop} {tell:Value} (hS:fG tell S V) {w:World} {r s0:Nat} {z:Sn} {ts:List Tok} {E:Nat->Prop} (h:RM S tell r s0 z ts E w) (hx:z.tx=[]) (b:Nat) (hb:b<256) :
 Calls Tryz.prog 225 #[.pointer (some ⟨r,0,none⟩),.int .u8 (b:Int)] w (RP S tell r s0 (fQ z b) ts E w):=by
 obtain ⟨ov,bp,bv,D,h1,h2,h3,h4⟩:=h.ex
 have c1:w.cell? ⟨r,1,none⟩=some (.int .i64 (z.at':Nat)):=h1.b.cell 1
 have c3:w.cell? ⟨r,3,none⟩=some (.int .i64 (z.tk.k:Nat)):=h1.b.cell 3
 have c4:w.cell? ⟨r,4,none⟩=some (.int .i64 (z.tk.of:Nat)):=h1.b.cell 4
 have c5:w.cell? ⟨r,5,none⟩=some (.int .i64 (z.tk.ai:Nat)):=h1.b.cell 5
 have c6:w.cell? ⟨r,6,none⟩=some (.int .i64 (z.tk.to:Nat)):=h1.b.cell 6
 have c7:w.cell? ⟨r,7,none⟩=some (.int .i64 z.tk.n):=h1.b.cell 7
 have c8:w.cell? ⟨r,8,none⟩=some (.string (bZ (fK z.tk.k z.tk.t))):=h1.b.cell 8
 have c12:w.cell? ⟨r,12,none⟩=some (.int .i64 (z.sz:Nat)):=h1.b.cell 12
 have c13:w.cell? ⟨r,13,none⟩=some (.int .i64 z.sg):=h1.b.cell 13
 have fz:=h1.b.fz
 have DG:=aa (λ w=>uc (w:=w) b hb)
 have R1:=RM.num hS h hx
 have R2:=RM.num' hS h hx
 have e1:b=45->fQ z b=⟨{ z with tk:=⟨3,3,z.at',0,0,[]⟩,sz:=0,sg:=-1,st:=8 },[]⟩:=by intro ji; unfold fQ; rw [if_pos ji]
 obtain ⟨z1,hz1⟩:∃z1:Sn,z1={ z with tk:=⟨3,3,z.at',0,0,[]⟩,sz:=0,sg:=1 }:=⟨_,rfl⟩
 rw [<-hz1] at R1
 by_cases ji:b=45
 ·rw [e1 ji]
  have RR:Hid (RP S tell r s0 ⟨{ z with tk:=⟨3,3,z.at',0,0,[]⟩,sz:=0,sg:=-1,st:=8 },[]⟩ ts E w (.returned (.int .i64 8)) (((((((((w.setCell ⟨r,3,none⟩ (.int .i64 (3))).setCell ⟨r,4,none⟩ (.int .i64 (3))).setCell ⟨r,5,none⟩ (.int .i64 (z.at':Nat))).setCell ⟨r,6,none⟩ (.int .i64 0)).setCell ⟨r,7,none⟩ (.int .i64 0)).setCell ⟨r,8,none⟩ (.string ⟨#[]⟩)).setCell ⟨r,12,none⟩ (.int .i64 0)).setCell ⟨r,13,none⟩ (.int .i64 1)).setCell ⟨r,13,none⟩ (.int .i64 (-1)))):=⟨rfl,E,by show RM _ _ _ _ _ (ts++[]) _ _; rw [List.append_nil]; exact R2.1,R2.2⟩
  clear h h1 h2 h3 h4 hS R1 R2 e1 hz1 DG
  subst ji
  go_enter Tryz.func225,Tryz.ntmps225
  go_wp2
  go_ret
  exact RR.out
 have n45:((b:Int) == 45)=false:=cU
 have HR:=aa R1.1
 have HE:=aa R1.2
 by_cases hd:af b=true
 ·have e:fQ z b=dw z1 b:=by unfold fQ; rw [if_neg ji,if_pos hd,hz1]
  rw [e]
  rw [hd] at DG
  have AD:=aa (mg hS R1.1 (by rw [hz1]; exact ⟨Int.le_refl 0,by show (0:Int)<=_; omega⟩) (by rw [hz1]; exact Nat.zero_le _) b hd)
  clear h h1 h2 h3 h4 hS R1 R2 e e1 hz1 ji hd HR
  go_enter Tryz.func225,Tryz.ntmps225
  go_wp2_with fail
  refine (DG.out _).mono ?_
  rintro res w1 ⟨rfl,rfl⟩
  go_wp2_with fail
  refine (AD.out).mono ?_
  rintro res w1 ⟨rfl,E1,hM,hE⟩
  have M1:=aa hM
  have ou:=aa hE
  clear hM hE
  go_wp2
  go_ret
  exact ⟨rfl,E1,M1.out,HE.out.trans ou.out⟩
 have hd':af b=false:=by simpa using hd
 have e:fQ z b=⟨{ z1 with st:=12 },[]⟩:=by unfold fQ; rw [if_neg ji,if_neg hd,hz1]
 rw [e]
 rw [hd'] at DG
 have RR:Hid (RP S tell r s0 ⟨{ z1 with st:=12 },[]⟩ ts E w (.returned (.int .i64 12)) ((((((((w.setCell ⟨r,3,none⟩ (.int .i64 (3))).setCell ⟨r,4,none⟩ (.int .i64 (3))).setCell ⟨r,5,none⟩ (.int .i64 (z.at':Nat))).setCell ⟨r,6,none⟩ (.int .i64 0)).setCell ⟨r,7,none⟩ (.int .i64 0)).setCell ⟨r,8,none⟩ (.string ⟨#[]⟩)).setCell ⟨r,12,none⟩ (.int .i64 0)).setCell ⟨r,13,none⟩ (.int .i64 1))):=⟨rfl,E,by show RM _ _ _ _ _ (ts++[]) _ _; rw [List.append_nil]; exact R1.1.st 12,R1.2⟩
 clear h h1 h2 h3 h4 hS R1 R2 e e1 hz1 ji hd hd' HR HE
 go_enter Tryz.func225,Tryz.ntmps225
 go_wp2_with fail
 refine (DG.out _).mono ?_
 rintro res w1 ⟨rfl,rfl⟩
 go_wp2
 go_ret
 exact RR.out
theorem yD (l:List UInt8):(bZ l).size=l.length:=by show (List.toArray l).size=_; simp
theorem JO (l:List UInt8):(bZ l).extract 1 (bZ l).size=bZ l.tail:=by
 apply om
 rw [h_,yD]
 have:l.tail.length=l.length - 1:=by simp
 simp [bs,bZ,List.extract_eq_take_drop]
 rw [<-this,List.take_length]
theorem AG {S:World->(Nat->Prop)->List Tok->Prop} {V:List Tok->Tok->Prop} {tell:Value} (hS:fG tell S V) {w:World} {r s0:Nat} {z:Sn} {ts:List Tok} {E:Nat->Prop} (h:RM S tell r s0 z ts E w) (hne:z.rs≠[]) (hl:z.rs.length<=4) (bN:z.at'<=4000000) (b:Nat) (hV:VL V ts (fF z b).ts) :
 Calls Tryz.prog 137 #[.pointer (some ⟨r,0,none⟩),.int .u8 (b:Int)] w (RP S tell r s0 (fF z b) ts E w):=by
 obtain ⟨ov,bp,bv,D,h1,h2,h3,h4⟩:=h.ex
 obtain ⟨q,hq⟩:∃q,q=bZ z.rs:=⟨_,rfl⟩
 have c11:w.cell? ⟨r,11,none⟩=some (.string q):=by rw [hq]; exact h1.b.cell 11
 have fz:=h1.b.fz
 have hpos:0<z.rs.length:=List.length_pos_iff.2 hne
 have hsz:q.size=z.rs.length:=by rw [hq]; exact yD _
 have hq0:0<q.size:=by omega
 have hq4:q.size<=4:=by omega
 have hx0:((q[0]).toNat:Nat)=bt z.rs 0:=by rw [<-nI hq0,hq,h_]
 have hx1:q.extract 1 q.size=bZ z.rs.tail:=by rw [hq]; exact JO _
 by_cases hne':b=bt z.rs 0
 ·have eb:((b:Int) == ((q[0]).toNat:Int))=true:=by rw [beq_iff_eq,hx0,hne']
  have R:=RM.set (z':={ z with rs:=z.rs.tail }) (s1:=s0) hS h1 h2 h3 h4 (w':=w.setCell ⟨r,11,none⟩ (.string (bZ z.rs.tail))) (h1.b.set 11 (.string (bZ z.rs.tail))) ((Fr.refl (λ k=>k=r) w).setCell ⟨r,11,none⟩ (Or.inl rfl) _) rfl rfl
  by_cases ht:z.rs.tail=[]
  ·have e:fF z b=eJ { z with rs:=z.rs.tail }:=by unfold fF; rw [if_neg (by simpa using hne'),if_pos ht]
   rw [e] at hV ⊢
   have EP:=aa (rD hS R.1 bN hV)
   have HE:=aa R.2
   rw [ht] at EP HE hx1 ⊢
   have ai':q.extract 1 q.size=⟨#[]⟩:=hx1
   have EP':Hid (Calls Tryz.prog 180 #[.pointer (some ⟨r,0,none⟩)] (w.setCell ⟨r,11,none⟩ (.string ⟨#[]⟩)) (RP S tell r s0 (eJ { z with rs:=[] }) ts E (w.setCell ⟨r,11,none⟩ (.string ⟨#[]⟩)))):=EP
   have HE':Hid (Ev E w E (w.setCell ⟨r,11,none⟩ (.string ⟨#[]⟩))):=HE
   clear h h1 h2 h3 h4 hS R e hne' hne hl bN hV hq hx0 ht hsz hpos EP HE hx1
   go_enter Tryz.func137,Tryz.ntmps137
   go_wp2_with fail
   refine (EP'.out).mono ?_
   rintro res w1 ⟨rfl,E1,hM,hE⟩
   have M1:=aa hM
   have ou:=aa hE
   clear hM hE EP'
   go_wp2
   go_ret
   exact ⟨rfl,E1,M1.out,HE'.out.trans ou.out⟩
  have e:fF z b=⟨{ z with st:=10,rs:=z.rs.tail },[]⟩:=by unfold fF; rw [if_neg (by simpa using hne'),if_neg ht]
  rw [e]
  obtain ⟨q1,hq1⟩:∃q1,q1=bZ z.rs.tail:=⟨_,rfl⟩
  have hqn:q1.toList.isEmpty=false:=by
   rw [Lib.toList_data,hq1]
   show (z.rs.tail.toArray.toList).isEmpty=false
   simpa using ht
  have RR:Hid (RP S tell r s0 ⟨{ z with st:=10,rs:=z.rs.tail },[]⟩ ts E w (.returned (.int .i64 10)) (w.setCell ⟨r,11,none⟩ (.string q1))):=⟨rfl,E,by show RM _ _ _ _ _ (ts++[]) _ _; rw [List.append_nil,hq1]; exact R.1.st 10,by rw [hq1]; exact R.2⟩
  rw [<-hq1] at hx1
  clear h h1 h2 h3 h4 hS R e hne' hne hl bN hV hq hx0 ht hsz hpos hq1
  go_enter Tryz.func137,Tryz.ntmps137
  go_wp2
  go_ret
  exact RR.out
 have eb:((b:Int) == ((q[0]).toNat:Int))=false:=by rw [beq_eq_false_iff_ne,hx0]; omega
 have e:fF z b=z.to 12:=by unfold fF; rw [if_pos hne']
 rw [e]
 have RR:=aa (h.to (Ev.refl E w) 12)
 clear h h1 h2 h3 h4 hS e hne' hne hl bN hV hq hx0 hx1 hsz hpos
 go_enter Tryz.func137,Tryz.ntmps137
 go_wp2
 go_ret
 exact RR.out
theorem Nr {w:World} {B B':Nat} {e e':TypeId} {sz sz':Nat} {v v':Value} {n n':Nat} {xs xs':List Value} (h:w.ownsRow B e sz v n xs) (h':w.ownsRow B' e' sz' v' n' xs') (he:e≠e') {k:Nat} (hk:v.ownBlock=some k):v'.ownBlock≠some k:=by
 intro hk'
 rcases h.2 with ⟨x,_⟩ | ⟨k1,cap,cur,x1,_,x3,_⟩
 ·rw [x] at hk; cases hk
 rcases h'.2 with ⟨x,_⟩ | ⟨k2,cap2,ZZ,y1,_,y3,_⟩
 ·rw [x] at hk'; cases hk'
 rw [x1] at hk
 rw [y1] at hk'
 have e1:k1=k:=Option.some.inj hk
 have e2:k2=k:=Option.some.inj hk'
 rw [e1] at x3
 rw [e2,x3] at y3
 simp only [Option.some.injEq,Obj.cells.injEq] at y3
 exact he y3.2.1
theorem JP:(Tryz.prog.info? 106).map (λ i=>(i.zero,i.size,i.bytes))=some (some (.int .i64 0),1,8):=by kernel_rfl
theorem RM.push {S:World->(Nat->Prop)->List Tok->Prop} {f:Value} {V:List Tok->Tok->Prop} (hS:fG f S V) {tell:Value} {r s0:Nat} {z:Sn} {ts:List Tok} {E:Nat->Prop} {w w1 w2:World} {ov bp bv v':Value} {D:Nat->Prop} (h1:RS w r s0 z tell ov bp bv) (h2:S w D ts) (h3:∀k,D k->k≠r/\ov.ownBlock≠some k/\bv.ownBlock≠some k) (h4:∀k,E k↔k=r\/ov.ownBlock=some k\/bv.ownBlock=some k\/D k)
 (f1:ak w w1) (hg:w1.grownBy w2 ov.ownBlock) (kind s:Nat) (ho:w2.ownsRow (r+1) 106 1 v' (z.op.length+1) (fh z.op++[.int .i64 (kind:Nat)])) (kP:v'.ownBlock=ov.ownBlock\/v'.ownBlock=some w1.heap.size) :
 ∃E',RM S tell r s0 { z with st:=s,op:=z.op++[kind] } ts E' (w2.setCell ⟨r,2,none⟩ v')/\Ev E w E' (w2.setCell ⟨r,2,none⟩ v'):=by
 have kb:∀k,k<w.heap.size->ov.ownBlock≠some k->k≠r->(w2.setCell ⟨r,2,none⟩ v').heap[k]?=w.heap[k]?:=λ k hk hn hr=>by
  rw [Below.heap_setCell _ _ _ _ (λ e=>hr e),hg.block k (Nat.lt_of_lt_of_le hk f1.size) (λ e=>hn e.symm),f1.block k hk id]
 have hrn:ov.ownBlock≠some r:=λ e=>by have:=(h1.o.lt r e).1; omega
 have b2:ay w2 r (vL s0 z ov bp bv tell) 115:=by
  show w2.heap[r]?=_
  rw [hg.block r (Nat.lt_of_lt_of_le h1.b.lt f1.size) (λ e=>hrn e.symm),f1.block r h1.b.lt id]; exact h1.b
 have hsz:w.heap.size<=(w2.setCell ⟨r,2,none⟩ v').heap.size:=Nat.le_trans f1.size (Nat.le_trans hg.size (by simp [World.setCell]))
 have lY:∀k,v'.ownBlock=some k->ov.ownBlock=some k\/w.heap.size<=k:=λ k hk=>by
  rcases kP with x | x
  ·exact Or.inl (x.symm.trans hk)
  have:w1.heap.size=k:=Option.some.inj (x.symm.trans hk)
  have:=f1.size
  exact Or.inr (by omega)
 refine ⟨λ k=>k=r\/v'.ownBlock=some k\/bv.ownBlock=some k\/D k,⟨v',bp,bv,D,⟨?_,?_,?_,h1.p,h1.e⟩,hS.keep h2 (λ k hk=>kb k (hS.lt h2 hk) (h3 k hk).2.1 (h3 k hk).1) hsz,λ k hk=>⟨(h3 k hk).1,λ e=>?_,(h3 k hk).2.2⟩,λ_=>Iff.rfl⟩,⟨λ k hk=>?_,⟨?_,?_,?_,hsz,λ k hk hn=>?_⟩⟩⟩
 ·exact b2.set 2 v'
 ·have e1:(z.op++[kind]).length=z.op.length+1:=by simp
  have e2:fh (z.op++[kind])=fh z.op++[.int .i64 (kind:Nat)]:=by simp [fh]
  show World.ownsRow _ _ _ _ _ (z.op++[kind]).length (fh (z.op++[kind]))
  rw [e1,e2]
  exact bJ ho (λ k hk=>Below.heap_setCell _ _ _ _ (λ e=>by have:=(ho.lt k hk).1; simp at e; omega))
 ·exact bJ h1.t (λ k hk=>kb k (h1.t.lt k hk).2 (Nr h1.t h1.o (by decide) hk) (λ e=>by have:=(h1.t.lt k hk).1; omega))
 ·rcases lY k e with x | x
  ·exact (h3 k hk).2.1 x
  have:=hS.lt h2 hk; omega
 ·rcases hk with x | x | x | x
  ·exact Or.inl ((h4 k).2 (Or.inl x))
  ·rcases lY k x with y | y
   ·exact Or.inl ((h4 k).2 (Or.inr (Or.inl y)))
   exact Or.inr y
  ·exact Or.inl ((h4 k).2 (Or.inr (Or.inr (Or.inl x))))
  exact Or.inl ((h4 k).2 (Or.inr (Or.inr (Or.inr x))))
 ·exact hg.os.trans f1.os
 ·exact hg.tape.trans f1.tape
 ·exact hg.output.trans f1.output
 exact kb k hk (λ e=>hn ((h4 k).2 (Or.inr (Or.inl e)))) (λ e=>hn ((h4 k).2 (Or.inl e)))
theorem lX {S:World->(Nat->Prop)->List Tok->Prop} {V:List Tok->Tok->Prop} {tell:Value} (hS:fG tell S V) {w:World} {r s0:Nat} {z:Sn} {ts:List Tok} {E:Nat->Prop} (h:RM S tell r s0 z ts E w) (h8:z.op.length<=8) (kind behind:Nat) (hV:VL V ts (iU z kind behind).ts) :
 Calls Tryz.prog 223 #[.pointer (some ⟨r,0,none⟩),.int .i64 (kind:Nat),.int .i64 (behind:Nat)] w (RP S tell r s0 (iU z kind behind) ts E w):=by
 obtain ⟨ov,bp,bv,D,h1,h2,h3,h4⟩:=h.ex
 obtain ⟨ao,cp,rfl⟩:=ah h1.o
 have c2:w.cell? ⟨r,2,none⟩=some (.slice ao z.op.length cp):=h1.b.cell 2
 have fz:=h1.b.fz
 by_cases hf:z.op.length=8
 ·have e:iU z kind behind=z.to 11:=by unfold iU; rw [if_pos hf]
  rw [e]
  have RR:=aa (h.to (Ev.refl E w) 11)
  rw [hf] at c2
  clear h h1 h2 h3 h4 hS e hV h8 hf
  go_enter Tryz.func223,Tryz.ntmps223
  go_wp2
  go_ret
  exact RR.out
 have e:iU z kind behind=⟨{ z with st:=behind,op:=z.op++[kind] },[⟨0,kind,z.at',0,0,[]⟩]⟩:=by unfold iU; rw [if_neg hf]
 rw [e] at hV ⊢
 obtain ⟨N,first,zl,mZ,hE,cV⟩:=RM.tell hS
 obtain ⟨i0,hi,hz0,hz1,dN⟩:=info_parts JP
 have HI:=aa hi
 have ia:=aa hz0
 have gO:=aa hz1
 have ic:=aa dN
 obtain ⟨n,hn⟩:∃n,n=z.op.length:=⟨_,rfl⟩
 have en:((n:Int) == 8)=false:=cU
 have hn8:n<=8:=by omega
 rw [<-hn] at c2
 obtain ⟨z1,Ns⟩:∃z1:Sn,z1={ z with st:=behind,op:=z.op++[kind] }:=⟨_,rfl⟩
 have HO:Hid (w.ownsRow (r+1) 106 1 (.slice ao n cp) n (fh z.op)):=by rw [hn]; exact h1.o
 have PU:Hid (∀w1 w2 v',ak w w1->w1.grownBy w2 (Value.slice ao n cp).ownBlock->w2.ownsRow (r+1) 106 1 v' (n+1) (fh z.op++[.int .i64 (kind:Nat)])->(v'.ownBlock=(Value.slice ao n cp).ownBlock\/v'.ownBlock=some w1.heap.size) ->
  ∃E',RM S tell r s0 z1 ts E' (w2.setCell ⟨r,2,none⟩ v')/\Ev E w E' (w2.setCell ⟨r,2,none⟩ v')):=by
  subst hn
  rw [Ns]
  exact λ w1 w2 v' f1 hg ho kP=>RM.push hS h1 h2 h3 h4 f1 hg kind behind ho kP
 have B0:Hid (ay w r (vL s0 z (.slice ao n cp) bp bv tell) 115):=by rw [hn]; exact h1.b
 have wF:=h1.b.lt
 have HV:Hid (V ts ⟨0,kind,z.at',0,0,[]⟩):=hV.1
 have TE:Hid (∀W E1,RM S tell r s0 z1 ts E1 W->Calls Tryz.prog N (first.push (gD ⟨0,kind,z.at',0,0,[]⟩)++zl) W λ res w'=>res=.returned (.tuple #[])/\∃E',RM S tell r s0 z1 (ts++[⟨0,kind,z.at',0,0,[]⟩]) E' w'/\Ev E1 W E' w'):=λ W E1 hW=>cV _ hW HV.out
 have DR:Hid (∀W E1 n,RM S tell r s0 z1 ts E1 W->RM S tell r s0 z1 ts E1 (W.drewN n)):=λ W E1 n hW=>RM.drewN hS hW n
 rw [<-Ns]
 have HZ:Hid (z1={ z with st:=behind,op:=z.op++[kind] }):=Ns
 clear h h1 h2 h3 h4 cV Ns e hf h8 hV hS hi hz0 hz1 dN hn
 subst mZ
 go_enter Tryz.func223,Tryz.ntmps223
 go_wp2_with (at_builtin; refine wpList_append_own_at _ rfl _ _ 104 rfl (r+1) 106 i0 _ 1 8 Tryz.underlying104 HI.out ia.out gO.out ic.out rfl (by decide) _ _ _ rfl (HO.out.alloc _) ⟨w.heap.size,0,none⟩ 1 1 [.int .i64 (kind:Nat)] rfl rfl ?c1 ?c2 ?c3 ?c4 ?c5 ?_)
 case c1 =>
  intro j u hj
  match j,hj with
  | 0,hj=>simp at hj; subst hj; simp [Addr.add]
 case c2=>intro u hu; simp at hu; subst hu; rfl
 case c3=>unfold maxLen; omega
 case c4=>omega
 case c5=>simp; omega
 intro v' w4 b7 hgrow _ kP
 obtain ⟨a4,c4,rfl⟩:=ah b7
 have P4:=PU.out _ w4 _ ((Fr.refl (λ_=>False) w).alloc _) hgrow b7 (by simpa using kP)
 have B4:ay w4 r (vL s0 z (.slice ao n cp) bp bv (.func (.func N) first zl)) 115:=by
  show w4.heap[r]?=_
  rw [hgrow.block r (by simp; omega) (λ e=>by have:=(HO.out.lt r e.symm).1; omega),Below.heap_alloc _ _ _ wF]
  exact B0.out
 have f4:=B4.fz
 have d2:w4.cell? ⟨r,2,none⟩=some (.slice ao n cp):=B4.cell 2
 obtain ⟨E4,Wi,hE4⟩:=P4
 have M4:=aa Wi
 have EV4:=aa hE4
 clear hgrow b7 kP Wi hE4 B4 PU HO B0 c2 fz
 go_wp2
 have e1:(w4.setCell ⟨r,2,none⟩ (.slice a4 (n+1) c4)).cell? ⟨r,1,none⟩=some (.int .i64 (z.at':Nat)):=by
  obtain ⟨_,_,_,_,y,_⟩:=M4.out.ex
  have:=y.b.cell 1
  rw [HZ.out] at this
  exact this
 have e14:(w4.setCell ⟨r,2,none⟩ (.slice a4 (n+1) c4)).cell? ⟨r,14,none⟩=some (.func (.func N) first zl):=by
  obtain ⟨_,_,_,_,y,_⟩:=M4.out.ex
  exact y.b.cell 14
 clear f4 d2
 generalize (w4.setCell ⟨r,2,none⟩ (.slice a4 (n+1) c4))=W1 at *
 go_region_with (refine (TE.out _ _ (DR.out _ _ 1 M4.out)).mono ?_; rintro res w2 ⟨rfl,E2,rW,wq⟩; have M2:=aa rW; have rV:=aa wq; clear rW wq)
 all_goals
  go_wp2
  go_ret
  exact ⟨by rw [HZ.out]; rfl,E2,M2.out,(EV4.out.drewN 1).trans rV.out⟩
theorem CG {S:World->(Nat->Prop)->List Tok->Prop} {V:List Tok->Tok->Prop} {tell:Value} (hS:fG tell S V) {w:World} {r s0:Nat} {z:Sn} {ts:List Tok} {E:Nat->Prop} (h:RM S tell r s0 z ts E w) (hx:z.tx=[]) (h8:z.op.length<=8) (b:Nat) (hb:b<256) (hV:VL V ts (bn z b).ts) :
 Calls Tryz.prog 182 #[.pointer (some ⟨r,0,none⟩),.int .u8 (b:Int)] w (RP S tell r s0 (bn z b) ts E w):=by
 by_cases oL:b=91
 ·have e:bn z b=iU z 5 1:=by unfold bn; rw [if_pos oL]
  rw [e] at hV ⊢
  clear e
  have C:=aa (lX hS h h8 5 1 hV)
  subst oL
  clear h hS hV hx h8
  go_enter Tryz.func182,Tryz.ntmps182
  go_wp2_with fail
  refine C.out.mono ?_
  rintro res w1 ⟨rfl,hR⟩
  have HR:=aa hR
  clear hR
  go_wp2
  go_ret
  exact ⟨rfl,HR.out⟩
 have n91:((b:Int) == 91)=false:=cU
 by_cases mS:b=123
 ·have e:bn z b=iU z 6 2:=by unfold bn; rw [if_neg oL,if_pos mS]
  rw [e] at hV ⊢
  clear e
  have C:=aa (lX hS h h8 6 2 hV)
  subst mS
  clear h hS hV hx h8
  go_enter Tryz.func182,Tryz.ntmps182
  go_wp2_with fail
  refine C.out.mono ?_
  rintro res w1 ⟨rfl,hR⟩
  have HR:=aa hR
  clear hR
  go_wp2
  go_ret
  exact ⟨rfl,HR.out⟩
 have n123:((b:Int) == 123)=false:=cU
 by_cases fI:b=34
 ·have e:bn z b=cy z 3:=by unfold bn; rw [if_neg oL,if_neg mS,if_pos fI]
  rw [e] at hV ⊢
  clear e
  have C:=aa (jw hS h hx 3)
  subst fI
  clear h hS hV hx h8
  go_enter Tryz.func182,Tryz.ntmps182
  go_wp2_with fail
  refine C.out.mono ?_
  rintro res w1 ⟨rfl,hR⟩
  have HR:=aa hR
  clear hR
  go_wp2
  go_ret
  exact ⟨rfl,HR.out⟩
 have YW:((b:Int) == 34)=false:=cU
 by_cases Em:b=116
 ·have e:bn z b=aY z 2 [114,117,101]:=by unfold bn; rw [if_neg oL,if_neg mS,if_neg fI,if_pos Em]
  rw [e] at hV ⊢
  clear e
  have C:=aa (kZ hS h hx 2 [114,117,101])
  subst Em
  clear h hS hV hx h8
  go_enter Tryz.func182,Tryz.ntmps182
  go_wp2_with fail
  refine C.out.mono ?_
  rintro res w1 ⟨rfl,hR⟩
  have HR:=aa hR
  clear hR
  go_wp2
  go_ret
  exact ⟨rfl,HR.out⟩
 have n116:((b:Int) == 116)=false:=cU
 by_cases JQ:b=102
 ·have e:bn z b=aY z 1 [97,108,115,101]:=by unfold bn; rw [if_neg oL,if_neg mS,if_neg fI,if_neg Em,if_pos JQ]
  rw [e] at hV ⊢
  clear e
  have C:=aa (kZ hS h hx 1 [97,108,115,101])
  subst JQ
  clear h hS hV hx h8
  go_enter Tryz.func182,Tryz.ntmps182
  go_wp2_with fail
  refine C.out.mono ?_
  rintro res w1 ⟨rfl,hR⟩
  have HR:=aa hR
  clear hR
  go_wp2
  go_ret
  exact ⟨rfl,HR.out⟩
 have n102:((b:Int) == 102)=false:=cU
 by_cases Nt:b=110
 ·have e:bn z b=aY z 0 [117,108,108]:=by unfold bn; rw [if_neg oL,if_neg mS,if_neg fI,if_neg Em,if_neg JQ,if_pos Nt]
  rw [e] at hV ⊢
  clear e
  have C:=aa (kZ hS h hx 0 [117,108,108])
  subst Nt
  clear h hS hV hx h8
  go_enter Tryz.func182,Tryz.ntmps182
  go_wp2_with fail
  refine C.out.mono ?_
  rintro res w1 ⟨rfl,hR⟩
  have HR:=aa hR
  clear hR
  go_wp2
  go_ret
  exact ⟨rfl,HR.out⟩
 have n110:((b:Int) == 110)=false:=cU
 have e:bn z b=fQ z b:=by unfold bn; rw [if_neg oL,if_neg mS,if_neg fI,if_neg Em,if_neg JQ,if_neg Nt]
 rw [e]
 clear e
 have C:=aa (sD hS h hx b hb)
 clear h hS hV hx h8 oL mS fI Em JQ Nt
 go_enter Tryz.func182,Tryz.ntmps182
 go_wp2_with fail
 refine C.out.mono ?_
 rintro res w1 ⟨rfl,hR⟩
 have HR:=aa hR
 clear hR
 go_wp2
 go_ret
 exact ⟨rfl,HR.out⟩
theorem En {S:World->(Nat->Prop)->List Tok->Prop} {V:List Tok->Tok->Prop} {tell:Value} (hS:fG tell S V) {w:World} {r s0:Nat} {z:Sn} {ts:List Tok} {E:Nat->Prop} (h:RM S tell r s0 z ts E w) (hs0:s0=z.st) (hok:kI z) (bN:z.at'<=4000000) (hst:z.st<=5) (b:Nat) (hb:b<256) (hV:VL V ts (bV z b).ts) :
 Calls Tryz.prog 139 #[.pointer (some ⟨r,0,none⟩),.int .u8 (b:Int)] w (RP S tell r s0 (bV z b) ts E w):=by
 obtain ⟨ov,bp,bv,h1⟩:=h.rs
 have c0:w.cell? ⟨r,0,none⟩=some (.int .i64 (s0:Nat)):=h1.b.cell 0
 have hx:z.tx=[]:=hok.x ⟨by omega,by omega⟩
 have h8:=hok.op.1
 have h6:=hok.op.2
 clear h1
 by_cases s5:z.st=5
 ·rw [hs0,s5] at c0
  have e:bV z b=aF z b:=by unfold bV; simp [s5]
  rw [e] at hV ⊢
  have C:=aa (yC hS h h8 h6 bN b hb hV)
  clear h hS hV hx h8 h6 hok bN hst e
  go_enter Tryz.func139,Tryz.ntmps139
  go_wp2_with fail
  refine C.out.mono ?_
  rintro res w1 ⟨rfl,hR⟩
  have HR:=aa hR
  clear hR
  go_wp2
  go_ret
  exact ⟨rfl,HR.out⟩
 by_cases s4:z.st=4
 ·rw [hs0,s4] at c0
  by_cases oQ:b=58
  ·subst oQ
   have e:bV z 58=z.to 0:=by unfold bV; simp [s4]
   rw [e]
   have C:=aa (h.to (Ev.refl E w) 0)
   clear h hS hV hx h8 h6 hok bN hst e
   go_enter Tryz.func139,Tryz.ntmps139
   go_wp2
   go_ret
   exact C.out
  skip
  have n58:((b:Int) == 58)=false:=cU
  have e:bV z b=z.to 12:=by unfold bV; simp [s4,oQ]
  rw [e]
  have C:=aa (h.to (Ev.refl E w) 12)
  clear h hS hV hx h8 h6 hok bN hst e
  go_enter Tryz.func139,Tryz.ntmps139
  go_wp2
  go_ret
  exact C.out
 by_cases s1:z.st=1
 ·rw [hs0,s1] at c0
  by_cases Fa:b=93
  ·subst Fa
   have e:bV z 93=bS z:=by unfold bV; simp [s1]
   rw [e] at hV ⊢
   have C:=aa (AH hS h (hok.ne (Or.inl s1)) h8 bN hV)
   clear h hS hV hx h8 h6 hok bN hst e
   go_enter Tryz.func139,Tryz.ntmps139
   go_wp2_with fail
   refine C.out.mono ?_
   rintro res w1 ⟨rfl,hR⟩
   have HR:=aa hR
   clear hR
   go_wp2
   go_ret
   exact ⟨rfl,HR.out⟩
  skip
  have n93:((b:Int) == 93)=false:=cU
  have e:bV z b=bn z b:=by unfold bV; simp [s1,Fa]
  rw [e] at hV ⊢
  have C:=aa (CG hS h hx h8 b hb hV)
  clear h hS hV hx h8 h6 hok bN hst e Fa
  go_enter Tryz.func139,Tryz.ntmps139
  go_wp2_with fail
  refine C.out.mono ?_
  rintro res w1 ⟨rfl,hR⟩
  have HR:=aa hR
  clear hR
  go_wp2
  go_ret
  exact ⟨rfl,HR.out⟩
 by_cases s0':z.st=0
 ·rw [hs0,s0'] at c0
  have e:bV z b=bn z b:=by unfold bV; simp [s0']
  rw [e] at hV ⊢
  have C:=aa (CG hS h hx h8 b hb hV)
  clear h hS hV hx h8 h6 hok bN hst e
  go_enter Tryz.func139,Tryz.ntmps139
  go_wp2_with fail
  refine C.out.mono ?_
  rintro res w1 ⟨rfl,hR⟩
  have HR:=aa hR
  clear hR
  go_wp2
  go_ret
  exact ⟨rfl,HR.out⟩
 by_cases s2:z.st=2
 ·rw [hs0,s2] at c0
  by_cases Xq:b=125
  ·subst Xq
   have e:bV z 125=bS z:=by unfold bV; simp [s2]
   rw [e] at hV ⊢
   have C:=aa (AH hS h (hok.ne (Or.inr (Or.inl s2))) h8 bN hV)
   clear h hS hV hx h8 h6 hok bN hst e
   go_enter Tryz.func139,Tryz.ntmps139
   go_wp2_with fail
   refine C.out.mono ?_
   rintro res w1 ⟨rfl,hR⟩
   have HR:=aa hR
   clear hR
   go_wp2
   go_ret
   exact ⟨rfl,HR.out⟩
  skip
  have n125:((b:Int) == 125)=false:=cU
  by_cases fI:b=34
  ·subst fI
   have e:bV z 34=cy z 2:=by unfold bV; simp [s2]
   rw [e] at hV ⊢
   have C:=aa (jw hS h hx 2)
   clear h hS hV hx h8 h6 hok bN hst e
   go_enter Tryz.func139,Tryz.ntmps139
   go_wp2_with fail
   refine C.out.mono ?_
   rintro res w1 ⟨rfl,hR⟩
   have HR:=aa hR
   clear hR
   go_wp2
   go_ret
   exact ⟨rfl,HR.out⟩
  skip
  have YW:((b:Int) == 34)=false:=cU
  have e:bV z b=z.to 12:=by unfold bV; simp [s2,Xq,fI]
  rw [e]
  have C:=aa (h.to (Ev.refl E w) 12)
  clear h hS hV hx h8 h6 hok bN hst e
  go_enter Tryz.func139,Tryz.ntmps139
  go_wp2
  go_ret
  exact C.out
 have s3:z.st=3:=by omega
 rw [hs0,s3] at c0
 by_cases fI:b=34
 ·subst fI
  have e:bV z 34=cy z 2:=by unfold bV; simp [s3]
  rw [e] at hV ⊢
  have C:=aa (jw hS h hx 2)
  clear h hS hV hx h8 h6 hok bN hst e
  go_enter Tryz.func139,Tryz.ntmps139
  go_wp2_with fail
  refine C.out.mono ?_
  rintro res w1 ⟨rfl,hR⟩
  have HR:=aa hR
  clear hR
  go_wp2
  go_ret
  exact ⟨rfl,HR.out⟩
 skip
 have YW:((b:Int) == 34)=false:=cU
 have e:bV z b=z.to 12:=by unfold bV; simp [s3,fI]
 rw [e]
 have C:=aa (h.to (Ev.refl E w) 12)
 clear h hS hV hx h8 h6 hok bN hst e
 go_enter Tryz.func139,Tryz.ntmps139
 go_wp2
 go_ret
 exact C.out
theorem Qe {S:World->(Nat->Prop)->List Tok->Prop} {V:List Tok->Tok->Prop} {tell:Value} (hS:fG tell S V) {w:World} {r s0:Nat} {z:Sn} {ts:List Tok} {E:Nat->Prop} (h:RM S tell r s0 z ts E w) (hs0:s0=z.st) (hok:kI z) (bN:z.at'<=4000000) (hst:z.st<=10) (hx:z.tx.length<=4000000) (b:Nat) (hb:b<256) (hV:VL V ts (aq z b).ts) :
 Calls Tryz.prog 102 #[.pointer (some ⟨r,0,none⟩),.int .u8 (b:Int)] w (RP S tell r s0 (aq z b) ts E w):=by
 obtain ⟨ov,bp,bv,h1⟩:=h.rs
 have c0:w.cell? ⟨r,0,none⟩=some (.int .i64 (s0:Nat)):=h1.b.cell 0
 clear h1
 by_cases s6:z.st=6
 ·rw [hs0,s6] at c0
  have e:aq z b=gf z b:=by unfold aq; simp [s6]
  rw [e] at hV ⊢
  have C:=aa (vq hS h (hok.st (Or.inl s6)) hx bN b hb hV)
  clear h hS hV hx hok bN hst e hs0 s6
  go_enter Tryz.func102,Tryz.ntmps102
  go_wp2_with fail
  refine C.out.mono ?_
  rintro res w1 ⟨rfl,hR⟩
  have HR:=aa hR
  clear hR
  go_wp2
  go_ret
  exact ⟨rfl,HR.out⟩
 by_cases s7:z.st=7
 ·rw [hs0,s7] at c0
  have e:aq z b=lM z b:=by unfold aq; simp [s7]
  rw [e] at hV ⊢
  have C:=aa (sC hS h (hok.st (Or.inr s7)) hx b hb)
  clear h hS hV hx hok bN hst e hs0 s7
  go_enter Tryz.func102,Tryz.ntmps102
  go_wp2_with fail
  refine C.out.mono ?_
  rintro res w1 ⟨rfl,hR⟩
  have HR:=aa hR
  clear hR
  go_wp2
  go_ret
  exact ⟨rfl,HR.out⟩
 by_cases s8:z.st=8
 ·rw [hs0,s8] at c0
  have e:aq z b=gC z b:=by unfold aq; simp [s8]
  rw [e] at hV ⊢
  have C:=aa (m_ hS h hs0 (Or.inl s8) hok bN b hb hV)
  clear h hS hV hx hok bN hst e hs0 s8
  go_enter Tryz.func102,Tryz.ntmps102
  go_wp2_with fail
  refine C.out.mono ?_
  rintro res w1 ⟨rfl,hR⟩
  have HR:=aa hR
  clear hR
  go_wp2
  go_ret
  exact ⟨rfl,HR.out⟩
 by_cases s9:z.st=9
 ·rw [hs0,s9] at c0
  have e:aq z b=gC z b:=by unfold aq; simp [s9]
  rw [e] at hV ⊢
  have C:=aa (m_ hS h hs0 (Or.inr s9) hok bN b hb hV)
  clear h hS hV hx hok bN hst e hs0 s9
  go_enter Tryz.func102,Tryz.ntmps102
  go_wp2_with fail
  refine C.out.mono ?_
  rintro res w1 ⟨rfl,hR⟩
  have HR:=aa hR
  clear hR
  go_wp2
  go_ret
  exact ⟨rfl,HR.out⟩
 by_cases Nu:z.st=10
 ·rw [hs0,Nu] at c0
  have e:aq z b=fF z b:=by unfold aq; simp [Nu]
  rw [e] at hV ⊢
  have C:=aa (AG hS h (hok.w Nu).1 (hok.w Nu).2.1 bN b hV)
  clear h hS hV hx hok bN hst e hs0 Nu
  go_enter Tryz.func102,Tryz.ntmps102
  go_wp2_with fail
  refine C.out.mono ?_
  rintro res w1 ⟨rfl,hR⟩
  have HR:=aa hR
  clear hR
  go_wp2
  go_ret
  exact ⟨rfl,HR.out⟩
 have ns:z.st<=5:=by omega
 have KB:=aa (λ w=>ot (w:=w) b hb)
 have n6:((s0:Int) == 6)=false:=cU
 have n7:((s0:Int) == 7)=false:=cU
 have n8:((s0:Int) == 8)=false:=cU
 have n9:((s0:Int) == 9)=false:=cU
 have Xm:((s0:Int) == 10)=false:=cU
 by_cases wF:cJ b=true
 ·have e:aq z b=z.to z.st:=by unfold aq; simp [s6,s7,s8,s9,Nu,wF]
  rw [e]
  rw [wF] at KB
  have C:=aa (h.to (Ev.refl E w) z.st)
  rw [<-hs0] at C ⊢
  clear h hS hV hx hok bN hst e s6 s7 s8 s9 Nu wF ns hs0
  go_enter Tryz.func102,Tryz.ntmps102
  go_wp2_with fail
  refine (KB.out _).mono ?_
  rintro res w1 ⟨rfl,rfl⟩
  go_wp2
  go_ret
  exact C.out
 have Xr:cJ b=false:=by simpa using wF
 have e:aq z b=bV z b:=by unfold aq; simp [s6,s7,s8,s9,Nu,wF]
 rw [e] at hV ⊢
 rw [Xr] at KB
 have C:=aa (En hS h hs0 hok bN ns b hb hV)
 clear h hS hV hx hok bN hst e s6 s7 s8 s9 Nu wF Xr ns hs0
 go_enter Tryz.func102,Tryz.ntmps102
 go_wp2_with fail
 refine (KB.out _).mono ?_
 rintro res w1 ⟨rfl,rfl⟩
 go_wp2_with fail
 refine C.out.mono ?_
 rintro res w1 ⟨rfl,hR⟩
 have HR:=aa hR
 clear hR
 go_wp2
 go_ret
 exact ⟨rfl,HR.out⟩
end Go.Proofs.YtcbadebjpogmlaaGreatDoor
