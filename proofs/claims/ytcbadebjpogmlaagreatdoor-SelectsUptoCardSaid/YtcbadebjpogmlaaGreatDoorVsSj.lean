import Derived.Test.YtcbadebjpogmlaaGreatDoorVsSg
set_option maxHeartbeats 2000000
set_option maxRecDepth 100000
namespace Go.Proofs.YtcbadebjpogmlaaGreatDoor
open Go.RowKit Tr
theorem iz (k:Nat):fK k []=[]:=by unfold fK; split<;>rfl
theorem Fr.sj {w0 w:World} {r:Nat} (h:Fr (λ k=>k=r) w0 w) (a0 a1 a2 a3 a4 a5:Value):Fr (λ k=>k=r) w0 ((((((w.setCell ⟨r,3,none⟩ a0).setCell ⟨r,4,none⟩ a1).setCell ⟨r,5,none⟩ a2).setCell ⟨r,6,none⟩ a3).setCell ⟨r,7,none⟩ a4).setCell ⟨r,8,none⟩ a5) :=
 (((((h.setCell ⟨r,3,none⟩ (Or.inl rfl) _).setCell ⟨r,4,none⟩ (Or.inl rfl) _).setCell ⟨r,5,none⟩ (Or.inl rfl) _).setCell ⟨r,6,none⟩ (Or.inl rfl) _).setCell ⟨r,7,none⟩ (Or.inl rfl) _).setCell ⟨r,8,none⟩ (Or.inl rfl) _
theorem jw {S:World->(Nat->Prop)->List Tok->Prop} {V:List Tok->Tok->Prop} {tell:Value} (hS:fG tell S V) {w:World} {r s0:Nat} {z:Sn} {ts:List Tok} {E:Nat->Prop} (h:RM S tell r s0 z ts E w) (hx:z.tx=[]) (kind:Nat) :
 Calls Tryz.prog 183 #[.pointer (some ⟨r,0,none⟩),.int .i64 (kind:Nat)] w (RP S tell r s0 (cy z kind) ts E w):=by
 obtain ⟨ov,bp,bv,D,h1,h2,h3,h4⟩:=h.ex
 have c1:w.cell? ⟨r,1,none⟩=some (.int .i64 (z.at':Nat)):=h1.b.cell 1
 have c3:w.cell? ⟨r,3,none⟩=some (.int .i64 (z.tk.k:Nat)):=h1.b.cell 3
 have c4:w.cell? ⟨r,4,none⟩=some (.int .i64 (z.tk.of:Nat)):=h1.b.cell 4
 have c5:w.cell? ⟨r,5,none⟩=some (.int .i64 (z.tk.ai:Nat)):=h1.b.cell 5
 have c6:w.cell? ⟨r,6,none⟩=some (.int .i64 (z.tk.to:Nat)):=h1.b.cell 6
 have c7:w.cell? ⟨r,7,none⟩=some (.int .i64 z.tk.n):=h1.b.cell 7
 have c8:w.cell? ⟨r,8,none⟩=some (.string (bZ (fK z.tk.k z.tk.t))):=h1.b.cell 8
 have fz:=h1.b.fz
 have R:=RM.set (z':=(cy z kind).z) (s1:=s0) hS h1 h2 h3 h4 (w':=((((((w.setCell ⟨r,3,none⟩ (.int .i64 (kind:Nat))).setCell ⟨r,4,none⟩ (.int .i64 (4))).setCell ⟨r,5,none⟩ (.int .i64 (z.at':Nat))).setCell ⟨r,6,none⟩ (.int .i64 0)).setCell ⟨r,7,none⟩ (.int .i64 0)).setCell ⟨r,8,none⟩ (.string ⟨#[]⟩))) (by
  have e:fK kind ([]:List UInt8)=[]:=iz kind
  have:=((((((h1.b.set 3 (.int .i64 (kind:Nat))).set 4 (.int .i64 (4))).set 5 (.int .i64 (z.at':Nat))).set 6 (.int .i64 0)).set 7 (.int .i64 0)).set 8 (.string ⟨#[]⟩))
  unfold cy
  show ay _ _ (vL s0 _ ov bp bv tell) _
  unfold vL
  simp only [e]
  exact this) (Fr.sj (Fr.refl _ w) _ _ _ _ _ _) rfl (by show fK kind z.tx=_; rw [hx,iz,iz])
 have RR:Hid (RP S tell r s0 (cy z kind) ts E w (.returned (.int .i64 6)) ((((((w.setCell ⟨r,3,none⟩ (.int .i64 (kind:Nat))).setCell ⟨r,4,none⟩ (.int .i64 (4))).setCell ⟨r,5,none⟩ (.int .i64 (z.at':Nat))).setCell ⟨r,6,none⟩ (.int .i64 0)).setCell ⟨r,7,none⟩ (.int .i64 0)).setCell ⟨r,8,none⟩ (.string ⟨#[]⟩))):=⟨rfl,E,by show RM _ _ _ _ _ (ts++[]) _ _; rw [List.append_nil]; exact R.1,R.2⟩
 clear h h1 h2 h3 h4 hS R hx
 go_enter Tryz.func183,Tryz.ntmps183
 go_wp2
 go_ret
 exact RR.out
theorem kZ {S:World->(Nat->Prop)->List Tok->Prop} {V:List Tok->Tok->Prop} {tell:Value} (hS:fG tell S V) {w:World} {r s0:Nat} {z:Sn} {ts:List Tok} {E:Nat->Prop} (h:RM S tell r s0 z ts E w) (hx:z.tx=[]) (of:Nat) (rest:List UInt8) :
 Calls Tryz.prog 224 #[.pointer (some ⟨r,0,none⟩),.int .i64 (of:Nat),.string (bZ rest)] w (RP S tell r s0 (aY z of rest) ts E w):=by
 obtain ⟨ov,bp,bv,D,h1,h2,h3,h4⟩:=h.ex
 have c1:w.cell? ⟨r,1,none⟩=some (.int .i64 (z.at':Nat)):=h1.b.cell 1
 have c3:w.cell? ⟨r,3,none⟩=some (.int .i64 (z.tk.k:Nat)):=h1.b.cell 3
 have c4:w.cell? ⟨r,4,none⟩=some (.int .i64 (z.tk.of:Nat)):=h1.b.cell 4
 have c5:w.cell? ⟨r,5,none⟩=some (.int .i64 (z.tk.ai:Nat)):=h1.b.cell 5
 have c6:w.cell? ⟨r,6,none⟩=some (.int .i64 (z.tk.to:Nat)):=h1.b.cell 6
 have c7:w.cell? ⟨r,7,none⟩=some (.int .i64 z.tk.n):=h1.b.cell 7
 have c8:w.cell? ⟨r,8,none⟩=some (.string (bZ (fK z.tk.k z.tk.t))):=h1.b.cell 8
 have c11:w.cell? ⟨r,11,none⟩=some (.string (bZ z.rs)):=h1.b.cell 11
 have fz:=h1.b.fz
 have R:=RM.set (z':=(aY z of rest).z) (s1:=s0) hS h1 h2 h3 h4 (w':=((((((w.setCell ⟨r,3,none⟩ (.int .i64 (3))).setCell ⟨r,4,none⟩ (.int .i64 (of:Nat))).setCell ⟨r,5,none⟩ (.int .i64 (z.at':Nat))).setCell ⟨r,6,none⟩ (.int .i64 0)).setCell ⟨r,7,none⟩ (.int .i64 0)).setCell ⟨r,8,none⟩ (.string ⟨#[]⟩)).setCell ⟨r,11,none⟩ (.string (bZ rest))) (((((((h1.b.set 3 (.int .i64 (3))).set 4 (.int .i64 (of:Nat))).set 5 (.int .i64 (z.at':Nat))).set 6 (.int .i64 0)).set 7 (.int .i64 0)).set 8 (.string ⟨#[]⟩)).set 11 (.string (bZ rest))) ((Fr.sj (Fr.refl _ w) _ _ _ _ _ _).setCell ⟨r,11,none⟩ (Or.inl rfl) _) rfl (by show fK 3 z.tx=_; rw [hx,iz,iz])
 have RR:Hid (RP S tell r s0 (aY z of rest) ts E w (.returned (.int .i64 10)) (((((((w.setCell ⟨r,3,none⟩ (.int .i64 (3))).setCell ⟨r,4,none⟩ (.int .i64 (of:Nat))).setCell ⟨r,5,none⟩ (.int .i64 (z.at':Nat))).setCell ⟨r,6,none⟩ (.int .i64 0)).setCell ⟨r,7,none⟩ (.int .i64 0)).setCell ⟨r,8,none⟩ (.string ⟨#[]⟩)).setCell ⟨r,11,none⟩ (.string (bZ rest)))):=⟨rfl,E,by show RM _ _ _ _ _ (ts++[]) _ _; rw [List.append_nil]; exact R.1,R.2⟩
 clear h h1 h2 h3 h4 hS R hx
 go_enter Tryz.func224,Tryz.ntmps224
 go_wp2
 go_ret
 exact RR.out
end Go.Proofs.YtcbadebjpogmlaaGreatDoor
