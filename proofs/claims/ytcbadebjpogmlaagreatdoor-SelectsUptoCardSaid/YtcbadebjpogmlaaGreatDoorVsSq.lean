import Derived.Test.YtcbadebjpogmlaaGreatDoorVsGa
import Derived.Test.YtcbadebjpogmlaaGreatDoorVsSa
set_option maxHeartbeats 2000000
set_option maxRecDepth 100000
namespace Tr
theorem Xs {z:Sn} (hok:kI z) {b:Nat} (h:(aq z b).z.st=5):z.st=5\/∃t ∈ (aq z b).ts,t.k=1\/t.k=3:=by
 have shut:∀z:Sn,∃t ∈ (bS z).ts,t.k=1\/t.k=3:=λ z=>⟨_,List.mem_singleton.2 rfl,Or.inl rfl⟩
 unfold aq at h ⊢
 by_cases h6:z.st=6
 ·rw [if_pos h6] at h ⊢
  unfold gf at h ⊢
  split at h
  ·simp [Sn.to] at h
  rename_i c1
  rw [if_neg c1]
  split at h
  ·simp [Sn.to] at h
  rename_i c2
  rw [if_neg c2]
  split at h
  ·rename_i c3
   rw [if_pos c3]
   unfold fP at h ⊢
   split at h
   ·rename_i c4
    rw [if_pos c4]
    exact Or.inr ⟨_,List.mem_singleton.2 rfl,Or.inr c4⟩
   simp at h
  simp [dZ] at h
 rw [if_neg h6] at h ⊢
 by_cases h7:z.st=7
 ·rw [if_pos h7] at h ⊢
  unfold lM at h
  split at h
  ·simp [Sn.to] at h
  simp [dZ] at h
 rw [if_neg h7] at h ⊢
 by_cases h8:z.st=8\/z.st=9
 ·rw [if_pos h8] at h ⊢
  have hk:=(hok.n h8).2.2.2.2
  unfold gC at h ⊢
  split at h
  ·simp [Sn.to] at h
  rename_i c1
  rw [if_neg c1]
  split at h
  ·simp [dw] at h
  rename_i c2
  rw [if_neg c2]
  split at h
  ·simp [Sn.to] at h
  rename_i c3
  rw [if_neg c3]
  exact Or.inr ⟨cz z,List.mem_cons_self,Or.inr hk⟩
 rw [if_neg h8] at h ⊢
 by_cases h10:z.st=10
 ·rw [if_pos h10] at h ⊢
  have hk:=(hok.w h10).2.2
  unfold fF at h ⊢
  split at h
  ·simp [Sn.to] at h
  rename_i c1
  rw [if_neg c1]
  split at h
  ·rename_i c2
   rw [if_pos c2]
   exact Or.inr ⟨_,List.mem_singleton.2 rfl,Or.inr hk⟩
  simp at h
 rw [if_neg h10] at h ⊢
 by_cases hb:cJ b=true
 ·rw [if_pos hb] at h
  exact Or.inl h
 rw [if_neg hb] at h ⊢
 unfold bV at h ⊢
 by_cases h5:z.st=5
 ·exact Or.inl h5
 rw [if_neg h5] at h ⊢
 split at h
 ·simp [Sn.to] at h
 rename_i c1
 rw [if_neg c1]
 split at h
 ·rename_i c2
  rw [if_pos c2]
  exact Or.inr (shut z)
 rename_i c2
 split at h
 ·unfold bn at h
  repeat' split at h
  ·revert h; unfold iU; split<;>simp [Sn.to]
  ·revert h; unfold iU; split<;>simp [Sn.to]
  ·simp [cy] at h
  ·simp [aY] at h
  ·simp [aY] at h
  ·simp [aY] at h
  revert h; unfold fQ; split
  ·simp
  split<;>simp [dw]
 split at h
 ·simp [cy] at h
 simp [Sn.to] at h
theorem rE {g:Gs} {t:Tok} {kp:Bool} (ht:f_ g.sh t) (h:t.k=1\/t.k=3\/g.last≠none):(aR g t kp).last≠none:=by
 unfold aR
 by_cases h0:t.k=0
 ·rw [if_pos h0]; exact h.resolve_left (by omega) |>.resolve_left (by omega)
 rw [if_neg h0]
 by_cases h1:t.k=1
 ·rw [if_pos h1]
  have:=ht.k1 h1
  cases hs:g.st with
  | nil=>simp [Gs.sh,hs] at this
  | cons f r=>simp [dQ]
 rw [if_neg h1]
 by_cases h2:t.k=2
 ·rw [if_pos h2]; exact h.resolve_left (by omega) |>.resolve_left (by omega)
 rw [if_neg h2]
 simp [dQ]
theorem jB (g:Gs) (t:Tok) (r:List Tok):dB g (t::r)=dB (aR g t true) r:=rfl
theorem lI:∀{ts:List Tok} {g:Gs},o_ g.sh ts->((∃t ∈ ts,t.k=1\/t.k=3)\/g.last≠none)->(dB g ts).last≠none
 | [],_,_,h=>h.resolve_left (λ⟨_,x,_⟩=>by cases x)
 | t::r,g,ho,h=>by
  rw [jB]
  refine lI (by rw [jW g t true ho.1]; exact ho.2) ?_
  rcases h with ⟨x,hx,hk⟩ | h
  ·rcases List.mem_cons.1 hx with e | e
   ·subst e; exact Or.inr (rE ho.1 (by omega))
   exact Or.inl ⟨x,e,hk⟩
  exact Or.inr (rE ho.1 (Or.inr (Or.inr h)))
theorem lu:∀{ts:List Tok} {g:Gs},o_ g.sh ts->(dB g ts).sh=bQ g.sh ts
 | [],_,_=>rfl
 | t::r,g,ho=>by
  rw [jB,lu (by rw [jW g t true ho.1]; exact ho.2),jW g t true ho.1]; rfl
theorem Xt:∀(l:List UInt8) {z:Sn} {g:Gs},kI z->Lk z g.sh->z.st<=10->z.at'+l.length<=4000000->(z.st=5->g.last≠none)->(aB z l).e=0->(aB z l).z.st=5->(dB g (aB z l).ts).last≠none
 | [],z,g,_,_,_,_,h5,_,h=>h5 h
 | b::l,z,g,h1,h2,h3,h4,h5,he,h=>by
  have hl:z.at'+(l.length+1)<=4000000:=by simpa using h4
  have S:=kN h1 h2 h3 (by omega) b.toNat
  rw [aB] at he h ⊢
  by_cases c12:(aq z b.toNat).z.st=12
  ·rw [if_pos c12] at he; cases he
  rw [if_neg c12] at he h ⊢
  by_cases c11:(aq z b.toNat).z.st=11
  ·rw [if_pos c11] at he; cases he
  rw [if_neg c11] at he h ⊢
  have c10:(aq z b.toNat).z.st<=10:=by have:=S.st; omega
  have bN:=S.at'
  have o1:=S.ok c10
  have O:kI { (aq z b.toNat).z with at':=(aq z b.toNat).z.at'+1 }:=⟨o1.op,o1.ne,o1.tk,o1.st,o1.w,o1.n,o1.m,o1.x⟩
  simp only at he h ⊢
  rw [kO]
  refine Xt l O (by rw [lu S.tok]; exact S.lk c10) c10 (by simp only [bN]; omega) (λ e5=>?_) he h
  rcases Xs h1 e5 with x | x
  ·exact lI S.tok (Or.inr (h5 x))
  exact lI S.tok (Or.inl x)
def cw (l:List UInt8):Nat:=if (aB az l).e≠0 then (aB az l).e else if cq (aB az l).z=true then 0 else 2
def nK (l:List UInt8):Nat:=if (aB az l).e≠0 then (aB az l).z.at' else if cq (aB az l).z=true then 0 else l.length
def jC (l:List UInt8):List Tok:=(aB az l).ts++jn (aB az l).z
def ja (l:List UInt8):Option Tv:=(dB bK (jC l)).last
theorem o_.one {s:Sh} {t:Tok} (h:f_ s t):o_ s [t]:=⟨h,trivial⟩
theorem Fl {l:List UInt8} (hl:l.length<=4000000) (h:cw l=0):o_ ⟨[],0⟩ (jC l)/\(dB bK (jC l)).st=[]/\∃t,ja l=some t:=by
 have R:=lf l d_.1 d_.2 (by simp [az]) (by simp [az]; omega)
 have he:(aB az l).e=0:=by
  unfold cw at h
  by_cases x:(aB az l).e≠0
  ·rw [if_pos x] at h; exact h
  simpa using x
 have hw:cq (aB az l).z=true:=by
  unfold cw at h
  rw [if_neg (by simpa using he)] at h
  by_cases x:cq (aB az l).z=true
  ·exact x
  rw [if_neg x] at h; cases h
 obtain ⟨r1,r2,r3,r4⟩:=R.ok he
 have hop:(aB az l).z.op=[]:=by simp [cq] at hw; exact hw.2
 have h59:(aB az l).z.st=5\/(aB az l).z.st=9:=by simp [cq] at hw; exact hw.1
 have bN:(aB az l).z.at'=l.length:=by simpa [az] using r3
 have hE:o_ (bQ ⟨[],0⟩ (aB az l).ts) (jn (aB az l).z):=by
  unfold jn
  split
  ·rename_i h9; exact o_.one (zj r1 r4 (Or.inr h9) (by omega))
  trivial
 have Xu:o_ ⟨[],0⟩ (jC l):=R.tok.app hE
 have hsh:(dB bK (jC l)).sh=bQ ⟨[],0⟩ (jC l):=lu (g:=bK) Xu
 refine ⟨Xu,?_,?_⟩
 ·have e:(dB bK (jC l)).sh.op=[]:=by
   rw [hsh]
   unfold jC
   rw [nJ]
   unfold jn
   split
   ·rename_i h9
    have hk:(cz (aB az l).z).k=3:=(r1.n (Or.inr h9)).2.2.2.2
    have:=r4.op
    simp [bQ,gJ,hk] at this ⊢
    rw [hop] at this; exact this
   have:=r4.op; rw [hop] at this; simpa [bQ] using this
  simpa [Gs.sh] using e
 have:(dB bK (jC l)).last≠none:=by
  unfold jC
  rw [kO]
  have hg:(dB bK (aB az l).ts).sh=bQ ⟨[],0⟩ (aB az l).ts:=lu (g:=bK) R.tok
  rcases h59 with h5 | h9
  ·have e:jn (aB az l).z=[]:=by unfold jn; rw [if_neg (by omega)]
   rw [e]
   exact Xt l d_.1 (g:=bK) d_.2 (by simp [az]) (by simp [az]; omega) (λ x=>by simp [az] at x) he h5
  have e:jn (aB az l).z=[cz (aB az l).z]:=by unfold jn; rw [if_pos h9]
  rw [e] at hE ⊢
  exact lI (by rw [hg]; exact hE) (Or.inl ⟨_,List.mem_singleton.2 rfl,Or.inr (r1.n (Or.inr h9)).2.2.2.2⟩)
 cases hv:ja l with
 | none=>exact absurd hv this
 | some t=>exact ⟨t,rfl⟩
end Tr
namespace Go.Proofs.YtcbadebjpogmlaaGreatDoor
open Go.RowKit Tr
theorem vt {l:List Nat} {m k:Nat} (hl:l.length=m+1) (h:l.getLast?=some k):(fh l)[m]?=some (.int .i64 (k:Nat)):=by
 have:l[m]?=some k:=by rw [List.getLast?_eq_getElem?,hl] at h; exact h
 simp [fh,this]
theorem oY {w:World} {r s0:Nat} {z:Sn} {tell ov bp bv:Value} (h:RS w r s0 z tell ov bp bv) {k:Nat} (hk:z.op.getLast?=some k) (h8:z.op.length<=8) :
 Calls Tryz.prog 222 #[.pointer (some ⟨r,0,none⟩)] w λ res w'=>res=.returned (.int .i64 (k:Nat))/\∃n,w'=w.drewN n:=by
 obtain ⟨m,hm⟩:∃m,z.op.length=m+1:=⟨z.op.length - 1,by have:z.op≠[]:=(λ e=>by rw [e] at hk; cases hk); have:=List.length_pos_iff.2 this; omega⟩
 have ho:=h.o
 rw [hm] at ho
 obtain ⟨g,cap,hv,_,qg⟩:=ho.form (by omega)
 subst hv
 have c2:w.cell? ⟨r,2,none⟩=some (.slice (some ⟨g,0,none⟩) (m+1) cap):=h.b.cell 2
 have cm:w.cell? ⟨g,m,none⟩=some (.int .i64 (k:Nat)):=(ho.cellAt m (by omega)).trans (vt hm hk)
 have hwr:IntKind.i64.wrap ((m:Int)+1 - 1)=(m:Int):=by rw [IntWalk.i64_in _ (by omega)]; omega
 have TR:m<=8:=by omega
 clear h ho hk hm h8
 go_enter Tryz.func222,Tryz.ntmps222
 go_wp2
 go_quiet (fail)
 go_wp2
 go_ret
 exact ⟨rfl,_,rfl⟩
theorem oX {w:World} {r s0:Nat} {z:Sn} {tell ov bp bv:Value} (h:RS w r s0 z tell ov bp bv) (h8:z.op.length<=8) (hk6:∀k ∈ z.op,k=5\/k=6) (b:Nat) (hb:b<256) :
 Calls Tryz.prog 178 #[.pointer (some ⟨r,0,none⟩),.int .u8 (b:Int)] w λ res w'=>res=.returned (.bool (gF z.op b))/\∃n,w'=w.drewN n:=by
 have KB:=aa (λ w=>ot (w:=w) b hb)
 have c2:w.cell? ⟨r,2,none⟩=some ov:=h.b.cell 2
 by_cases h1:cJ b=true
 ·have e:gF z.op b=true:=by simp [gF,h1]
  rw [e]
  rw [h1] at KB
  clear h e c2 h1
  go_enter Tryz.func178,Tryz.ntmps178
  go_wp2_with fail
  refine (KB.out _).mono ?_
  rintro r w' ⟨rfl,rfl⟩
  go_wp2
  go_ret
  exact ⟨rfl,0,rfl⟩
 have h1:cJ b=false:=by simpa using h1
 rw [h1] at KB
 by_cases h2:z.op=[]
 ·have e:gF z.op b=false:=by simp [gF,h1,h2]
  rw [e]
  obtain ⟨ao,cp,rfl⟩:=ah h.o
  rw [h2] at c2
  simp only [List.length_nil] at c2
  clear h e h1 h2
  go_enter Tryz.func178,Tryz.ntmps178
  go_wp2_with fail
  refine (KB.out _).mono ?_
  rintro r w' ⟨rfl,rfl⟩
  go_wp2
  go_ret
  exact ⟨rfl,0,rfl⟩
 obtain ⟨k,hk⟩:∃k,z.op.getLast?=some k:=⟨_,List.getLast?_eq_some_getLast h2⟩
 have KI:=aa (oY h hk h8)
 obtain ⟨ao,cp,rfl⟩:=ah h.o
 obtain ⟨L,hL⟩:∃L,L=z.op.length:=⟨_,rfl⟩
 rw [<-hL] at c2 h8
 have hLp:L≠0:=λ e=>h2 (List.length_eq_zero_iff.1 (by omega))
 have eL:((L:Int) == 0)=false:=cU
 have hkk:k=5\/k=6:=hk6 k (List.mem_of_getLast? hk)
 have e:gF z.op b=(if k=6 then (b == 44 || b == 125) else (b == 44 || b == 93)):=by
  have:z.op.isEmpty=false:=by simpa using h2
  simp [gF,h1,this,jg,hk]
 rw [e]
 clear h e h1 h2 hk hL hk6 hLp
 have YZ:((b:Int) == 44)=(b == 44):=by rw [Bool.eq_iff_iff]; simp; omega
 have JR:((b:Int) == 125)=(b == 125):=by rw [Bool.eq_iff_iff]; simp; omega
 have Su:((b:Int) == 93)=(b == 93):=by rw [Bool.eq_iff_iff]; simp; omega
 rcases hkk with rfl | rfl
 ·rw [if_neg (by decide)]
  by_cases lW:b=44
  ·subst lW
   clear YZ JR Su
   go_enter Tryz.func178,Tryz.ntmps178
   go_wp2_with fail
   refine (KB.out _).mono ?_
   rintro r w' ⟨rfl,rfl⟩
   go_wp2_with fail
   refine (KI.out).mono ?_
   rintro r w' ⟨rfl,n,rfl⟩
   go_wp2
   go_ret
   exact ⟨rfl,_,rfl⟩
  have SW:(b == 44)=false:=by simpa using lW
  rw [SW] at YZ
  rw [SW,<-Su]
  clear SW Su JR
  go_enter Tryz.func178,Tryz.ntmps178
  go_wp2_with fail
  refine (KB.out _).mono ?_
  rintro r w' ⟨rfl,rfl⟩
  go_wp2_with fail
  refine (KI.out).mono ?_
  rintro r w' ⟨rfl,n,rfl⟩
  go_wp2
  go_ret
  exact ⟨rfl,_,rfl⟩
 rw [if_pos rfl]
 by_cases lW:b=44
 ·subst lW
  clear YZ JR Su
  go_enter Tryz.func178,Tryz.ntmps178
  go_wp2_with fail
  refine (KB.out _).mono ?_
  rintro r w' ⟨rfl,rfl⟩
  go_wp2_with fail
  refine (KI.out).mono ?_
  rintro r w' ⟨rfl,n,rfl⟩
  go_wp2
  go_ret
  exact ⟨rfl,_,rfl⟩
 have SW:(b == 44)=false:=by simpa using lW
 rw [SW] at YZ
 rw [SW,<-JR]
 clear SW Su JR
 go_enter Tryz.func178,Tryz.ntmps178
 go_wp2_with fail
 refine (KB.out _).mono ?_
 rintro r w' ⟨rfl,rfl⟩
 go_wp2_with fail
 refine (KI.out).mono ?_
 rintro r w' ⟨rfl,n,rfl⟩
 go_wp2
 go_ret
 exact ⟨rfl,_,rfl⟩
theorem CH {w:World} {B e g m cap:Nat} {xs:List Value} (h:w.ownsRow B e 1 (.slice (some ⟨g,0,none⟩) (m+1) cap) (m+1) xs):w.ownsRow B e 1 (.slice (some ⟨g,0,none⟩) m cap) m (xs.take m)/\m+1<=cap:=by
 have hl:=h.1
 rcases h.2 with ⟨x,_⟩ | ⟨g2,cap2,cur,x,y1,y2,y3,y4,y5,y6⟩
 ·cases x
 injection x with x1 x2 x3
 injection x1 with x1
 injection x1 with x1
 subst x1 x3
 refine ⟨⟨by simp; omega,Or.inr ⟨g,cap,cur,rfl,y1,y2,by omega,y4,y5,?_⟩⟩,y3⟩
 rw [<-y6,List.take_take]
 congr 1
 omega
theorem AH {S:World->(Nat->Prop)->List Tok->Prop} {V:List Tok->Tok->Prop} {tell:Value} (hS:fG tell S V) {w:World} {r s0:Nat} {z:Sn} {ts:List Tok} {E:Nat->Prop} (h:RM S tell r s0 z ts E w) (hne:z.op≠[]) (h8:z.op.length<=8) (bN:z.at'<=4000000) (hV:VL V ts (bS z).ts) :
 Calls Tryz.prog 181 #[.pointer (some ⟨r,0,none⟩)] w (RP S tell r s0 (bS z) ts E w):=by
 obtain ⟨ov,bp,bv,D,h1,h2,h3,h4⟩:=h.ex
 obtain ⟨m,hm⟩:∃m,z.op.length=m+1:=⟨z.op.length - 1,by have:=List.length_pos_iff.2 hne; omega⟩
 have ho:=h1.o
 rw [hm] at ho
 obtain ⟨g,cap,hv,Bg,qg⟩:=ho.form (by omega)
 subst hv
 obtain ⟨N,first,zl,mZ,hE,cV⟩:=RM.tell hS
 have c2:w.cell? ⟨r,2,none⟩=some (.slice (some ⟨g,0,none⟩) (m+1) cap):=h1.b.cell 2
 have c1:w.cell? ⟨r,1,none⟩=some (.int .i64 (z.at':Nat)):=h1.b.cell 1
 have c14:w.cell? ⟨r,14,none⟩=some tell:=h1.b.cell 14
 have fz:=h1.b.fz
 have hwr:IntKind.i64.wrap ((m:Int)+1 - 1)=(m:Int):=by rw [IntWalk.i64_in _ (by omega)]; omega
 have TR:m<=8:=by omega
 have hcap:(m:Int)<=(cap:Int):=by
  rcases ho.2 with ⟨x,_⟩ | ⟨g2,cap2,cur,x,_,_,y,_⟩
  ·cases x
  injection x with _ _ x3; omega
 have hcap2:m+1<=cap:=(CH ho).2
 obtain ⟨z1,hz1⟩:∃z1:Sn,z1={ z with st:=5,op:=z.op.dropLast }:=⟨_,rfl⟩
 have M1:Hid (RM S tell r s0 z1 ts E (w.setCell ⟨r,2,none⟩ (.slice (some ⟨g,0,none⟩) m cap)).drew/\Fr E w (w.setCell ⟨r,2,none⟩ (.slice (some ⟨g,0,none⟩) m cap)).drew):=by
  have f0:Fr (λ k=>k=r) w (w.setCell ⟨r,2,none⟩ (.slice (some ⟨g,0,none⟩) m cap)).drew:=((Fr.refl (λ k=>k=r) w).setCell ⟨r,2,none⟩ (Or.inl rfl) _).drew
  refine ⟨⟨.slice (some ⟨g,0,none⟩) m cap,bp,bv,D,⟨?_,?_,?_,h1.p,?_⟩,hS.keep h2 (λ k hk=>f0.block k (hS.lt h2 hk) (h3 k hk).1) f0.size,h3,h4⟩,f0.mono (λ k _ e=>(h4 k).2 (Or.inl e))⟩
  ·rw [hz1]; exact h1.b.set 2 _
  ·rw [hz1]
   have e1:z.op.dropLast.length=m:=by simp [hm]
   have e2:(fh z.op).take m=fh z.op.dropLast:=by rw [List.dropLast_eq_take,hm]; simp [fh,List.map_take]
   show World.ownsRow _ _ _ _ _ z.op.dropLast.length _
   rw [e1,<-e2]
   exact aW (CH ho).1 f0 (λ k hk e=>by omega)
  ·rw [hz1]; exact aW h1.t f0 (λ k hk e=>by omega)
  rw [hz1]; exact h1.e
 have hZ:Hid (z1={ z with st:=5,op:=z.op.dropLast }):=hz1
 have HV:Hid (V ts ⟨1,0,0,z.at'+1,0,[]⟩):=hV.1
 have TE:Hid (∀W,RM S tell r s0 z1 ts E W->Calls Tryz.prog N (first.push (gD ⟨1,0,0,z.at'+1,0,[]⟩)++zl) W λ res w'=>res=.returned (.tuple #[])/\∃E',RM S tell r s0 z1 (ts++[⟨1,0,0,z.at'+1,0,[]⟩]) E' w'/\Ev E W E' w'):=λ W hW=>cV _ hW HV.out
 have DR:Hid (∀W n,RM S tell r s0 z1 ts E W->RM S tell r s0 z1 ts E (W.drewN n)):=λ W n hW=>RM.drewN hS hW n
 have Zr:IntKind.i64.wrap ((z.at':Int)+1)=((z.at'+1:Nat):Int):=by rw [IntWalk.i64_in _ (by omega)]; omega
 clear cV h h1 h2 h3 h4 ho hm hV hne h8 hS hz1
 subst mZ
 go_enter Tryz.func181,Tryz.ntmps181
 go_wp2
 go_region
 all_goals
  have d1:(w.setCell ⟨r,2,none⟩ (.slice (some ⟨g,0,none⟩) m cap)).drew.cell? ⟨r,1,none⟩=some (.int .i64 (z.at':Nat)):=by
   obtain ⟨_,_,_,_,y,_⟩:=M1.out.1.ex
   have:=y.b.cell 1
   rw [hZ.out] at this
   exact this
  have d14:(w.setCell ⟨r,2,none⟩ (.slice (some ⟨g,0,none⟩) m cap)).drew.cell? ⟨r,14,none⟩=some (.func (.func N) first zl):=by
   obtain ⟨_,_,_,_,y,_⟩:=M1.out.1.ex
   exact y.b.cell 14
  clear c1 c2 c14 fz
  generalize (w.setCell ⟨r,2,none⟩ (.slice (some ⟨g,0,none⟩) m cap)).drew=W1 at *
  go_wp2
  go_region_with (refine (TE.out _ (DR.out _ 1 M1.out.1)).mono ?_; rintro res w2 ⟨rfl,E2,rW,wq⟩; have M2:=aa rW; have rV:=aa wq; clear rW wq)
  all_goals
   go_wp2
   go_ret
   exact ⟨rfl,E2,by rw [<-show z1=(bS z).z from hZ.out]; exact M2.out,(Ev.mk (λ_=>Or.inl) (M1.out.2.drewN 1)).trans rV.out⟩
theorem RM.st {S:World->(Nat->Prop)->List Tok->Prop} {tell:Value} {r s0:Nat} {z:Sn} {ts:List Tok} {E:Nat->Prop} {w:World} (h:RM S tell r s0 z ts E w) (s:Nat):RM S tell r s0 { z with st:=s } ts E w:=by
 obtain ⟨ov,bp,bv,D,h1,h2⟩:=h.ex
 exact ⟨ov,bp,bv,D,⟨h1.b,h1.o,h1.t,h1.p,h1.e⟩,h2⟩
theorem RM.to {S:World->(Nat->Prop)->List Tok->Prop} {tell:Value} {r s0:Nat} {z:Sn} {ts:List Tok} {E E':Nat->Prop} {w w':World} (h:RM S tell r s0 z ts E' w') (v:Ev E w E' w') (s:Nat):RP S tell r s0 (z.to s) ts E w (.returned (.int .i64 (s:Nat))) w' :=
 ⟨rfl,E',by rw [show (z.to s).ts=[] from rfl,List.append_nil]; exact h.st s,v⟩
theorem RM.rs {S:World->(Nat->Prop)->List Tok->Prop} {tell:Value} {r s0:Nat} {z:Sn} {ts:List Tok} {E:Nat->Prop} {w:World} (h:RM S tell r s0 z ts E w):∃ov bp bv,RS w r s0 z tell ov bp bv:=by
 obtain ⟨ov,bp,bv,D,h1,_⟩:=h.ex
 exact ⟨ov,bp,bv,h1⟩
theorem VL.app {V:List Tok->Tok->Prop}:∀{ts a b:List Tok},VL V ts (a++b)->VL V ts a/\VL V (ts++a) b
 | ts,[],b,h=>⟨trivial,by simpa using h⟩
 | ts,t::a,b,h=>by
  obtain ⟨h1,h2⟩:=h
  obtain ⟨h3,h4⟩:=VL.app h2
  exact ⟨⟨h1,h3⟩,by simpa using h4⟩
theorem yC {S:World->(Nat->Prop)->List Tok->Prop} {V:List Tok->Tok->Prop} {tell:Value} (hS:fG tell S V) {w:World} {r s0:Nat} {z:Sn} {ts:List Tok} {E:Nat->Prop} (h:RM S tell r s0 z ts E w) (h8:z.op.length<=8) (h6:∀k ∈ z.op,k=5\/k=6) (bN:z.at'<=4000000) (b:Nat) (hb:b<256) (hV:VL V ts (aF z b).ts) :
 Calls Tryz.prog 179 #[.pointer (some ⟨r,0,none⟩),.int .u8 (b:Int)] w (RP S tell r s0 (aF z b) ts E w):=by
 obtain ⟨ov,bp,bv,h1⟩:=h.rs
 have MF:=aa (oX h1 h8 h6 b hb)
 have KB:=aa (λ w=>ot (w:=w) b hb)
 have DR:Hid (∀n,RM S tell r s0 z ts E (w.drewN n)):=λ n=>RM.drewN hS h n
 have EV:Hid (∀n,Ev E w E (w.drewN n)):=λ n=>(Ev.refl E w).drewN n
 by_cases c1:gF z.op b=false
 ·have e:aF z b=z.to 12:=by unfold aF; rw [if_pos c1]
  rw [e]
  rw [c1] at MF
  clear h h1 hV e c1 h6 h8
  go_enter Tryz.func179,Tryz.ntmps179
  go_wp2_with fail
  refine (MF.out).mono ?_
  rintro res w1 ⟨rfl,n,rfl⟩
  go_wp2
  go_ret
  exact (DR.out n).to (EV.out n) 12
 have OR:gF z.op b=true:=by simpa using c1
 rw [OR] at MF
 by_cases c2:cJ b=true
 ·have e:aF z b=z.to 5:=by unfold aF; rw [if_neg c1,if_pos c2]
  rw [e]
  rw [c2] at KB
  clear h h1 hV e c1 c2 OR h6 h8
  go_enter Tryz.func179,Tryz.ntmps179
  go_wp2_with fail
  refine (MF.out).mono ?_
  rintro res w1 ⟨rfl,n,rfl⟩
  go_wp2_with fail
  refine (KB.out _).mono ?_
  rintro res w1 ⟨rfl,rfl⟩
  go_wp2
  go_ret
  exact (DR.out n).to (EV.out n) 5
 have Y0:cJ b=false:=by simpa using c2
 rw [Y0] at KB
 have hne:z.op≠[]:=λ x=>by simp [gF,Y0,x] at OR
 by_cases c3:b≠44
 ·have e:aF z b=bS z:=by unfold aF; rw [if_neg c1,if_neg c2,if_pos c3]
  rw [e] at hV ⊢
  have b44:((b:Int) != 44)=true:=by rw [bne_iff_ne]; omega
  have SH:Hid (∀n,Calls Tryz.prog 181 #[.pointer (some ⟨r,0,none⟩)] (w.drewN n) (RP S tell r s0 (bS z) ts E (w.drewN n))):=λ n=>AH hS (DR.out n) hne h8 bN hV
  clear h h1 hV e c1 c2 OR h6 h8 c3 hne
  go_enter Tryz.func179,Tryz.ntmps179
  go_wp2_with fail
  refine (MF.out).mono ?_
  rintro res w1 ⟨rfl,n,rfl⟩
  go_wp2_with fail
  refine (KB.out _).mono ?_
  rintro res w1 ⟨rfl,rfl⟩
  go_wp2_with fail
  refine (SH.out n).mono ?_
  rintro res w1 ⟨rfl,E1,hM,hE⟩
  have M1:=aa hM
  have ou:=aa hE
  clear hM hE
  go_wp2
  go_ret
  exact ⟨rfl,E1,M1.out,(EV.out n).trans ou.out⟩
 have YB:b=44:=by omega
 subst YB
 obtain ⟨k,hk⟩:∃k,z.op.getLast?=some k:=⟨_,List.getLast?_eq_some_getLast hne⟩
 have IN:Hid (∀n,Calls Tryz.prog 222 #[.pointer (some ⟨r,0,none⟩)] (w.drewN n) λ res w'=>res=.returned (.int .i64 (k:Nat))/\∃m,w'=(w.drewN n).drewN m):=λ n=>by
  obtain ⟨_,_,_,y⟩:=(DR.out n).rs
  exact oY y hk h8
 have hkk:k=5\/k=6:=h6 k (List.mem_of_getLast? hk)
 rcases hkk with rfl | rfl
 ·have e:aF z 44=z.to 0:=by unfold aF; rw [if_neg c1,if_neg c2,if_neg c3]; simp [jg,hk]
  rw [e]
  clear h h1 hV e c1 c2 OR h6 h8 c3 hne hk Y0
  go_enter Tryz.func179,Tryz.ntmps179
  go_wp2_with fail
  refine (MF.out).mono ?_
  rintro res w1 ⟨rfl,n,rfl⟩
  go_wp2_with fail
  refine (KB.out _).mono ?_
  rintro res w1 ⟨rfl,rfl⟩
  go_wp2_with fail
  refine (IN.out n).mono ?_
  rintro res w1 ⟨rfl,m,rfl⟩
  rw [dW]
  go_wp2
  go_ret
  exact (DR.out _).to (EV.out _) 0
 have e:aF z 44=z.to 3:=by unfold aF; rw [if_neg c1,if_neg c2,if_neg c3]; simp [jg,hk]
 rw [e]
 clear h h1 hV e c1 c2 OR h6 h8 c3 hne hk Y0
 go_enter Tryz.func179,Tryz.ntmps179
 go_wp2_with fail
 refine (MF.out).mono ?_
 rintro res w1 ⟨rfl,n,rfl⟩
 go_wp2_with fail
 refine (KB.out _).mono ?_
 rintro res w1 ⟨rfl,rfl⟩
 go_wp2_with fail
 refine (IN.out n).mono ?_
 rintro res w1 ⟨rfl,m,rfl⟩
 rw [dW]
 go_wp2
 go_ret
 exact (DR.out _).to (EV.out _) 3
theorem rD {S:World->(Nat->Prop)->List Tok->Prop} {V:List Tok->Tok->Prop} {tell:Value} (hS:fG tell S V) {w:World} {r s0:Nat} {z:Sn} {ts:List Tok} {E:Nat->Prop} (h:RM S tell r s0 z ts E w) (bN:z.at'<=4000000) (hV:VL V ts (eJ z).ts) :
 Calls Tryz.prog 180 #[.pointer (some ⟨r,0,none⟩)] w (RP S tell r s0 (eJ z) ts E w):=by
 obtain ⟨ov,bp,bv,D,h1,h2,h3,h4⟩:=h.ex
 obtain ⟨N,first,zl,mZ,hE,cV⟩:=RM.tell hS
 have c1:w.cell? ⟨r,1,none⟩=some (.int .i64 (z.at':Nat)):=h1.b.cell 1
 have c6:w.cell? ⟨r,6,none⟩=some (.int .i64 (z.tk.to:Nat)):=h1.b.cell 6
 have fz:=h1.b.fz
 obtain ⟨z1,hz1⟩:∃z1:Sn,z1={ z with st:=5,tk:={ z.tk with to:=z.at'+1 } }:=⟨_,rfl⟩
 have M1:Hid (RM S tell r s0 z1 ts E (w.setCell ⟨r,6,none⟩ (.int .i64 ((z.at'+1:Nat):Int)))/\Ev E w E (w.setCell ⟨r,6,none⟩ (.int .i64 ((z.at'+1:Nat):Int)))) :=
  RM.set hS h1 h2 h3 h4 (by rw [hz1]; exact h1.b.set 6 _) ((Fr.refl (λ k=>k=r) w).setCell ⟨r,6,none⟩ (Or.inl rfl) _) (by rw [hz1]) (by rw [hz1])
 have hZ:=aa hz1
 have TE:Hid (∀W,RM S tell r s0 z1 ts E W->Calls Tryz.prog N (first.push (gD z1.tk)++zl) W λ res w'=>res=.returned (.tuple #[])/\∃E',RM S tell r s0 z1 (ts++[z1.tk]) E' w'/\Ev E W E' w'):=λ W hW=>cV _ hW (by rw [hz1]; exact hV.1)
 have DR:Hid (∀W n,RM S tell r s0 z1 ts E W->RM S tell r s0 z1 ts E (W.drewN n)):=λ W n hW=>RM.drewN hS hW n
 have Zr:IntKind.i64.wrap ((z.at':Int)+1)=((z.at'+1:Nat):Int):=by rw [IntWalk.i64_in _ (by omega)]; omega
 have CC:Hid (∀W,RM S tell r s0 z1 ts E W->(W.cell? ⟨r,14,none⟩=some tell/\W.cell? ⟨r,3,none⟩=some (.int .i64 (z1.tk.k:Nat))/\W.cell? ⟨r,4,none⟩=some (.int .i64 (z1.tk.of:Nat))/\W.cell? ⟨r,5,none⟩=some (.int .i64 (z1.tk.ai:Nat))/\W.cell? ⟨r,6,none⟩=some (.int .i64 (z1.tk.to:Nat))/\W.cell? ⟨r,7,none⟩=some (.int .i64 z1.tk.n)/\W.cell? ⟨r,8,none⟩=some (.string (bZ (fK z1.tk.k z1.tk.t))))):=λ W hW=>by
  obtain ⟨_,_,_,y⟩:=hW.rs
  exact ⟨y.b.cell 14,y.b.cell 3,y.b.cell 4,y.b.cell 5,y.b.cell 6,y.b.cell 7,y.b.cell 8⟩
 clear cV h h1 h2 h3 h4 hV hS hz1
 subst mZ
 go_enter Tryz.func180,Tryz.ntmps180
 go_wp2
 have eW:((z.at'+1:Nat):Int)=(z.at':Int)+1:=by omega
 try rw [eW] at M1
 generalize hWW:w.setCell ⟨r,6,none⟩ _=W1 at *
 obtain ⟨d14,d3,d4,d5,d6,d7,d8⟩:=CC.out _ M1.out.1
 clear c1 c6 fz Zr hWW eW
 unfold gD at TE
 go_region_with (refine (TE.out _ (DR.out _ 1 M1.out.1)).mono ?_; rintro res w2 ⟨rfl,E2,rW,wq⟩; have M2:=aa rW; have rV:=aa wq; clear rW wq)
 all_goals
  go_wp2
  go_ret
  refine ⟨rfl,E2,?_,(M1.out.2.drewN 1).trans rV.out⟩
  have:=M2.out
  rw [hZ.out] at this
  exact this
theorem vu:liesAt Tryz.prog Tryz.prog.depth 115 (15 / Tryz.prog.cellsOf 115) 9 112 1=true:=by kernel_rfl
theorem yE {w:World} {r:Nat} {cs:Array Value} {p:Value} (h:ay w r cs 115) (hs:cs.size=15) (hp:cs[9]?=some p) (ho:p=.pointer none\/p=.pointer (some ⟨r,9,none⟩)) :
 Calls Tryz.prog 114 #[.pointer (some ⟨r,9,none⟩)] w λ res w'=>res=.returned (.tuple #[])/\ay w' r (cs.setIfInBounds 9 (.pointer (some ⟨r,9,none⟩))) 115/\Fr (λ k=>k=r) w w':=by
 obtain ⟨j,hj,hjs⟩:=Option.map_eq_some_iff.1 sizeBuilder
 have hB:=aa h
 have c9:w.cell? ⟨r,9,none⟩=some p:=(h.cell 9).trans hp
 have f9:=h.fz 9
 have hsh:w.shape? r=some (115,15):=by unfold ay at h; simp [World.shape?,h,hs]
 have HP:=aa hp
 clear h hp
 rcases ho with rfl | rfl
 ·go_enter Tryz.func114,Tryz.ntmps114
  go_wp2
  rw [Lib.run_to_unsafe w ⟨r,9,none⟩ Tryz.underlying109 Tryz.underlying234 hj (by rw [hjs]; decide) hsh (by show 9<15; decide)]
  simp only [Result.andThen]
  rw [Oper.upon_value]
  go_wp2
  rw [run_callFunc_extern Tryz.func158 (by kernel_rfl) (by kernel_rfl) (by kernel_rfl) (e:=Extern.AbiNoEscape.same) (by kernel_rfl)]
  rw [Lib.run_noEscape]
  simp only [Result.andThen]
  rw [Oper.upon_value]
  go_wp2
  rw [Lib.run_from_unsafe w ⟨r,9,none⟩ Tryz.underlying234 Tryz.underlying109 hj hsh vu]
  simp only [Result.andThen]
  rw [Oper.upon_value]
  go_wp2
  go_end0
  exact ⟨rfl,hB.out.set 9 _,(Fr.refl (λ k=>k=r) w).setCell ⟨r,9,none⟩ (Or.inl rfl) _⟩
 go_enter Tryz.func114,Tryz.ntmps114
 go_wp2
 rw [Lib.run_neq_ptr_same w _ Tryz.underlying109 hj]
 go_wp2
 go_end0
 refine ⟨rfl,?_,Fr.refl _ _⟩
 have e:cs.setIfInBounds 9 (.pointer (some ⟨r,9,none⟩))=cs:=by
  obtain ⟨hl,he⟩:=Array.getElem?_eq_some_iff.1 HP.out
  rw [Array.setIfInBounds,dif_pos hl,<-he,Array.set_getElem_self]
 rw [e]
 exact hB.out
theorem yA {w:World} {r:Nat} {cs:Array Value} {p v:Value} {l:List UInt8} (h:ay w r cs 115) (hs:cs.size=15) (hp:cs[9]?=some p) (hv:cs[10]?=some v) (ho:p=.pointer none\/p=.pointer (some ⟨r,9,none⟩))
 (hr:w.ownsRow (r+1) 5 1 v l.length (Lib.byteCells l)) (hl:l.length<=4000000) (b:Nat) (hb:b<256) :
 Calls Tryz.prog 221 #[.pointer (some ⟨r,9,none⟩),.int .u8 (b:Int)] w λ res w'=>res=.returned .nilIface/\∃v',ay w' r ((cs.setIfInBounds 9 (.pointer (some ⟨r,9,none⟩))).setIfInBounds 10 v') 115 /\
  w'.ownsRow (r+1) 5 1 v' (l++[UInt8.ofNat b]).length (Lib.byteCells (l++[UInt8.ofNat b]))/\Fr (λ k=>k=r\/v.ownBlock=some k) w w'/\(v'.ownBlock=v.ownBlock\/∃k,v'.ownBlock=some k/\w.heap.size<=k):=by
 obtain ⟨i0,hi,hz0,hz1,dN⟩:=info_parts infoByte
 have HI:=aa hi
 have ia:=aa hz0
 have gO:=aa hz1
 have ic:=aa dN
 have CC:=aa (yE h hs hp ho)
 have HR:=aa hr
 have qg:=h.lt
 have hne:Hid (∀k,v.ownBlock=some k->r+1<=k/\k<w.heap.size):=λ k hk=>hr.lt k hk
 have c10:(cs.setIfInBounds 9 (.pointer (some ⟨r,9,none⟩)))[10]?=some v:=by rw [Array.getElem?_setIfInBounds_ne (by decide)]; exact hv
 have C10:=aa c10
 have HS:=aa hs
 clear hi hz0 hz1 dN h hp hv ho hr c10 hs
 obtain ⟨Y1,Y2,rfl⟩:=ah HR.out
 obtain ⟨n,hn⟩:∃n,n=l.length:=⟨_,rfl⟩
 rw [<-hn] at C10 HR hl
 try rw [<-hn]
 try rw [<-hn] at hne
 have HN:=aa hn
 clear hn
 go_enter Tryz.func221,Tryz.ntmps221
 go_wp2_with fail
 refine (CC.out).mono ?_
 rintro res w1 ⟨rfl,b1,f1⟩
 have B1:=aa b1
 have F1:=aa f1
 have hs1:w.heap.size<=w1.heap.size:=f1.size
 have d10:w1.cell? ⟨r,10,none⟩=some (.slice Y1 n Y2):=(b1.cell 10).trans C10.out
 have R1:w1.ownsRow (r+1) 5 1 (.slice Y1 n Y2) n (Lib.byteCells l):=aW HR.out f1 (λ k hk e=>by omega)
 clear b1 f1 CC
 go_wp2_with (at_builtin; refine wpList_append_own_at _ rfl _ _ 110 rfl (r+1) 5 i0 (.int .u8 0) 1 1 Tryz.underlying110 HI.out ia.out gO.out ic.out rfl (by decide) _ _ _ rfl (R1.alloc _) ⟨w1.heap.size,0,none⟩ 1 1 [.int .u8 (b:Int)] rfl rfl ?c1 ?c2 ?c3 ?c4 ?c5 ?_)
 case c1 =>
  intro j u hj
  match j,hj with
  | 0,hj=>simp at hj; subst hj; simp [Addr.add]
 case c2=>intro u hu; simp at hu; subst hu; rfl
 case c3=>unfold maxLen; omega
 case c4=>omega
 case c5=>simp; omega
 intro v' w2 qA hgrow _ kP
 have hg1:r<(w1.alloc (.cells #[.int .u8 (b:Int)] 5)).heap.size:=by simp; omega
 have B2:Hid (ay w2 r (cs.setIfInBounds 9 (.pointer (some ⟨r,9,none⟩))) 115):=(hgrow.block r hg1 (λ e=>by have:=hne.out r e.symm; omega)).trans (B1.out.alloc _)
 have YB:w2.cell? ⟨r,10,none⟩=some (.slice Y1 n Y2):=(B2.out.cell 10).trans C10.out
 have f3:=B2.out.fz 10
 have F2:Hid (Fr (λ k=>k=r\/(.slice Y1 n Y2:Value).ownBlock=some k) w w2):=((F1.out.mono (λ k _ e=>Or.inl e)).alloc _).grown hgrow (λ k hk=>Or.inr (Or.inr hk))
 obtain ⟨ao,cap,rfl⟩:=ah qA
 have R2:=aa qA
 have VB:=aa kP
 clear qA hgrow d10 R1 kP
 go_wp2
 go_ret
 refine ⟨rfl,.slice ao (n+1) cap,B2.out.set 10 _,?_,F2.out.setCell ⟨r,10,none⟩ (Or.inl (Or.inl rfl)) _,?_⟩
 ·have e1:(l++[UInt8.ofNat b]).length=n+1:=by simp [HN.out]
  have e2:Lib.byteCells l++[.int .u8 (b:Int)]=Lib.byteCells (l++[UInt8.ofNat b]):=by
   rw [Lib.byteCells_append]
   have:(UInt8.ofNat b).toNat=b:=by simp; omega
   simp [Lib.byteCells,this]
  have R:=R2.out
  rw [e2] at R
  rw [e1]
  exact aW R ((Fr.refl (λ k=>k=r) w2).setCell ⟨r,10,none⟩ (Or.inl rfl) _) (λ k hk e=>by omega)
 rcases VB.out with e | e
 ·exact Or.inl e
 exact Or.inr ⟨_,e,by omega⟩
theorem Xo {w:World} {r:Nat} {cs:Array Value} {ao:Option Addr} {n cp:Nat} (h:ay w r cs 115) (hv:cs[10]?=some (.slice ao n cp)) :
 Calls Tryz.prog 220 #[.pointer (some ⟨r,9,none⟩)] w λ res w'=>res=.returned (.int .i64 (n:Nat))/\w'=w:=by
 have c10:w.cell? ⟨r,10,none⟩=some (.slice ao n cp):=(h.cell 10).trans hv
 clear h hv
 go_enter Tryz.func220,Tryz.ntmps220
 go_wp2
 go_ret
 exact ⟨rfl,rfl⟩
theorem Nq {w:World} {r:Nat} {cs:Array Value} {p v:Value} (h:ay w r cs 115) (hp:cs[9]?=some p) (hv:cs[10]?=some v) :
 Calls Tryz.prog 219 #[.pointer (some ⟨r,9,none⟩)] w λ res w'=>res=.returned (.tuple #[])/\ay w' r ((cs.setIfInBounds 9 (.pointer none)).setIfInBounds 10 (.slice none 0 0)) 115/\Fr (λ k=>k=r) w w':=by
 have hB:=aa h
 have c9:w.cell? ⟨r,9,none⟩=some p:=(h.cell 9).trans hp
 have c10:w.cell? ⟨r,10,none⟩=some v:=(h.cell 10).trans hv
 have fz:=h.fz
 clear h hp hv
 go_enter Tryz.func219,Tryz.ntmps219
 go_wp2
 go_end0
 exact ⟨rfl,(hB.out.set 9 _).set 10 _,((Fr.refl (λ k=>k=r) w).setCell ⟨r,9,none⟩ (Or.inl rfl) _).setCell ⟨r,10,none⟩ (Or.inl rfl) _⟩
theorem JL {w:World} {r:Nat} {cs:Array Value} {v:Value} {t:List UInt8} (h:ay w r cs 115) (hv:cs[10]?=some v) (hr:w.ownsRow (r+1) 5 1 v t.length (Lib.byteCells t)) (he:t=[]->v=.slice none 0 0) :
 Calls Tryz.prog 88 #[.pointer (some ⟨r,9,none⟩)] w λ res w'=>res=.returned (.string (bZ t))/\Fr (λ k=>v.ownBlock=some k) w w':=by
 by_cases h0:t=[]
 ·have Yt:=he h0
  subst h0
  subst Yt
  have c3:w.drew.cell? ⟨r,10,none⟩=some (.slice none 0 0):=(h.cell 10).trans hv
  have hSD:(Builtin.unsafeSliceData_ #[110] 209 #[.slice none 0 0]).run Tryz.prog w.drew=.ok (.pointer none) w.drew:=Lib.run_unsafeSliceData_nil _ _ _ _ _
  have hUS:(Builtin.unsafeString_ #[209,3] 9 #[.pointer none,.int .i64 0]).run Tryz.prog w.drew=.ok (.string .empty) w.drew:=Lib.run_unsafeString_none _ _ _ _ _
  have mixed:Tryz.prog.follows Departure.mixedOrders=true:=by kernel_rfl
  clear h hv hr he
  go_enter Tryz.func88,Tryz.ntmps88
  go_wp2
  go_region_o
  all_goals (go_wp2; go_ret; exact ⟨rfl,(Fr.refl _ w).drew⟩)
 have hown:=hr
 have hl0:t.length≠0:=by simpa using h0
 obtain ⟨k,cap,cur,rfl,Bg,hg,hnc,hcm,hcs,Bq⟩:∃k cap cur,v=.slice (some ⟨k,0,none⟩) t.length cap/\r+1<=k/\w.heap[k]?=some (.cells cur 5 (0,0))/\t.length<=cap/\cap<=maxLen/\cur.size=cap * 1/\cur.toList.take (t.length * 1)=Lib.byteCells t:=by
  rcases hown.2 with ⟨_,hz⟩ | ⟨k,cap,cur,hv,y⟩
  ·exact absurd hz hl0
  exact ⟨k,cap,cur,hv,y⟩
 have c3:w.drew.cell? ⟨r,10,none⟩=some (.slice (some ⟨k,0,none⟩) t.length cap):=(h.cell 10).trans hv
 have hSD:(Builtin.unsafeSliceData_ #[110] 209 #[.slice (some ⟨k,0,none⟩) t.length cap]).run Tryz.prog w.drew=.ok (.pointer (some ⟨k,0,none⟩)) w.drew :=
  Lib.run_unsafeSliceData_row _ _ _ _ _ _ (by omega)
 have hUS:(Builtin.unsafeString_ #[209,3] 9 #[.pointer (some ⟨k,0,none⟩),.int .i64 t.length]).run Tryz.prog w.drew=.ok (.string ⟨t.toArray⟩) (w.drew.freeze ⟨k,0,none⟩ t.length):=by
  refine Lib.run_unsafeString_row w.drew 209 3 9 5 Tryz.underlying209 cellsByte k cur.size (by have hg':w.drew.heap[k]?=some (.cells cur 5 (0,0)):=hg; simp [World.shape?,hg']) t h0 (by omega) (by unfold maxLen at hcm; omega) ?_
  intro j x hx
  exact hown.cells (g:=k) rfl j (.int .u8 x.toNat) (by simp [Lib.byteCells,hx])
 have hFr:Hid (Fr (λ i=>(Value.slice (some ⟨k,0,none⟩) t.length cap).ownBlock=some i) w (w.drew.freeze ⟨k,0,none⟩ t.length)):=(Fr.refl (λ i=>(Value.slice (some ⟨k,0,none⟩) t.length cap).ownBlock=some i) w).drew.freeze ⟨k,0,none⟩ rfl _
 have mixed:Tryz.prog.follows Departure.mixedOrders=true:=by kernel_rfl
 clear h hown hg Bq hcs h0 hr he hv
 go_enter Tryz.func88,Tryz.ntmps88
 go_wp2
 go_region_o
 all_goals (go_wp2; go_ret; exact ⟨rfl,hFr.out⟩)
end Go.Proofs.YtcbadebjpogmlaaGreatDoor
