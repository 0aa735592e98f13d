import Derived.Test.YtcbadebjpogmlaaGreatDoorPPh
namespace Tr
def Cls (z:Sn) (b:Nat) (x:Sx):Prop :=
 (x.ts=[]∧x.z.op=z.op∧(x.z.st=5→isBl b=true)∧(z.op=[]→5≤z.st→5≤x.z.st)∧(z.st≤1∧isBl b=false→6≤x.z.st)∧(6≤x.z.st→x.z.tk.k=3→(6≤z.st∧z.tk.k=3∧x.z.tk.frm=z.tk.frm)∨(z.st≤1∧isBl b=false∧x=sBegin z b∧x.z.tk.frm=z.at')))
 ∨ (∃t,x.ts=[t]∧t.k=2∧x.z.op=z.op∧x.z.st=4∧6≤z.st)
 ∨ (∃t,x.ts=[t]∧t.k=3∧t.frm=z.tk.frm∧t.to=z.at'+1∧x.z.op=z.op∧x.z.st=5∧6≤z.st∧z.tk.k=3)
 ∨ (∃t,x.ts=[t]∧t.k=0∧t.frm=z.at'∧x.z.op=z.op++[t.of]∧x.z.st≤2∧z.st≤1∧isBl b=false∧x=sBegin z b)
 ∨ (∃t,x.ts=[t]∧t.k=1∧t.to=z.at'+1∧x.z.op=z.op.dropLast∧x.z.st=5∧z.op≠[]∧z.st≤5∧1≤z.st)
 ∨ (x.ts=[sNumT z]∧z.st=9∧x.z.op=z.op∧x.z.st≤5∧(z.op=[]→x.z.st=5)∧(x.z.st=5→isBl b=true))
 ∨ (∃u,x.ts=[sNumT z,u]∧z.st=9∧u.k=1∧u.to=z.at'+1∧x.z.op=z.op.dropLast∧x.z.st=5∧z.op≠[])
theorem beh_cls (z:Sn) (b:Nat) (h:(sBehind z b).z.st≤10):((sBehind z b).ts=[]∧(sBehind z b).z.op=z.op∧(sBehind z b).z.st≤5∧((sBehind z b).z.st=5→isBl b=true)∧(z.op=[]→(sBehind z b).z.st=5))∨(∃u,(sBehind z b).ts=[u]∧u.k=1∧u.to=z.at'+1∧(sBehind z b).z.op=z.op.dropLast∧(sBehind z b).z.st=5∧z.op≠[]):=by
 unfold sBehind at h ⊢
 split at h
 ·simp [Sn.to] at h
 rename_i hm
 rw [if_neg hm]
 have hm:mayF z.op b=true:=by simpa using hm
 split at h
 ·rename_i hb
  rw [if_pos hb]
  exact Or.inl ⟨rfl,rfl,Nat.le_refl _,fun _=>hb,fun _=>rfl⟩
 rename_i hb
 have hb:isBl b=false:=by simpa using hb
 have hne:=mayF_ne hm hb
 rw [if_neg (by simp [hb])]
 split at h
 ·rename_i h44
  rw [if_pos h44]
  exact Or.inr ⟨_,rfl,rfl,rfl,rfl,rfl,hne⟩
 rename_i h44
 rw [if_neg h44]
 split at h
 ·rename_i ht
  rw [if_pos ht]
  exact Or.inl ⟨rfl,rfl,by simp [Sn.to],fun y=>by simp [Sn.to] at y,fun y=>absurd y hne⟩
 rename_i ht
 rw [if_neg ht]
 exact Or.inl ⟨rfl,rfl,by simp [Sn.to],fun y=>by simp [Sn.to] at y,fun y=>absurd y hne⟩
theorem next_cls {z:Sn} (hok:SOk z) (hz:z.st≤10) {b:Nat} (h:(sNext z b).z.st≤10):Cls z b (sNext z b):=by
 unfold sNext at h ⊢
 by_cases h6:z.st=6
 ·rw [if_pos h6] at h ⊢
  have hk:=hok.st (Or.inl h6)
  unfold sStr at h ⊢
  split at h
  ·simp [Sn.to] at h
  rename_i c1
  rw [if_neg c1]
  split at h
  ·rename_i c2
   rw [if_pos c2]
   exact Or.inl ⟨rfl,rfl,fun y=>by simp [Sn.to] at y,fun _ _=>by simp [Sn.to],fun y=>by omega,fun _ y=>Or.inl ⟨by omega,y,rfl⟩⟩
  rename_i c2
  rw [if_neg c2]
  split at h
  ·rename_i c3
   rw [if_pos c3]
   unfold sEndS
   split
   ·rename_i c4
    exact Or.inr (Or.inr (Or.inl ⟨_,rfl,c4,rfl,rfl,rfl,rfl,by omega,c4⟩))
   rename_i c4
   exact Or.inr (Or.inl ⟨_,rfl,by simp only; omega,rfl,rfl,by omega⟩)
  rename_i c3
  rw [if_neg c3]
  exact Or.inl ⟨rfl,rfl,fun y=>by simp [sAdd] at y,fun _ _=>by simp [sAdd],fun y=>by omega,fun _ y=>Or.inl ⟨by omega,y,rfl⟩⟩
 rw [if_neg h6] at h ⊢
 by_cases h7:z.st=7
 ·rw [if_pos h7] at h ⊢
  unfold sEsc at h ⊢
  split at h
  ·simp [Sn.to] at h
  rename_i c1
  rw [if_neg c1]
  exact Or.inl ⟨rfl,rfl,fun y=>by simp [sAdd] at y,fun _ _=>by simp [sAdd],fun y=>by omega,fun _ y=>Or.inl ⟨by omega,y,rfl⟩⟩
 rw [if_neg h7] at h ⊢
 by_cases h8:z.st=8∨z.st=9
 ·rw [if_pos h8] at h ⊢
  have hk:=(hok.n h8).2.2.2.2
  unfold sNum at h ⊢
  split at h
  ·simp [Sn.to] at h
  rename_i c1
  rw [if_neg c1]
  split at h
  ·rename_i c2
   rw [if_pos c2]
   exact Or.inl ⟨rfl,rfl,fun y=>by simp [sDig] at y,fun _ _=>by simp [sDig],fun y=>by omega,fun _ y=>Or.inl ⟨by omega,hk,rfl⟩⟩
  rename_i c2
  rw [if_neg c2]
  have h9:z.st=9:=by
   rcases h8 with y | y
   ·have hb:49≤b∧b≤57:=by
     by_cases q:49≤b∧b≤57
     ·exact q
     exact absurd ⟨y,q⟩ c1
    exact absurd ⟨by simp [isDig]; omega,by have:=(hok.m y).1; omega⟩ c2
   exact y
  split at h
  ·simp [Sn.to] at h
  rename_i c3
  rw [if_neg c3]
  rcases beh_cls z b h with ⟨a1,a2,a3,a4,a5⟩ | ⟨u,a1,a2,a3,a4,a5,a6⟩
  ·exact Or.inr (Or.inr (Or.inr (Or.inr (Or.inr (Or.inl ⟨by simp only [a1],h9,a2,a3,a5,a4⟩)))))
  exact Or.inr (Or.inr (Or.inr (Or.inr (Or.inr (Or.inr ⟨u,by simp only [a1],h9,a2,a3,a4,a5,a6⟩)))))
 rw [if_neg h8] at h ⊢
 by_cases h10:z.st=10
 ·rw [if_pos h10] at h ⊢
  have hk:=(hok.w h10).2.2
  unfold sWord at h ⊢
  split at h
  ·simp [Sn.to] at h
  rename_i c1
  rw [if_neg c1]
  split
  ·exact Or.inr (Or.inr (Or.inl ⟨_,rfl,hk,rfl,rfl,rfl,rfl,by omega,hk⟩))
  exact Or.inl ⟨rfl,rfl,fun y=>by simp at y,fun _ _=>by simp,fun y=>by omega,fun _ y=>Or.inl ⟨by omega,y,rfl⟩⟩
 rw [if_neg h10] at h ⊢
 have h5:z.st≤5:=by omega
 by_cases hb:isBl b=true
 ·rw [if_pos hb]
  exact Or.inl ⟨rfl,rfl,fun _=>hb,fun _ y=>y,(fun y=>by rw [hb] at y; cases y.2),fun y=>by simp [Sn.to] at y; omega⟩
 rw [if_neg hb] at h ⊢
 have hbf:isBl b=false:=by simpa using hb
 unfold sBetw at h ⊢
 split at h
 ·rename_i c5
  rw [if_pos c5]
  rcases beh_cls z b h with ⟨a1,a2,a3,a4,a5⟩ | ⟨u,a1,a2,a3,a4,a5,a6⟩
  ·exact Or.inl ⟨a1,a2,a4,fun y _=>by rw [a5 y]; exact Nat.le_refl _,fun y=>by omega,fun y=>by omega⟩
  exact Or.inr (Or.inr (Or.inr (Or.inr (Or.inl ⟨u,a1,a2,a3,a4,a5,a6,by omega,by omega⟩))))
 rename_i c5
 rw [if_neg c5]
 split at h
 ·rename_i c4
  rw [if_pos c4]
  have:=hok.ne (by omega)
  exact Or.inl ⟨rfl,rfl,fun y=>by simp [Sn.to] at y,fun y=>absurd y this,fun y=>by omega,fun y=>by simp [Sn.to] at y⟩
 rename_i c4
 rw [if_neg c4]
 split at h
 ·rename_i c3
  rw [if_pos c3]
  exact Or.inr (Or.inr (Or.inr (Or.inr (Or.inl ⟨_,rfl,rfl,rfl,rfl,rfl,hok.ne (by omega),by omega,by omega⟩))))
 rename_i c3
 rw [if_neg c3]
 split at h
 ·rename_i c1
  rw [if_pos c1]
  have h1:z.st≤1:=by omega
  obtain ⟨x,hx⟩:∃x,x=sBegin z b:=⟨_,rfl⟩
  have plain:∀y:Sx,y=sBegin z b→y.ts=[]→y.z.op=z.op→6≤y.z.st→y.z.tk.frm=z.at'→Cls z b (sBegin z b):=fun y e b1 b2 b3 b4=>by
   rw [← e]
   exact Or.inl ⟨b1,b2,fun q=>by omega,fun _ q=>by omega,fun _=>b3,fun _ _=>Or.inr ⟨h1,hbf,e,b4⟩⟩
  have lot:∀k c,c≤2→sLot z k c=sBegin z b→Cls z b (sBegin z b):=fun k c hc e=>by
   rw [← e] at h
   unfold sLot at h
   split at h
   ·simp [Sn.to] at h
   rename_i c8
   have e2:sLot z k c=⟨{ z with st:=c,op:=z.op++[k] },[⟨0,k,z.at',0,0,[]⟩]⟩:=by unfold sLot; rw [if_neg c8]
   refine Or.inr (Or.inr (Or.inr (Or.inl ⟨⟨0,k,z.at',0,0,[]⟩,?_,rfl,rfl,?_,?_,h1,hbf,rfl⟩)))
   ·rw [← e,e2]
   ·rw [← e,e2]
   rw [← e,e2]; exact hc
  by_cases d1:b=91
  ·exact lot 5 1 (by omega) (by unfold sBegin; rw [if_pos d1])
  by_cases d2:b=123
  ·exact lot 6 2 (by omega) (by unfold sBegin; rw [if_neg d1,if_pos d2])
  by_cases d3:b=34
  ·exact plain (sBStr z 3) (by unfold sBegin; rw [if_neg d1,if_neg d2,if_pos d3]) rfl rfl (by simp [sBStr]) rfl
  by_cases d4:b=116
  ·exact plain (sBWord z 2 [114,117,101]) (by unfold sBegin; rw [if_neg d1,if_neg d2,if_neg d3,if_pos d4]) rfl rfl (by simp [sBWord]) rfl
  by_cases d5:b=102
  ·exact plain (sBWord z 1 [97,108,115,101]) (by unfold sBegin; rw [if_neg d1,if_neg d2,if_neg d3,if_neg d4,if_pos d5]) rfl rfl (by simp [sBWord]) rfl
  by_cases d6:b=110
  ·exact plain (sBWord z 0 [117,108,108]) (by unfold sBegin; rw [if_neg d1,if_neg d2,if_neg d3,if_neg d4,if_neg d5,if_pos d6]) rfl rfl (by simp [sBWord]) rfl
  have e:sBegin z b=sBNum z b:=by unfold sBegin; rw [if_neg d1,if_neg d2,if_neg d3,if_neg d4,if_neg d5,if_neg d6]
  refine plain (sBNum z b) e.symm ?_ ?_ ?_ ?_<;>unfold sBNum<;>repeat' split
  all_goals simp [sDig]
 rename_i c1
 rw [if_neg c1]
 split at h
 ·rename_i c2
  rw [if_pos c2]
  refine Or.inl ⟨rfl,rfl,fun y=>by simp [sBStr] at y,fun _ _=>by simp [sBStr],fun y=>by omega,fun _ y=>by simp [sBStr] at y⟩
 simp [Sn.to] at h
structure Sim (i:Nat) (z z':Sn):Prop where
 st:z'.st=z.st
 op:z'.op=z.op.drop i
 s:z.st=6∨z.st=7→z'.tk.k=z.tk.k
 n:z.st=8∨z.st=9→z'.sz=z.sz∧z'.tk.n=z.tk.n
 w:z.st=10→z'.rs=z.rs
theorem drop_last (l:List Nat) (i:Nat):(l.drop i).dropLast=l.dropLast.drop i:=by
 rw [List.dropLast_eq_take,List.dropLast_eq_take,List.drop_take,List.length_drop]
 congr 1
 omega
theorem last_drop {l:List Nat} {i:Nat} (h:i<l.length):(l.drop i).getLast?=l.getLast?:=by
 rw [List.getLast?_drop,if_neg (by omega)]
theorem Sim.to {i:Nat} {z z':Sn} (h:Sim i z z') {c:Nat} (hc:c≤5∨(c=7∧z.st=6)):Sim i (z.to c).z (z'.to c).z:=by
 refine ⟨rfl,h.op,fun y=>?_,fun y=>?_,fun y=>?_⟩<;>simp only [Sn.to] at y ⊢
 ·exact h.s (by omega)
 ·omega
 omega
theorem Sim.shut {i:Nat} {z z':Sn} (h:Sim i z z'):Sim i (sShut z).z (sShut z').z:=by
 refine ⟨rfl,?_,fun y=>?_,fun y=>?_,fun y=>?_⟩<;>simp only [sShut] at *
 ·rw [h.op,drop_last]
 all_goals omega
theorem Sim.dig {i:Nat} {z z':Sn} (hop:z'.op=z.op.drop i) (h1:z'.sz=z.sz) (h2:z'.tk.n=z.tk.n) (b:Nat):Sim i (sDig z b).z (sDig z' b).z:=by
 refine ⟨rfl,hop,fun y=>?_,fun y=>?_,fun y=>?_⟩<;>simp only [sDig] at *
 ·omega
 ·rw [h1,h2]; exact ⟨rfl,rfl⟩
 omega
theorem sim_may {i:Nat} {z z':Sn} (h:Sim i z z') (hi:i<z.op.length) (b:Nat):mayF z'.op b=mayF z.op b∧inThing z'.op=inThing z.op:=by
 have e:inThing z'.op=inThing z.op:=by unfold inThing; rw [h.op,last_drop hi]
 refine ⟨?_,e⟩
 unfold mayF
 have e1:z'.op.isEmpty=false:=by rw [h.op]; cases hd:z.op.drop i with
  | nil=>have:=congrArg List.length hd; simp at this; omega
  | cons a l=>rfl
 have e2:z.op.isEmpty=false:=by cases hd:z.op with
  | nil=>rw [hd] at hi; simp at hi
  | cons a l=>rfl
 rw [e,e1,e2]
theorem Sim.beh {i:Nat} {z z':Sn} (h:Sim i z z') (hi:i<z.op.length) (b:Nat) (hc:(sBehind z b).z.st≤10):Sim i (sBehind z b).z (sBehind z' b).z:=by
 obtain ⟨m1,m2⟩:=sim_may h hi b
 unfold sBehind at hc ⊢
 rw [m1,m2]
 split at hc
 ·simp [Sn.to] at hc
 rename_i c1
 rw [if_neg c1,if_neg c1]
 repeat' split
 all_goals first | exact h.shut | exact h.to (by omega)
theorem sim_begin {i:Nat} {z z':Sn} (hop:z'.op=z.op.drop i) (hi:i≤z.op.length) (h8:z.op.length≤8) {b:Nat} (hc:(sBegin z b).z.st≤10):Sim i (sBegin z b).z (sBegin z' b).z:=by
 have lot:∀k c,c≤2→(sLot z k c).z.st≤10→Sim i (sLot z k c).z (sLot z' k c).z:=fun k c hc2 hx=>by
  unfold sLot at hx
  split at hx
  ·simp [Sn.to] at hx
  rename_i c8
  have hl:z'.op.length=z.op.length - i:=by rw [hop,List.length_drop]
  unfold sLot
  rw [if_neg c8,if_neg (by omega)]
  refine ⟨rfl,?_,fun y=>?_,fun y=>?_,fun y=>?_⟩<;>simp only at *
  ·rw [hop,List.drop_append_of_le_length hi]
  all_goals omega
 unfold sBegin at hc ⊢
 by_cases d1:b=91
 ·rw [if_pos d1] at hc ⊢; rw [if_pos d1]; exact lot 5 1 (by omega) hc
 rw [if_neg d1] at hc ⊢; rw [if_neg d1]
 by_cases d2:b=123
 ·rw [if_pos d2] at hc ⊢; rw [if_pos d2]; exact lot 6 2 (by omega) hc
 rw [if_neg d2] at hc ⊢; rw [if_neg d2]
 by_cases d3:b=34
 ·rw [if_pos d3,if_pos d3]
  exact ⟨rfl,hop,fun _=>rfl,fun y=>by simp [sBStr] at y,fun y=>by simp [sBStr] at y⟩
 rw [if_neg d3] at hc ⊢; rw [if_neg d3]
 have wd:∀k l,Sim i (sBWord z k l).z (sBWord z' k l).z:=fun k l=>⟨rfl,hop,fun y=>by simp [sBWord] at y,fun y=>by simp [sBWord] at y,fun _=>rfl⟩
 by_cases d4:b=116
 ·rw [if_pos d4,if_pos d4]; exact wd _ _
 rw [if_neg d4] at hc ⊢; rw [if_neg d4]
 by_cases d5:b=102
 ·rw [if_pos d5,if_pos d5]; exact wd _ _
 rw [if_neg d5] at hc ⊢; rw [if_neg d5]
 by_cases d6:b=110
 ·rw [if_pos d6,if_pos d6]; exact wd _ _
 rw [if_neg d6] at hc ⊢; rw [if_neg d6]
 unfold sBNum at hc ⊢
 by_cases d7:b=45
 ·rw [if_pos d7,if_pos d7]
  exact ⟨rfl,hop,fun y=>by simp at y,fun _=>⟨rfl,rfl⟩,fun y=>by simp at y⟩
 rw [if_neg d7] at hc ⊢; rw [if_neg d7]
 by_cases d8:isDig b=true
 ·rw [if_pos d8,if_pos d8]
  exact Sim.dig (z:={ z with tk:=⟨3,3,z.at',0,0,[]⟩,sz:=0,sg:=1 }) (z':={ z' with tk:=⟨3,3,z'.at',0,0,[]⟩,sz:=0,sg:=1 }) hop rfl rfl b
 rw [if_neg d8] at hc; simp at hc
theorem sim_open {i:Nat} {z z':Sn} (h:Sim i z z') (hi:i<z.op.length) (h8:z.op.length≤8) (hz:z.st≤10) {b:Nat} (hc:(sNext z b).z.st≤10):Sim i (sNext z b).z (sNext z' b).z:=by
 obtain ⟨m1,m2⟩:=sim_may h hi b
 unfold sNext at hc ⊢
 rw [h.st]
 by_cases h6:z.st=6
 ·rw [if_pos h6] at hc ⊢; rw [if_pos h6]
  have hk:=h.s (Or.inl h6)
  unfold sStr at hc ⊢
  split at hc
  ·simp [Sn.to] at hc
  rename_i c1
  rw [if_neg c1,if_neg c1]
  split at hc
  ·rename_i c2; rw [if_pos c2,if_pos c2]; exact h.to (Or.inr ⟨rfl,h6⟩)
  rename_i c2
  rw [if_neg c2,if_neg c2]
  split at hc
  ·rename_i c3; rw [if_pos c3,if_pos c3]
   unfold sEndS
   rw [hk]
   split
   ·exact ⟨rfl,h.op,fun y=>by simp [sEndP] at y,fun y=>by simp [sEndP] at y,fun y=>by simp [sEndP] at y⟩
   exact ⟨rfl,h.op,fun y=>by simp at y,fun y=>by simp at y,fun y=>by simp at y⟩
  rename_i c3; rw [if_neg c3,if_neg c3]
  exact ⟨rfl,h.op,fun _=>hk,fun y=>by simp [sAdd] at y,fun y=>by simp [sAdd] at y⟩
 rw [if_neg h6] at hc ⊢; rw [if_neg h6]
 by_cases h7:z.st=7
 ·rw [if_pos h7] at hc ⊢; rw [if_pos h7]
  have hk:=h.s (Or.inr h7)
  unfold sEsc at hc ⊢
  split at hc
  ·simp [Sn.to] at hc
  rename_i c1
  rw [if_neg c1,if_neg c1]
  exact ⟨rfl,h.op,fun _=>hk,fun y=>by simp [sAdd] at y,fun y=>by simp [sAdd] at y⟩
 rw [if_neg h7] at hc ⊢; rw [if_neg h7]
 by_cases h89:z.st=8∨z.st=9
 ·rw [if_pos h89] at hc ⊢; rw [if_pos h89]
  obtain ⟨k1,k2⟩:=h.n h89
  unfold sNum at hc ⊢
  rw [h.st,k1,m1]
  split at hc
  ·simp [Sn.to] at hc
  rename_i c1
  rw [if_neg c1,if_neg c1]
  split at hc
  ·rename_i c2; rw [if_pos c2,if_pos c2]; exact Sim.dig h.op k1 k2 b
  rename_i c2
  rw [if_neg c2,if_neg c2]
  split at hc
  ·simp [Sn.to] at hc
  rename_i c3
  rw [if_neg c3,if_neg c3]
  exact h.beh hi b hc
 rw [if_neg h89] at hc ⊢; rw [if_neg h89]
 by_cases h10:z.st=10
 ·rw [if_pos h10] at hc ⊢; rw [if_pos h10]
  have hr:=h.w h10
  unfold sWord at hc ⊢
  rw [hr]
  split at hc
  ·simp [Sn.to] at hc
  rename_i c1
  rw [if_neg c1,if_neg c1]
  split
  ·exact ⟨rfl,h.op,fun y=>by simp [sEndP] at y,fun y=>by simp [sEndP] at y,fun y=>by simp [sEndP] at y⟩
  exact ⟨rfl,h.op,fun y=>by simp at y,fun y=>by simp at y,fun _=>rfl⟩
 rw [if_neg h10] at hc ⊢; rw [if_neg h10]
 by_cases hb:isBl b=true
 ·rw [if_pos hb,if_pos hb]; exact h.to (by omega)
 rw [if_neg hb] at hc ⊢; rw [if_neg hb]
 unfold sBetw at hc ⊢
 rw [h.st]
 by_cases c5:z.st=5
 ·rw [if_pos c5] at hc ⊢; rw [if_pos c5]; exact h.beh hi b hc
 rw [if_neg c5] at hc ⊢; rw [if_neg c5]
 by_cases c4:z.st=4∧b=58
 ·rw [if_pos c4,if_pos c4]; exact h.to (by omega)
 rw [if_neg c4] at hc ⊢; rw [if_neg c4]
 by_cases c3:(z.st=1∧b=93)∨(z.st=2∧b=125)
 ·rw [if_pos c3,if_pos c3]; exact h.shut
 rw [if_neg c3] at hc ⊢; rw [if_neg c3]
 by_cases c1:z.st=1∨z.st=0
 ·rw [if_pos c1] at hc ⊢; rw [if_pos c1]; exact sim_begin h.op (by omega) h8 hc
 rw [if_neg c1] at hc ⊢; rw [if_neg c1]
 by_cases c2:z.st≠4∧b=34
 ·rw [if_pos c2,if_pos c2]
  exact ⟨rfl,h.op,fun _=>rfl,fun y=>by simp [sBStr] at y,fun y=>by simp [sBStr] at y⟩
 rw [if_neg c2] at hc; simp [Sn.to] at hc
theorem sim_make {i:Nat} {z z':Sn} (hok:SOk z) (h:Sim i z z') (h6':6≤z.st) (hz:z.st≤10) {b:Nat} (hc:(sNext z b).z.st≤10) (hn:z.st=9→(sNext z b).ts=[]):Sim i (sNext z b).z (sNext z' b).z:=by
 unfold sNext at hc hn ⊢
 rw [h.st]
 by_cases h6:z.st=6
 ·rw [if_pos h6] at hc ⊢; rw [if_pos h6]
  have hk:=h.s (Or.inl h6)
  unfold sStr at hc ⊢
  split at hc
  ·simp [Sn.to] at hc
  rename_i c1
  rw [if_neg c1,if_neg c1]
  split at hc
  ·rename_i c2; rw [if_pos c2,if_pos c2]; exact h.to (Or.inr ⟨rfl,h6⟩)
  rename_i c2
  rw [if_neg c2,if_neg c2]
  split at hc
  ·rename_i c3; rw [if_pos c3,if_pos c3]
   unfold sEndS
   rw [hk]
   split
   ·exact ⟨rfl,h.op,fun y=>by simp [sEndP] at y,fun y=>by simp [sEndP] at y,fun y=>by simp [sEndP] at y⟩
   exact ⟨rfl,h.op,fun y=>by simp at y,fun y=>by simp at y,fun y=>by simp at y⟩
  rename_i c3; rw [if_neg c3,if_neg c3]
  exact ⟨rfl,h.op,fun _=>hk,fun y=>by simp [sAdd] at y,fun y=>by simp [sAdd] at y⟩
 rw [if_neg h6] at hc hn ⊢; rw [if_neg h6]
 by_cases h7:z.st=7
 ·rw [if_pos h7] at hc ⊢; rw [if_pos h7]
  have hk:=h.s (Or.inr h7)
  unfold sEsc at hc ⊢
  split at hc
  ·simp [Sn.to] at hc
  rename_i c1
  rw [if_neg c1,if_neg c1]
  exact ⟨rfl,h.op,fun _=>hk,fun y=>by simp [sAdd] at y,fun y=>by simp [sAdd] at y⟩
 rw [if_neg h7] at hc hn ⊢; rw [if_neg h7]
 by_cases h89:z.st=8∨z.st=9
 ·rw [if_pos h89] at hc hn ⊢; rw [if_pos h89]
  obtain ⟨k1,k2⟩:=h.n h89
  unfold sNum at hc hn ⊢
  rw [h.st,k1]
  split at hc
  ·simp [Sn.to] at hc
  rename_i c1
  rw [if_neg c1] at hn ⊢; rw [if_neg c1]
  split at hc
  ·rename_i c2; rw [if_pos c2,if_pos c2]; exact Sim.dig h.op k1 k2 b
  rename_i c2
  rw [if_neg c2] at hn
  split at hc
  ·simp [Sn.to] at hc
  rename_i c3
  rw [if_neg c3] at hn
  rcases h89 with y | y
  ·exfalso
   have hb:49≤b∧b≤57:=by
    by_cases q:49≤b∧b≤57
    ·exact q
    exact absurd ⟨y,q⟩ c1
   exact absurd ⟨by simp [isDig]; omega,by have:=(hok.m y).1; omega⟩ c2
  exact absurd (hn y) (by simp)
 rw [if_neg h89] at hc ⊢; rw [if_neg h89]
 have h10:z.st=10:=by omega
 rw [if_pos h10] at hc ⊢; rw [if_pos h10]
 have hr:=h.w h10
 unfold sWord at hc ⊢
 rw [hr]
 split at hc
 ·simp [Sn.to] at hc
 rename_i c1
 rw [if_neg c1,if_neg c1]
 split
 ·exact ⟨rfl,h.op,fun y=>by simp [sEndP] at y,fun y=>by simp [sEndP] at y,fun y=>by simp [sEndP] at y⟩
 exact ⟨rfl,h.op,fun y=>by simp at y,fun y=>by simp at y,fun _=>rfl⟩
end Tr
namespace Tr
def Zs (p:List UInt8):Sn:=(sRun sInit p).z
def Gt (p:List UInt8):Gs:=gRun gInit (sRun sInit p).ts
theorem snoc_run {p:List UInt8} {b:UInt8} (h:(sRun sInit p).e=0):(sRun sInit (p++[b])).e=0↔((sNext (Zs p) b.toNat).z.st≠12∧(sNext (Zs p) b.toNat).z.st≠11):=by
 rw [sRun_app p [b] sInit h]
 show (sRun (Zs p) [b]).e=0↔_
 rw [sRun]
 split
 ·rename_i h1; simp [h1]
 rename_i h1
 split
 ·rename_i h2; simp [h2]
 rename_i h2; simp [sRun,h1,h2]
theorem snoc_pre {p:List UInt8} {b:UInt8} (h:(sRun sInit (p++[b])).e=0):(sRun sInit p).e=0:=by
 by_cases y:(sRun sInit p).e=0
 ·exact y
 rw [sRun_bad p [b] sInit y] at h; exact h
structure Sc (p:List UInt8) (b:UInt8):Prop where
 e:(sRun sInit p).e=0
 e2:(sRun sInit (p++[b])).e=0
 ok:SOk (Zs p)
 lk:Lk (Zs p) (Gt p).sh
 st:(Zs p).st≤10
 at':(Zs p).at'=p.length
 nst:(sNext (Zs p) b.toNat).z.st≤10
 z:Zs (p++[b])={ (sNext (Zs p) b.toNat).z with at':=(sNext (Zs p) b.toNat).z.at'+1 }
 g:Gt (p++[b])=gRun (Gt p) (sNext (Zs p) b.toNat).ts
 tok:OkL (Gt p).sh (sNext (Zs p) b.toNat).ts
structure Rn (p:List UInt8):Prop where
 ok:SOk (Zs p)
 lk:Lk (Zs p) (Gt p).sh
 st:(Zs p).st≤10
 at':(Zs p).at'=p.length
theorem rn_of {p:List UInt8} (hl:p.length≤4000000) (h:(sRun sInit p).e=0):Rn p:=by
 have R:=run_ok' p sInit_ok.1 sInit_ok.2 (by simp [sInit]) (by simp [sInit]; omega)
 obtain ⟨r1,r2,r3,r4⟩:=R.ok h
 refine ⟨r1,?_,r2,r3.trans (by simp [sInit])⟩
 have hg:(Gt p).sh=shRun ⟨[],0⟩ (sRun sInit p).ts:=gRun_sh (g:=gInit) R.tok
 rw [hg]; exact r4
theorem sc_of {p:List UInt8} {b:UInt8} (hl:p.length<4000000) (h:(sRun sInit (p++[b])).e=0):Sc p b:=by
 have h0:=snoc_pre h
 have R:=rn_of (by omega) h0
 have S:=stp_next R.ok R.lk R.st (by rw [R.at']; omega) b.toNat
 obtain ⟨n12,n11⟩:=(snoc_run h0).1 h
 have e:sRun (Zs p) [b]=⟨{ (sNext (Zs p) b.toNat).z with at':=(sNext (Zs p) b.toNat).z.at'+1 },0,(sNext (Zs p) b.toNat).ts⟩:=by
  rw [sRun,if_neg n12,if_neg n11]; simp [sRun]
 have ea:=sRun_app p [b] sInit h0
 have ez:(sRun sInit p).z=Zs p:=rfl
 rw [ez,e] at ea
 refine ⟨h0,h,R.ok,R.lk,R.st,R.at',by have:=S.st; omega,?_,?_,S.tok⟩
 ·unfold Zs at *; rw [ea]
 unfold Gt; rw [ea,gRun_app]
def rootD (st:List Fm):Option (Nat×List UInt8):=st.getLast?.map (fun f=>(f.d.frm,f.d.path))
theorem rootD_on (r:List Fm) (kp:Bool) (v:Tv):rootD (gOn r kp v)=rootD r:=by
 cases r with
 | nil=>rfl
 | cons p q =>
  show rootD (gKeep p kp v::q)=_
  have e:(gKeep p kp v).d=p.d:=by unfold gKeep; split<;>rfl
  cases q with
  | nil=>simp [rootD,e]
  | cons a l=>simp [rootD,List.getLast?_cons_cons]
theorem rootD_cons (f:Fm) {r:List Fm} (h:r≠[]):rootD (f::r)=rootD r:=by
 cases r with
 | nil=>exact absurd rfl h
 | cons a l=>simp [rootD,List.getLast?_cons_cons]
theorem gTake_0 (g:Gs) {t:Tok} (h:t.k=0):(gTake g t true).st=gBegin g t true::g.st∧(gTake g t true).last=g.last:=by
 unfold gTake; rw [if_pos h]; exact ⟨rfl,rfl⟩
theorem gTake_1 {g:Gs} {t:Tok} {f:Fm} {r:List Fm} (h:t.k=1) (hs:g.st=f::r):(gTake g t true).st=gOn r f.kp (f.tv t.to)∧(gTake g t true).last=some (f.tv t.to):=by
 unfold gTake; rw [if_neg (by omega),if_pos h,hs]; exact ⟨rfl,rfl⟩
theorem gTake_2 (g:Gs) {t:Tok} (h:t.k=2):(gTake g t true).st=g.st∧(gTake g t true).last=g.last:=by
 unfold gTake; rw [if_neg (by omega),if_neg (by omega),if_pos h]; exact ⟨rfl,rfl⟩
theorem gTake_3 (g:Gs) {t:Tok} (h:t.k=3):∃v:Tv,(gTake g t true).st=gOn g.st true v∧(gTake g t true).last=some v∧v.ws=[]∧v.d.frm=t.frm∧v.d.to=t.to∧v.d.path=gPath g.st g.ix g.nm:=by
 refine ⟨(gBegin g t true).tv t.to,?_⟩
 unfold gTake; rw [if_neg (by omega),if_neg (by omega),if_neg (by omega)]; exact ⟨rfl,rfl,rfl,rfl,rfl,rfl⟩
theorem st_ne {z:Sn} {g:Gs} (h:Lk z g.sh):(g.st=[]↔z.op=[])∧g.st.length=z.op.length:=by
 have e:=h.op
 have el:g.st.length=z.op.length:=by rw [← e]; simp [Gs.sh]
 refine ⟨⟨fun y=>?_,fun y=>?_⟩,el⟩
 ·rw [y] at el; exact List.eq_nil_of_length_eq_zero el.symm
 rw [y] at el; exact List.eq_nil_of_length_eq_zero el
def NB (s:List UInt8):Prop:=∃c r,s=c::r∧isBl c.toNat=false
theorem NB.app {s:List UInt8} (h:NB s) (r:List UInt8):NB (s++r):=by
 obtain ⟨c,q,rfl,h⟩:=h
 exact ⟨c,q++r,rfl,h⟩
structure RI (p:List UInt8):Prop where
 o:(Zs p).op≠[]→rootD (Gt p).st=some (0,[36])
 n:(Zs p).op=[]→5≤(Zs p).st∧(6≤(Zs p).st→(Zs p).tk.k=3∧(Zs p).tk.frm=0)
theorem plain_k {z:Sn} {s:Sh} (h1:SOk z) (h2:Lk z s) (h6:6≤z.st) (hz:z.st≤10) (ho:z.op=[]):z.tk.k=3:=by
 have:z.st=6∨z.st=7∨z.st=8∨z.st=9∨z.st=10:=by omega
 rcases this with y | y | y | y | y
 ·rcases h1.st (Or.inl y) with q | q
  ·exact absurd ho ((h2.sS (Or.inl y)).2.2 q)
  exact q
 ·rcases h1.st (Or.inr y) with q | q
  ·exact absurd ho ((h2.sS (Or.inr y)).2.2 q)
  exact q
 ·exact (h1.n (Or.inl y)).2.2.2.2
 ·exact (h1.n (Or.inr y)).2.2.2.2
 exact (h1.w y).2.2
theorem ri_one {b:UInt8} (hb:isBl b.toNat=false) (h:(sRun sInit ([]++[b])).e=0):RI ([]++[b]):=by
 have S:=sc_of (p:=[]) (by simp) h
 have R:=rn_of (by simp) S.e2
 have C:=next_cls S.ok S.st S.nst
 have z0:Zs []=sInit:=rfl
 have g0:Gt []=gInit:=rfl
 have s0:(Zs []).st=0:=rfl
 have at0:(Zs []).at'=0:=rfl
 have o0:(Zs []).op=[]:=rfl
 have eo:(Zs ([]++[b])).op=(sNext (Zs []) b.toNat).z.op:=by rw [S.z]
 have es:(Zs ([]++[b])).st=(sNext (Zs []) b.toNat).z.st:=by rw [S.z]
 have et:(Zs ([]++[b])).tk=(sNext (Zs []) b.toNat).z.tk:=by rw [S.z]
 rcases C with ⟨a1,a2,a3,a4,a5,a6⟩ | ⟨t,_,_,_,_,a⟩ | ⟨t,_,_,_,_,_,_,a,_⟩ | ⟨t,a1,a2,a3,a4,a5,a6,a7,a8⟩ | ⟨t,_,_,_,_,_,a,_⟩ | ⟨_,a,_⟩ | ⟨u,_,a,_⟩
 ·refine ⟨fun y=>absurd (by rw [eo,a2]; exact o0) y,fun y=>?_⟩
  have h6:=a5 ⟨by rw [s0]; omega,hb⟩
  refine ⟨by rw [es]; omega,fun q=>?_⟩
  have k3:=plain_k R.ok R.lk q R.st y
  refine ⟨k3,?_⟩
  rw [et] at k3 ⊢
  rcases a6 h6 k3 with q | q
  ·rw [s0] at q; omega
  rw [q.2.2.2,at0]
 ·rw [s0] at a; omega
 ·rw [s0] at a; omega
 ·refine ⟨fun _=>?_,fun y=>?_⟩
  ·rw [S.g,a1]
   show rootD (gTake (Gt []) t true).st=_
   rw [(gTake_0 _ a2).1,g0]
   show some (t.frm,[36])=_
   rw [a3,at0]
  rw [eo,a4] at y; simp at y
 ·exact absurd o0 a
 ·rw [s0] at a; omega
 rw [s0] at a; omega
theorem ri_step {p:List UInt8} {b:UInt8} (hl:p.length<4000000) (h:(sRun sInit (p++[b])).e=0) (I:RI p):RI (p++[b]):=by
 have S:=sc_of hl h
 have R:=rn_of (by simp; omega) S.e2
 have C:=next_cls S.ok S.st S.nst
 have eo:(Zs (p++[b])).op=(sNext (Zs p) b.toNat).z.op:=by rw [S.z]
 have es:(Zs (p++[b])).st=(sNext (Zs p) b.toNat).z.st:=by rw [S.z]
 have et:(Zs (p++[b])).tk=(sNext (Zs p) b.toNat).z.tk:=by rw [S.z]
 have L:=st_ne S.lk
 have L2:=st_ne R.lk
 rcases C with ⟨a1,a2,a3,a4,a5,a6⟩ | ⟨t,a1,a2,a3,a4,a5⟩ | ⟨t,a1,a2,a3,a4,a5,a6,a7,a8⟩ | ⟨t,a1,a2,a3,a4,a5,a6,a7,a8⟩ | ⟨t,a1,a2,a3,a4,a5,a6,a7⟩ | ⟨a1,a2,a3,a4,a5,a6⟩ | ⟨u,a1,a2,a3,a4,a5,a6,a7⟩
 ·have eg:Gt (p++[b])=Gt p:=by rw [S.g,a1]; rfl
  refine ⟨fun y=>?_,fun y=>?_⟩
  ·rw [eg]; rw [eo,a2] at y; exact I.o y
  have y2:=y
  rw [eo,a2] at y
  have n:=I.n y
  refine ⟨by rw [es]; exact a4 y n.1,fun q=>?_⟩
  have k3:=plain_k R.ok R.lk q R.st y2
  refine ⟨k3,?_⟩
  rw [et] at k3 ⊢
  rw [es] at q
  rcases a6 q k3 with r | r
  ·rw [r.2.2]; exact (n.2 r.1).2
  omega
 ·have eg:(Gt (p++[b])).st=(Gt p).st:=by rw [S.g,a1]; exact (gTake_2 _ a2).1
  refine ⟨fun y=>?_,fun y=>?_⟩
  ·rw [eg]; rw [eo,a3] at y; exact I.o y
  exact absurd y (R.ok.ne (by rw [es,a4]; omega))
 ·obtain ⟨v,v1,_⟩:=gTake_3 (Gt p) a2
  have eg:rootD (Gt (p++[b])).st=rootD (Gt p).st:=by rw [S.g,a1]; show rootD (gTake (Gt p) t true).st=_; rw [v1,rootD_on]
  refine ⟨fun y=>?_,fun y=>?_⟩
  ·rw [eg]; rw [eo,a5] at y; exact I.o y
  rw [es,a6]; exact ⟨by omega,fun q=>by omega⟩
 ·have hne:(Zs p).op≠[]:=fun y=>by have:=(I.n y).1; omega
  have eg:rootD (Gt (p++[b])).st=rootD (Gt p).st:=by rw [S.g,a1]; show rootD (gTake (Gt p) t true).st=_; rw [(gTake_0 _ a2).1,rootD_cons _ (fun y=>hne (L.1.1 y))]
  refine ⟨fun y=>?_,fun y=>?_⟩
  ·rw [eg]; exact I.o hne
  rw [eo,a4] at y; simp at y
 ·cases hs:(Gt p).st with
  | nil=>exact absurd (L.1.1 hs) a6
  | cons f r =>
   have eg:(Gt (p++[b])).st=gOn r f.kp (f.tv t.to):=by rw [S.g,a1]; exact (gTake_1 a2 hs).1
   refine ⟨fun y=>?_,fun y=>?_⟩
   ·have hr:r≠[]:=fun q=>y (L2.1.1 (by rw [eg,q]; rfl))
    rw [eg,rootD_on,← rootD_cons f hr,← hs]
    exact I.o a6
   rw [es,a5]; exact ⟨by omega,fun q=>by omega⟩
 ·have hk:(sNumT (Zs p)).k=3:=(S.ok.n (Or.inr a2)).2.2.2.2
  obtain ⟨v,v1,_⟩:=gTake_3 (Gt p) hk
  have eg:rootD (Gt (p++[b])).st=rootD (Gt p).st:=by rw [S.g,a1]; show rootD (gTake (Gt p) (sNumT (Zs p)) true).st=_; rw [v1,rootD_on]
  refine ⟨fun y=>?_,fun y=>?_⟩
  ·rw [eg]; rw [eo,a3] at y; exact I.o y
  rw [eo,a3] at y
  rw [es,a5 y]; exact ⟨by omega,fun q=>by omega⟩
 have hk:(sNumT (Zs p)).k=3:=(S.ok.n (Or.inr a2)).2.2.2.2
 obtain ⟨v,v1,_⟩:=gTake_3 (Gt p) hk
 have er:=rootD_on (Gt p).st true v
 cases hs:gOn (Gt p).st true v with
 | nil =>
  have:=gOn_len (Gt p).st true v
  rw [hs] at this
  exact absurd (L.1.1 (List.eq_nil_of_length_eq_zero this.symm)) a7
 | cons f r =>
  have eg:(Gt (p++[b])).st=gOn r f.kp (f.tv u.to):=by rw [S.g,a1]; exact (gTake_1 a3 (v1.trans hs)).1
  refine ⟨fun y=>?_,fun y=>?_⟩
  ·have hr:r≠[]:=fun q=>y (L2.1.1 (by rw [eg,q]; rfl))
   rw [eg,rootD_on,← rootD_cons f hr,← hs,er]
   exact I.o a7
  rw [es,a6]; exact ⟨by omega,fun q=>by omega⟩
theorem ri_all:∀(n:Nat) (p:List UInt8),p.length=n→n≤4000000→NB p→(sRun sInit p).e=0→RI p
 | 0,p,hn,_,hb,_=>by
  obtain ⟨c,r,rfl,_⟩:=hb
  simp at hn
 | n+1,p,hn,hl,hb,he=>by
  rcases List.eq_nil_or_concat p with e | ⟨q,b,e⟩
  ·rw [e] at hn; simp at hn
  rw [List.concat_eq_append] at e
  subst e
  rw [List.length_append,List.length_singleton] at hn
  cases q with
  | nil =>
   obtain ⟨c,r,e,hc⟩:=hb
   have:b=c:=by simp at e; exact e.1
   rw [this] at he ⊢
   exact ri_one hc he
  | cons a q =>
   obtain ⟨c,r,e,hc⟩:=hb
   have:a=c:=by simp at e; exact e.1
   exact ri_step (by omega) he (ri_all n (a::q) (by omega) (by omega) ⟨a,q,rfl,by rw [this]; exact hc⟩ (snoc_pre he))
structure OwnT (s:List UInt8):Prop where
 e:txErr s=0
 v:∃u,txVal s=some u∧u.d.frm=0∧u.d.to=s.length∧u.d.path=[36]
theorem ownT_of {s:List UInt8} (he:(sRun sInit s).e=0) (ho:(Zs s).op=[]) (h5:(Zs s).st=5) {u:Tv} (hu:(Gt s).last=some u) (h1:u.d.frm=0) (h2:u.d.to=s.length) (h3:u.d.path=[36]):OwnT s:=by
 have hw:sWhole (sRun sInit s).z=true:=by
  show sWhole (Zs s)=true
  simp [sWhole,h5,ho]
 refine ⟨?_,u,?_,h1,h2,h3⟩
 ·unfold txErr; rw [if_neg (by simpa using he),if_pos hw]
 unfold txVal txTs
 have:sEnd (sRun sInit s).z=[]:=by show sEnd (Zs s)=[]; unfold sEnd; rw [if_neg (by omega)]
 rw [this,List.append_nil]; exact hu
theorem own_plain {p:List UInt8} {b:UInt8} (hl:p.length<4000000) (hb:NB p) (h:(sRun sInit (p++[b])).e=0) (ho:(Zs p).op=[]) {t:Tok} (h1:(sNext (Zs p) b.toNat).ts=[t]) (h2:t.k=3) (h3:t.frm=(Zs p).tk.frm) (h4:t.to=(Zs p).at'+1) (h5:(sNext (Zs p) b.toNat).z.op=(Zs p).op) (h6:(sNext (Zs p) b.toNat).z.st=5) (h7:6≤(Zs p).st):OwnT (p++[b]):=by
 have S:=sc_of hl h
 have I:=ri_all _ p rfl (by omega) hb S.e
 obtain ⟨v,v1,v2,v3,v4,v5,v6⟩:=gTake_3 (Gt p) h2
 have hs:(Gt p).st=[]:=(st_ne S.lk).1.2 ho
 refine ownT_of h (by rw [S.z]; exact h5.trans ho) (by rw [S.z]; exact h6) (u:=v) (by rw [S.g,h1]; exact v2) ?_ ?_ ?_
 ·rw [v4,h3]; exact ((I.n ho).2 h7).2
 ·rw [v5,h4,S.at']; simp
 rw [v6,hs]; rfl
theorem own_num {p:List UInt8} (hl:p.length≤4000000) (hb:NB p) (h:(sRun sInit p).e=0) (ho:(Zs p).op=[]) (h9:(Zs p).st=9):OwnT p:=by
 have I:=ri_all _ p rfl hl hb h
 have R:=rn_of hl h
 have hk:(sNumT (Zs p)).k=3:=(R.ok.n (Or.inr h9)).2.2.2.2
 obtain ⟨v,v1,v2,v3,v4,v5,v6⟩:=gTake_3 (Gt p) hk
 have hs:(Gt p).st=[]:=(st_ne R.lk).1.2 ho
 have hw:sWhole (sRun sInit p).z=true:=by
  show sWhole (Zs p)=true
  simp [sWhole,h9,ho]
 refine ⟨?_,v,?_,?_,?_,?_⟩
 ·unfold txErr; rw [if_neg (by simpa using h),if_pos hw]
 ·unfold txVal txTs
  have:sEnd (sRun sInit p).z=[sNumT (Zs p)]:=by show sEnd (Zs p)=_; unfold sEnd; rw [if_pos h9]
  rw [this,gRun_app]; exact v2
 ·rw [v4]; exact ((I.n ho).2 (by omega)).2
 ·rw [v5]; exact R.at'
 rw [v6,hs]; rfl
theorem shut_last {g:Gs} {a:Nat} {q:List UInt8} (h1:g.st.length=1) (hr:rootD g.st=some (a,q)) {ts:List Tok} {u:Tok} (hu:u.k=1) (ht:ts=[u]∨∃t,t.k=3∧ts=[t,u]):∃v,(gRun g ts).last=some v∧v.d.frm=a∧v.d.path=q∧v.d.to=u.to:=by
 have go:∀g:Gs,g.st.length=1→rootD g.st=some (a,q)→∃v,(gTake g u true).last=some v∧v.d.frm=a∧v.d.path=q∧v.d.to=u.to:=fun g h1 hr=>by
  cases hs:g.st with
  | nil=>rw [hs] at h1; simp at h1
  | cons f r =>
   rw [hs] at h1 hr
   have:r=[]:=by simp at h1; exact h1
   subst this
   have e:(f.d.frm,f.d.path)=(a,q):=by simpa [rootD] using hr
   have e1:f.d.frm=a:=congrArg Prod.fst e
   have e2:f.d.path=q:=congrArg Prod.snd e
   exact ⟨f.tv u.to,(gTake_1 hu hs).2,e1,e2,rfl⟩
 rcases ht with rfl | ⟨t,hk,rfl⟩
 ·exact go g h1 hr
 obtain ⟨v,v1,_⟩:=gTake_3 g hk
 exact go (gTake g t true) (by rw [v1,gOn_len]; exact h1) (by rw [v1,rootD_on]; exact hr)
theorem own_shut {p:List UInt8} {b:UInt8} (hl:p.length<4000000) (hb:NB p) (h:(sRun sInit (p++[b])).e=0) (ho:(Zs p).op.length=1) {u:Tok} (hu:u.k=1) (hto:u.to=(Zs p).at'+1) (ht:(sNext (Zs p) b.toNat).ts=[u]∨∃t,t.k=3∧(sNext (Zs p) b.toNat).ts=[t,u]) (h5:(sNext (Zs p) b.toNat).z.op=(Zs p).op.dropLast) (h6:(sNext (Zs p) b.toNat).z.st=5):OwnT (p++[b]):=by
 have S:=sc_of hl h
 have I:=ri_all _ p rfl (by omega) hb S.e
 have hne:(Zs p).op≠[]:=fun y=>by rw [y] at ho; simp at ho
 obtain ⟨v,v1,v2,v3,v4⟩:=shut_last (by rw [(st_ne S.lk).2]; exact ho) (I.o hne) hu ht
 refine ownT_of h ?_ (by rw [S.z]; exact h6) (u:=v) (by rw [S.g]; exact v1) v2 ?_ v3
 ·rw [S.z]
  show (sNext (Zs p) b.toNat).z.op=[]
  rw [h5]
  exact List.eq_nil_of_length_eq_zero (by rw [List.length_dropLast,ho])
 rw [v4,hto,S.at']; simp
end Tr
