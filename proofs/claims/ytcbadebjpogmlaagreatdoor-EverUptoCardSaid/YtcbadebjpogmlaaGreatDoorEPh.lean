import Derived.Test.YtcbadebjpogmlaaGreatDoorEHc
import Derived.Test.YtcbadebjpogmlaaGreatDoorEAf
import Derived.Test.YtcbadebjpogmlaaGreatDoorESq
import Derived.Test.YtcbadebjpogmlaaGreatDoorEFa
namespace Go.Proofs.YtcbadebjpogmlaaGreatDoor
open Go.RowKit Tr
theorem ph_all {w:World} {A:Nat→Nat} {D:Nat→Prop} {bd:Nat}:∀{n d:Nat} {par:Value} {ix:Nat} {t:Tv},PT w A D n par ix t→FB bd n t→(∀v ∈ allT n t,NmV v)→ix≤4000000→PH w d (A t.d.frm) t.d.path→n+d≤11→∀v ∈ allT n t,∃d' par' ix' sv,d'≤10∧PH w d' (A v.d.frm) v.d.path∧Blk w (A v.d.frm) (pcl v.d par' ix' sv) 130
  | 0,_,_,_,_,h,_,_,_,_,_,_,_=>h.elim
  | n+1,d,par,ix,t,h,hf,hn,hix,hp,hd,v,hv=>by
    obtain ⟨h1,h2,h3,⟨sv,h4,_,h5⟩,h6⟩:=h
    have hv:v ∈ t::t.ws.flatMap (allT n):=hv
    rcases List.mem_cons.1 hv with e | e
    · subst e; exact ⟨d,par,ix,sv,by omega,hp,h4⟩
    obtain ⟨c,hc,hvc⟩:=List.mem_flatMap.1 e
    obtain ⟨i,hi,rfl⟩:=List.mem_iff_getElem.1 hc
    have hk:=h6 i hi
    have hself:∀v ∈ allT n t.ws[i],NmV v:=fun u hu=>hn u (kid_sub hc u hu)
    cases n with
    | zero=>cases hvc
    | succ n =>
      have hne:t.ws≠[]:=fun e=>by rw [e] at hi; exact absurd hi (Nat.not_lt_zero _)
      have hkd:=(hn t (self_mem' t)).2 hne
      have hk0:=hk
      obtain ⟨k1,k2,k3,⟨svk,k4,_,k5⟩,k6⟩:=hk
      have hpk:PH w (d+1) (A (t.ws[i]).d.frm) (t.ws[i]).d.path :=
        ⟨_,_,i,svk,k4,by omega,(hself _ (self_mem' _)).1,Or.inr ⟨A t.d.frm,t.d,par,ix,sv,t.d.path,rfl,h4,h2,hkd,hp,(hf.2 i hi).2⟩⟩
      exact ph_all hk0 (hf.2 i hi).1 hself (by omega) hpk (by omega) v hvc
 where
  self_mem' {n:Nat} (t:Tv):t ∈ allT (n+1) t:=List.mem_cons_self
end Go.Proofs.YtcbadebjpogmlaaGreatDoor
namespace Tr
theorem M_stays {s:List UInt8} {i:Nat} (h:(M s i).st≤1):∀{k:Nat},i≤k→(M s k).st≤1
  | 0,hk=>by
                have:i=0:=by omega
                subst this; exact h
  | k+1,hk=>by
    by_cases e:i=k+1
    · subst e; exact h
    have:=M_stays h (k:=k) (by omega)
    rw [M]; unfold nx; rw [if_pos this]; exact this
theorem Err.notFin {s:List UInt8} {e p:Nat} (h:Err s e p) (hf:FinP s):False:=by
  have h1:(M s (p+1)).st≤1:=by have:=h.st; have:=h.e3; omega
  have:=M_stays h1 (k:=s.length+1) (by have:=h.le; omega)
  unfold FinP at hf
  omega
end Tr
namespace Tr
def qParts:List (List UInt8):=[[46,97],[46,42],[91,48,93],[91,49,58,93],[46,46,97],[46,46,42],[91,39,97,39,44,42,93],[91,48,44,48,44,49,93],[46,46,91,48,93],[91,58,50,93],[46,98],[46,46,91,39,98,39,44,49,93],[91,45,49,93],[91,45,50,44,48,93],[46,46,91,45,49,93]]
def qConds:List (List UInt8):=[[64],[64,46,97],[64,46,97,61,61,49],[64,60,53],[64,46,97,33,61,39,97,39],[64,91,48,93,60,61,49,50],[64,91,45,49,93,61,61,110,117,108,108],[33,64,46,98],[64,46,97,124,124,64,46,98],[64,46,97,38,38,64,46,98,61,61,48],[40,64,60,48,124,124,64,46,97,41,38,38,33,64,46,98],[64,61,61,116,114,117,101],[33,40,33,64,46,97,41],[64,46,97,46,98,91,48,93],[64,60,61,39,97,39]]
def qPart (k c:Nat):List UInt8:=if k<15 then qParts.getD k [] else (if k % 2=1 then [46,46] else [])++[91,63]++qConds.getD c []++[93]
def Mr (m:G) (l:List UInt8):G:=l.foldl (fun m b=>nx m b.toNat) m
def Cr:G→List UInt8→Nat
  | _,[]=>0
  | m,b::l=>inc m b.toNat+Cr (nx m b.toNat) l
theorem Mr_app (m:G) (a b:List UInt8):Mr m (a++b)=Mr (Mr m a) b:=by simp [Mr]
theorem Cr_app:∀(m:G) (a b:List UInt8),Cr m (a++b)=Cr m a+Cr (Mr m a) b
  | _,[],_=>by simp [Cr,Mr]
  | m,x::a,b=>by rw [List.cons_append,Cr,Cr,Cr_app]; simp [Mr]; omega
theorem bt_get {s:List UInt8} {i:Nat} (h:i<s.length):bt s i=(s[i]).toNat:=by simp [bt,h]
theorem M_eq (s:List UInt8):∀{i:Nat},i≤s.length→M s i=Mr g0 (s.take i)∧C s i=Cr g0 (s.take i)
  | 0,_=>⟨by simp [M,Mr],by simp [C,Cr]⟩
  | i+1,h=>by
    obtain ⟨h1,h2⟩:=M_eq s (i:=i) (by omega)
    have e:s.take (i+1)=s.take i++[s[i]]:=List.take_succ_eq_append_getElem (by omega)
    constructor
    · rw [M,h1,e,Mr_app,bt_get (by omega)]; rfl
    rw [C,h1,h2,e,Cr_app,bt_get (by omega)]; simp [Cr]
def qa:G:=⟨3,0,0,[],[]⟩
def qb:G:=⟨21,3,1,[],[]⟩
def gEq (a b:G):Bool:=a.st == b.st && a.bh == b.bh && a.sz == b.sz && a.rs == b.rs && a.op == b.op
theorem gEq_eq {a b:G} (h:gEq a b=true):a=b:=by
  cases a; cases b
  simp [gEq] at h
  simp [h]
def qGood (p:List UInt8):Bool:=(gEq (Mr qa p) qa || gEq (Mr qa p) qb) && (gEq (Mr qb p) qa || gEq (Mr qb p) qb) && decide (Cr qa p≤3) && decide (Cr qb p≤3) && decide (p.length≤21)
theorem part_good:∀k,k<20→∀c,c<15→qGood (qPart k c)=true:=by decide +kernel
theorem good_step {p:List UInt8} (h:qGood p=true) {m:G} (hm:m=qa∨m=qb):(Mr m p=qa∨Mr m p=qb)∧Cr m p≤3∧p.length≤21:=by
  simp [qGood] at h
  obtain ⟨⟨⟨⟨h1,h2⟩,h3⟩,h4⟩,h5⟩:=h
  rcases hm with rfl | rfl
  · exact ⟨h1.imp gEq_eq gEq_eq,h3,h5⟩
  exact ⟨h2.imp gEq_eq gEq_eq,h4,h5⟩
theorem query_good:∀(ps:List (List UInt8)),(∀p ∈ ps,qGood p=true)→∀{m:G},(m=qa∨m=qb)→(Mr m ps.flatten=qa∨Mr m ps.flatten=qb)∧Cr m ps.flatten≤3 * ps.length∧ps.flatten.length≤21 * ps.length
  | [],_,m,hm=>by simpa [Mr,Cr] using hm
  | p::ps,h,m,hm=>by
    obtain ⟨a1,a2,a3⟩:=good_step (h p (List.mem_cons_self)) hm
    obtain ⟨b1,b2,b3⟩:=query_good ps (fun x hx=>h x (List.mem_cons_of_mem _ hx)) a1
    rw [List.flatten_cons,Mr_app,Cr_app,List.length_append,List.length_cons]
    exact ⟨b1,by omega,by omega⟩
theorem query_fin (ps:List (List UInt8)) (h:∀p ∈ ps,qGood p=true) (hl:ps.length≤3):FinP (36::ps.flatten)∧C (36::ps.flatten) ((36::ps.flatten).length+1)≤10∧(36::ps.flatten).length≤120:=by
  have e0:Mr g0 [36]=qa∧Cr g0 [36]=0:=⟨gEq_eq (by decide +kernel),by decide +kernel⟩
  obtain ⟨g1,g2,g3⟩:=query_good ps h (m:=qa) (Or.inl rfl)
  have es:(36::ps.flatten:List UInt8)=[36]++ps.flatten:=rfl
  obtain ⟨m1,m2⟩:=M_eq (36::ps.flatten) (Nat.le_refl _)
  rw [List.take_length] at m1 m2
  rw [es,Mr_app,e0.1] at m1
  rw [es,Cr_app,e0.1,e0.2] at m2
  rw [← es] at m1 m2
  have hb:bt (36::ps.flatten) (36::ps.flatten).length=256:=bt_end (Nat.le_refl _)
  have hm:(M (36::ps.flatten) (36::ps.flatten).length=qa∨M (36::ps.flatten) (36::ps.flatten).length=qb):=by rw [m1]; exact g1
  have hx:∀m:G,m=qa∨m=qb→(nx m 256).st=26∧inc m 256=0:=by
    intro m hm; rcases hm with rfl | rfl<;>decide +kernel
  obtain ⟨x1,x2⟩:=hx _ hm
  refine ⟨?_,?_,by rw [List.length_cons]; omega⟩
  · unfold FinP; rw [M,hb]; exact x1
  rw [C,hb,x2,m2]; omega
end Tr
namespace Tr
def Goes (z:Sn) (s:List UInt8) (z':Sn):Prop:=(sRun z s).e=0∧(sRun z s).z=z'
theorem Goes.nil (z:Sn):Goes z [] z:=⟨rfl,rfl⟩
theorem Goes.app {z z1 z2:Sn} {a b:List UInt8} (h:Goes z a z1) (k:Goes z1 b z2):Goes z (a++b) z2:=by
  have:=sRun_app a b z h.1
  unfold Goes
  rw [this,h.2]
  exact k
theorem Goes.cons {z:Sn} {b:UInt8} {l:List UInt8} {z1 z2:Sn} (h:(sNext z b.toNat).z=z1) (h1:z1.st≤10) (k:Goes { z1 with at':=z1.at'+1 } l z2):Goes z (b::l) z2:=by
  unfold Goes
  rw [sRun,h,if_neg (by omega),if_neg (by omega)]
  exact k
structure Beh (z z':Sn):Prop where
  op:z'.op=z.op
  st:z'.st=5∨z'.st=9
def VS (n:Nat) (s:List UInt8):Prop:=∀z:Sn,z.st=0∨z.st=1→z.op.length+n≤8→z.tx=[]→∃z',Goes z s z'∧Beh z z'∧z'.tx=[]
theorem VS.up {n m:Nat} {s:List UInt8} (h:VS n s) (hm:n≤m):VS m s:=fun z h1 h2 h3=>h z h1 (by omega) h3
theorem next_end {z:Sn} (h:z.st=5∨z.st=9) (b:Nat) (hb:b=44∨b=93∨b=125) (hm:mayF z.op b=true):(sNext z b).z=(sBehind z b).z:=by
  have hd:isDig b=false:=by rcases hb with rfl | rfl | rfl<;>rfl
  have hbl:isBl b=false:=by rcases hb with rfl | rfl | rfl<;>rfl
  rcases h with h | h
  · simp [sNext,h,hbl,sBetw]
  simp [sNext,h,sNum,hd,hm]
theorem last_app (l:List Nat) (k:Nat):inThing (l++[k])=(k == 6):=by simp [inThing]
theorem go_comma {z:Sn} {op:List Nat} {k:Nat} (hop:z.op=op++[k]) (hst:z.st=5∨z.st=9) (htx:z.tx=[]):∃z',Goes z [44] z'∧z'.op=z.op∧z'.st=(if k=6 then 3 else 0)∧z'.tx=[]:=by
  have hm:mayF z.op 44=true:=by rw [hop]; simp [mayF,last_app]
  have e:(sBehind z 44).z=(z.to (if k=6 then 3 else 0)).z:=by
    unfold sBehind
    rw [if_neg (by simp [hm]),if_neg (by decide),if_neg (by simp),hop,last_app]
    by_cases hk:k=6
    · simp [hk]
    simp [hk]
  refine ⟨_,Goes.cons ((next_end hst 44 (by omega) hm).trans e) ?_ (Goes.nil _),rfl,rfl,htx⟩
  show (if k=6 then 3 else 0)≤10
  split<;>omega
theorem go_shut {z:Sn} {op:List Nat} {k:Nat} (hop:z.op=op++[k]) (hk:k=5∨k=6) (b:UInt8) (hb:b.toNat=if k=6 then 125 else 93) (hst:(z.st=5∨z.st=9)∨(z.st=1∧k=5)∨(z.st=2∧k=6)) (htx:z.tx=[]):∃z',Goes z [b] z'∧z'.op=op∧z'.st=5∧z'.tx=[]:=by
  have hbv:b.toNat=93∨b.toNat=125:=by rw [hb]; split<;>omega
  have e:(sNext z b.toNat).z=(sShut z).z:=by
    rcases hst with h | h | h
    · have hm:mayF z.op b.toNat=true:=by
        rw [hop,hb]
        rcases hk with rfl | rfl<;>simp [mayF,last_app]
      rw [next_end h _ (by omega) hm]
      unfold sBehind
      rw [if_neg (by simp [hm]),if_neg (by rcases hbv with x | x<;>rw [x]<;>decide),if_pos (by omega)]
    · have hb3:b.toNat=93:=by rw [hb,h.2]; rfl
      simp [sNext,h.1,hb3,isBl,sBetw]
    have hb3:b.toNat=125:=by rw [hb,h.2]; rfl
    simp [sNext,h.1,hb3,isBl,sBetw]
  exact ⟨_,Goes.cons e (by simp [sShut]) (Goes.nil _),by simp [sShut,hop],rfl,htx⟩
def joinC:List (List UInt8)→List UInt8
  | []=>[]
  | [x]=>x
  | x::y::l=>x++[44]++joinC (y::l)
def Item (k n:Nat) (s:List UInt8):Prop:=∀(z:Sn) (op:List Nat),z.op=op++[k]→(z.st=(if k=6 then 3 else 0)∨z.st=(if k=6 then 2 else 1))→z.op.length+n≤8→z.tx=[]→∃z',Goes z s z'∧Beh z z'∧z'.tx=[]
theorem go_items {k n:Nat}:∀(l:List (List UInt8)),l≠[]→(∀s ∈ l,Item k n s)→∀(z:Sn) (op:List Nat),z.op=op++[k]→(z.st=(if k=6 then 3 else 0)∨z.st=(if k=6 then 2 else 1))→z.op.length+n≤8→z.tx=[]→∃z',Goes z (joinC l) z'∧Beh z z'∧z'.tx=[]
  | [],h,_,_,_,_,_,_,_=>absurd rfl h
  | [x],_,h,z,op,hop,hst,hn,htx=>h x (List.mem_singleton.2 rfl) z op hop hst hn htx
  | x::y::l,_,h,z,op,hop,hst,hn,htx=>by
    obtain ⟨z1,g1,b1,t1⟩:=h x (List.mem_cons_self) z op hop hst hn htx
    obtain ⟨z2,g2,o2,s2,t2⟩:=go_comma (b1.op.trans hop) b1.st t1
    have o3:z2.op=z.op:=o2.trans b1.op
    obtain ⟨z3,g3,b3,t3⟩:=go_items (y::l) (by simp) (fun s hs=>h s (List.mem_cons_of_mem _ hs)) z2 op (o3.trans hop) (Or.inl s2) (by rw [o3]; exact hn) t2
    exact ⟨z3,(g1.app g2).app g3,⟨b3.op.trans o3,b3.st⟩,t3⟩
theorem item_list {n:Nat} {s:List UInt8} (h:VS n s):Item 5 n s:=fun z op _ hst hn htx=>h z (by simpa using hst) hn htx
theorem vs_list' {n:Nat} (l:List (List UInt8)) (h:∀s ∈ l,Item 5 n s):VS (n+1) ([91,32]++joinC l++[93]):=fun z hst hn htx=>by
  have hne:z.st≠6∧z.st≠7∧z.st≠8∧z.st≠9∧z.st≠10∧z.st≠5∧z.st≠4∧z.st≠2:=by omega
  have e1:(sNext z 91).z={ z with st:=1,op:=z.op++[5] }:=by
    have hb:isBl 91=false:=rfl
    rcases hst with x | x<;>simp [sNext,x,hb,sBetw,sBegin,sLot,show ¬z.op.length=8 by omega]
  obtain ⟨z1,ez1⟩:∃z1:Sn,z1={ z with st:=1,op:=z.op++[5],at':=z.at'+1 }:=⟨_,rfl⟩
  have g1:Goes z [91] z1:=Goes.cons e1 (by simp) (by rw [ez1]; exact Goes.nil _)
  have s1:z1.st=1:=by rw [ez1]
  have e2:(sNext z1 32).z={ z1 with st:=1 }:=by simp [sNext,s1,isBl,Sn.to]
  obtain ⟨z2,ez2⟩:∃z2:Sn,z2={ z1 with st:=1,at':=z1.at'+1 }:=⟨_,rfl⟩
  have g2:Goes z1 [32] z2:=Goes.cons e2 (by simp) (by rw [ez2]; exact Goes.nil _)
  have o2:z2.op=z.op++[5]:=by rw [ez2,ez1]
  have t2:z2.tx=[]:=by rw [ez2,ez1]; exact htx
  have s2:z2.st=1:=by rw [ez2]
  have g12:Goes z [91,32] z2:=g1.app g2
  by_cases hl:l=[]
  · obtain ⟨z3,g3,o3,s3,t3⟩:=go_shut o2 (Or.inl rfl) 93 rfl (Or.inr (Or.inl ⟨s2,rfl⟩)) t2
    exact ⟨z3,by rw [hl]; exact g12.app g3,⟨o3,Or.inl s3⟩,t3⟩
  obtain ⟨z3,g3,b3,t3⟩:=go_items (k:=5) l hl h z2 z.op o2 (Or.inr s2) (by rw [o2]; simp; omega) t2
  obtain ⟨z4,g4,o4,s4,t4⟩:=go_shut (b3.op.trans o2) (Or.inl rfl) 93 rfl (Or.inl b3.st) t3
  exact ⟨z4,(g12.app g3).app g4,⟨o4,Or.inl s4⟩,t4⟩
theorem go_one {z:Sn} {b:UInt8} {z1:Sn} (h:(sNext z b.toNat).z=z1) (h1:z1.st≤10):Goes z [b] { z1 with at':=z1.at'+1 }:=Goes.cons h h1 (Goes.nil _)
theorem go_bytes:∀(l:List UInt8) (z:Sn),z.st=6→(∀b ∈ l,32≤b.toNat∧b.toNat≤126∧b.toNat≠92∧b.toNat≠34)→∃z',Goes z l z'∧z'.st=6∧z'.op=z.op∧z'.tk=z.tk
  | [],z,h,_=>⟨z,Goes.nil z,h,rfl,rfl⟩
  | b::l,z,h,hb=>by
    obtain ⟨h1,h2,h3,h4⟩:=hb b (List.mem_cons_self)
    have e:(sNext z b.toNat).z={ z with st:=6,tx:=z.tx++[UInt8.ofNat b.toNat] }:=by
      unfold sNext
      rw [if_pos h]
      unfold sStr
      rw [if_neg (by omega),if_neg (by omega),if_neg (by omega)]
      rfl
    obtain ⟨z',g,a1,a2,a3⟩:=go_bytes l { z with st:=6,tx:=z.tx++[UInt8.ofNat b.toNat],at':=z.at'+1 } rfl (fun x hx=>hb x (List.mem_cons_of_mem _ hx))
    exact ⟨z',Goes.cons e (by simp) g,a1,a2,a3⟩
theorem go_blanks:∀(l:List UInt8) (z:Sn),z.st≤5→(∀b ∈ l,b=32)→∃z',Goes z l z'∧z'.st=z.st∧z'.op=z.op∧z'.tx=z.tx
  | [],z,_,_=>⟨z,Goes.nil z,rfl,rfl,rfl⟩
  | b::l,z,h,hb=>by
    have eb:b=32:=hb b (List.mem_cons_self)
    subst eb
    have e:(sNext z (32:UInt8).toNat).z={ z with st:=z.st }:=by
      unfold sNext
      rw [if_neg (by omega),if_neg (by omega),if_neg (by omega),if_neg (by omega),if_pos (by decide)]
      rfl
    obtain ⟨z',g,a1,a2,a3⟩:=go_blanks l { z with at':=z.at'+1 } h (fun x hx=>hb x (List.mem_cons_of_mem _ hx))
    exact ⟨z',Goes.cons e (show z.st≤10 by omega) g,a1,a2,a3⟩
theorem go_name (nm bl bl2:List UInt8) (hn:∀b ∈ nm,32≤b.toNat∧b.toNat≤126∧b.toNat≠92∧b.toNat≠34) (hb:∀b ∈ bl,b=32) (hb2:∀b ∈ bl2,b=32) (z:Sn) (hst:z.st=3∨z.st=2) :
    ∃z',Goes z ([34]++nm++[34]++bl++[58]++bl2) z'∧z'.st=0∧z'.op=z.op∧z'.tx=[]:=by
  have e1:(sNext z (34:UInt8).toNat).z=(sBStr z 2).z:=by
    have hbl:isBl 34=false:=rfl
    show (sNext z 34).z=_
    rcases hst with x | x<;>simp [sNext,x,hbl,sBetw]
  have g1:=go_one e1 (by simp [sBStr])
  obtain ⟨z2,g2,s2,o2,k2⟩:=go_bytes nm { (sBStr z 2).z with at':=(sBStr z 2).z.at'+1 } rfl hn
  have hk:z2.tk.k=2:=by rw [k2]; rfl
  have e3:(sNext z2 (34:UInt8).toNat).z={ z2 with st:=4,tk:={ z2.tk with t:=z2.tx },tx:=[] }:=by
    show (sNext z2 34).z=_
    simp [sNext,s2,sStr,sEndS,hk]
  have g3:=go_one e3 (by simp)
  obtain ⟨z4,g4,s4,o4,t4⟩:=go_blanks bl { z2 with st:=4,tk:={ z2.tk with t:=z2.tx },tx:=[],at':=z2.at'+1 } (by simp) hb
  have s4':z4.st=4:=s4
  have e5:(sNext z4 (58:UInt8).toNat).z={ z4 with st:=0 }:=by
    have hbl:isBl 58=false:=rfl
    show (sNext z4 58).z=_
    simp [sNext,s4',hbl,sBetw,Sn.to]
  have g5:=go_one e5 (by simp)
  obtain ⟨z6,g6,s6,o6,t6⟩:=go_blanks bl2 { z4 with st:=0,at':=z4.at'+1 } (by simp) hb2
  exact ⟨z6,((((g1.app g2).app g3).app g4).app g5).app g6,s6,o6.trans (o4.trans o2),t6.trans t4⟩
def mNames:List (List UInt8):=[[34,97,34,58],[34,98,34,32,58,32],[34,120,39,121,34,58],[34,97,34,58]]
theorem go_mName {nm:List UInt8} (h:nm ∈ mNames) (z:Sn) (hst:z.st=3∨z.st=2):∃z',Goes z nm z'∧z'.st=0∧z'.op=z.op∧z'.tx=[]:=by
  simp only [mNames,List.mem_cons,List.not_mem_nil,or_false] at h
  rcases h with rfl | rfl | rfl | rfl
  · exact go_name [97] [] [] (by decide) (by decide) (by decide) z hst
  · exact go_name [98] [32] [32] (by decide) (by decide) (by decide) z hst
  · exact go_name [120,39,121] [] [] (by decide) (by decide) (by decide) z hst
  exact go_name [97] [] [] (by decide) (by decide) (by decide) z hst
theorem item_thing {n:Nat} {nm s:List UInt8} (hnm:nm ∈ mNames) (h:VS n s):Item 6 n (nm++s):=fun z op _ hst hn _=>by
  obtain ⟨z1,g1,s1,o1,t1⟩:=go_mName hnm z (by simpa using hst)
  obtain ⟨z2,g2,b2,t2⟩:=h z1 (Or.inl s1) (by rw [o1]; exact hn) t1
  exact ⟨z2,g1.app g2,⟨b2.op.trans o1,b2.st⟩,t2⟩
theorem vs_thing {n:Nat} (l:List (List UInt8)) (h:∀s ∈ l,Item 6 n s):VS (n+1) ([123]++joinC l++[125]):=fun z hst hn htx=>by
  have e1:(sNext z (123:UInt8).toNat).z={ z with st:=2,op:=z.op++[6] }:=by
    have hb:isBl 123=false:=rfl
    show (sNext z 123).z=_
    rcases hst with x | x<;>simp [sNext,x,hb,sBetw,sBegin,sLot,show ¬z.op.length=8 by omega]
  obtain ⟨z1,ez1⟩:∃z1:Sn,z1={ z with st:=2,op:=z.op++[6],at':=z.at'+1 }:=⟨_,rfl⟩
  have g1:Goes z [123] z1:=Goes.cons e1 (by simp) (by rw [ez1]; exact Goes.nil _)
  have s1:z1.st=2:=by rw [ez1]
  have o1:z1.op=z.op++[6]:=by rw [ez1]
  have t1:z1.tx=[]:=by rw [ez1]; exact htx
  by_cases hl:l=[]
  · obtain ⟨z3,g3,o3,s3,t3⟩:=go_shut o1 (Or.inr rfl) 125 rfl (Or.inr (Or.inr ⟨s1,rfl⟩)) t1
    exact ⟨z3,by rw [hl]; exact g1.app g3,⟨o3,Or.inl s3⟩,t3⟩
  obtain ⟨z3,g3,b3,t3⟩:=go_items (k:=6) l hl h z1 z.op o1 (Or.inr s1) (by rw [o1]; simp; omega) t1
  obtain ⟨z4,g4,o4,s4,t4⟩:=go_shut (b3.op.trans o1) (Or.inr rfl) 125 rfl (Or.inl b3.st) t3
  exact ⟨z4,(g1.app g3).app g4,⟨o4,Or.inl s4⟩,t4⟩
end Tr
namespace Tr
def mScal:List (List UInt8):=[[48],[45,55],[49,50],[34,97,34],[116,114,117,101],[110,117,108,108],[34,92,34,34]]
theorem begin_at {z:Sn} (hst:z.st=0∨z.st=1) {b:Nat} (hb:isBl b=false) (h93:b≠93):sNext z b=sBegin z b:=by
  rcases hst with x | x<;>simp [sNext,x,hb,sBetw,h93]
theorem vs_scal {s:List UInt8} (h:s ∈ mScal):VS 0 s:=fun z hst _ htx=>by
  simp only [mScal,List.mem_cons,List.not_mem_nil,or_false] at h
  have B:∀b:UInt8,isBl b.toNat=false→b.toNat≠93→(sNext z b.toNat).z=(sBegin z b.toNat).z:=fun b h1 h2=>by rw [begin_at hst h1 h2]
  rcases h with rfl | rfl | rfl | rfl | rfl | rfl | rfl
  · exact ⟨_,Goes.cons (B 48 rfl (by decide)) (by simp [sBegin,sBNum,sDig,isDig]) (Goes.nil _),⟨by simp [sBegin,sBNum,sDig,isDig],by simp [sBegin,sBNum,sDig,isDig]⟩,by simp [sBegin,sBNum,sDig,isDig,htx]⟩
  · have e1:(sNext z (45:UInt8).toNat).z={ z with st:=8,tk:=⟨3,3,z.at',0,0,[]⟩,sz:=0,sg:=-1 }:=(B 45 rfl (by decide)).trans (by simp [sBegin,sBNum])
    obtain ⟨z1,ez1⟩:∃z1:Sn,z1={ z with st:=8,tk:=⟨3,3,z.at',0,0,[]⟩,sz:=0,sg:=-1,at':=z.at'+1 }:=⟨_,rfl⟩
    have e2:(sNext z1 (55:UInt8).toNat).z=(sDig z1 55).z:=by rw [ez1]; simp [sNext,sNum,isDig]
    refine ⟨_,Goes.cons e1 (by simp) (by rw [← ez1]; exact Goes.cons e2 (by simp [sDig]) (Goes.nil _)),⟨by simp [sDig,ez1],by simp [sDig]⟩,by simp [sDig,ez1,htx]⟩
  · have e1:(sNext z (49:UInt8).toNat).z={ z with st:=9,tk:=⟨3,3,z.at',0,1,[]⟩,sz:=1,sg:=1 }:=(B 49 rfl (by decide)).trans (by simp [sBegin,sBNum,isDig,sDig])
    obtain ⟨z1,ez1⟩:∃z1:Sn,z1={ z with st:=9,tk:=⟨3,3,z.at',0,1,[]⟩,sz:=1,sg:=1,at':=z.at'+1 }:=⟨_,rfl⟩
    have e2:(sNext z1 (50:UInt8).toNat).z=(sDig z1 50).z:=by rw [ez1]; simp [sNext,sNum,isDig]
    refine ⟨_,Goes.cons e1 (by simp) (by rw [← ez1]; exact Goes.cons e2 (by simp [sDig]) (Goes.nil _)),⟨by simp [sDig,ez1],by simp [sDig]⟩,by simp [sDig,ez1,htx]⟩
  · have e1:(sNext z (34:UInt8).toNat).z=(sBStr z 3).z:=(B 34 rfl (by decide)).trans (by simp [sBegin])
    have g1:=go_one e1 (by simp [sBStr])
    obtain ⟨z2,g2,s2,o2,k2⟩:=go_bytes [97] { (sBStr z 3).z with at':=(sBStr z 3).z.at'+1 } rfl (by decide)
    have hk:z2.tk.k=3:=by rw [k2]; rfl
    have e3:(sNext z2 (34:UInt8).toNat).z=(sEndP { z2 with tk:={ z2.tk with t:=z2.tx },tx:=[] }).z:=by
      show (sNext z2 34).z=_
      simp [sNext,s2,sStr,sEndS,hk]
    exact ⟨_,(g1.app g2).app (go_one e3 (by simp [sEndP])),⟨by simp [sEndP,o2,sBStr],by simp [sEndP]⟩,by simp [sEndP]⟩
  · have e1:(sNext z (116:UInt8).toNat).z=(sBWord z 2 [114,117,101]).z:=(B 116 rfl (by decide)).trans (by simp [sBegin])
    refine ⟨_,Goes.cons e1 (by simp [sBWord]) (Goes.cons (z1:={ z with st:=10,tk:=⟨3,2,z.at',0,0,[]⟩,rs:=[117,101],at':=z.at'+1 }) (by simp [sBWord,sNext,sWord,bt]) (by simp) (Goes.cons (z1:={ z with st:=10,tk:=⟨3,2,z.at',0,0,[]⟩,rs:=[101],at':=z.at'+1+1 }) (by simp [sNext,sWord,bt]) (by simp) (Goes.cons (z1:={ z with st:=5,tk:=⟨3,2,z.at',z.at'+1+1+1+1,0,[]⟩,rs:=[],at':=z.at'+1+1+1 }) (by simp [sNext,sWord,bt,sEndP]) (by simp) (Goes.nil _)))),⟨rfl,Or.inl rfl⟩,htx⟩
  · have e1:(sNext z (110:UInt8).toNat).z=(sBWord z 0 [117,108,108]).z:=(B 110 rfl (by decide)).trans (by simp [sBegin])
    refine ⟨_,Goes.cons e1 (by simp [sBWord]) (Goes.cons (z1:={ z with st:=10,tk:=⟨3,0,z.at',0,0,[]⟩,rs:=[108,108],at':=z.at'+1 }) (by simp [sBWord,sNext,sWord,bt]) (by simp) (Goes.cons (z1:={ z with st:=10,tk:=⟨3,0,z.at',0,0,[]⟩,rs:=[108],at':=z.at'+1+1 }) (by simp [sNext,sWord,bt]) (by simp) (Goes.cons (z1:={ z with st:=5,tk:=⟨3,0,z.at',z.at'+1+1+1+1,0,[]⟩,rs:=[],at':=z.at'+1+1+1 }) (by simp [sNext,sWord,bt,sEndP]) (by simp) (Goes.nil _)))),⟨rfl,Or.inl rfl⟩,htx⟩
  have e1:(sNext z (34:UInt8).toNat).z=(sBStr z 3).z:=(B 34 rfl (by decide)).trans (by simp [sBegin])
  have e2:(sNext { (sBStr z 3).z with at':=(sBStr z 3).z.at'+1 } (92:UInt8).toNat).z={ (sBStr z 3).z with at':=(sBStr z 3).z.at'+1,st:=7 }:=by simp [sNext,sBStr,sStr,Sn.to]
  have e3:(sNext { (sBStr z 3).z with at':=(sBStr z 3).z.at'+1+1,st:=7 } (34:UInt8).toNat).z={ (sBStr z 3).z with at':=(sBStr z 3).z.at'+1+1,st:=6,tx:=[34] }:=by simp [sNext,sBStr,sEsc,sAdd,htx]
  have e4:(sNext { (sBStr z 3).z with at':=(sBStr z 3).z.at'+1+1+1,st:=6,tx:=[34] } (34:UInt8).toNat).z=(sEndP { (sBStr z 3).z with at':=(sBStr z 3).z.at'+1+1+1,st:=6,tk:={ (sBStr z 3).z.tk with t:=[34] },tx:=[] }).z:=by simp [sNext,sBStr,sStr,sEndS]
  exact ⟨_,Goes.cons e1 (by simp [sBStr]) (Goes.cons e2 (by simp) (Goes.cons e3 (by simp) (Goes.cons e4 (by simp [sEndP]) (Goes.nil _)))),⟨by simp [sEndP,sBStr],by simp [sEndP]⟩,by simp [sEndP]⟩
theorem vs_text {s:List UInt8} (h:VS 8 s):txErr s=0:=by
  obtain ⟨z',⟨g1,g2⟩,b,_⟩:=h sInit (Or.inl rfl) (by simp [sInit]) rfl
  unfold txErr
  rw [if_neg (by simpa using g1),g2,if_pos]
  have ho:z'.op=[]:=b.op
  rcases b.st with x | x<;>simp [sWhole,x,ho]
end Tr
namespace Tr
theorem joinC_snoc:∀(L:List (List UInt8)) (x:List UInt8),L≠[]→joinC (L++[x])=joinC L++[44]++x
  | [],_,h=>absurd rfl h
  | [y],x,_=>rfl
  | y::z::L,x,_=>by
    show y++[44]++joinC ((z::L)++[x])=y++[44]++joinC (z::L)++[44]++x
    rw [joinC_snoc (z::L) x (by simp)]
    simp
structure MdT (n a a':Nat) (s:List UInt8):Prop where
  vs:VS n s
  len:s.length+4≤8 * (a' - a)
  lo:a+2≤a'
  hi:a'≤62
def MkI (k n a0 a i:Nat) (s:List UInt8):Prop:=a0≤a∧s.length≤8 * (a - a0)∧∃L:List (List UInt8),L.length=i∧s=joinC L∧∀x ∈ L,Item k n x
theorem MkI.nil (k n a:Nat):MkI k n a a 0 []:=⟨Nat.le_refl _,by simp,[],rfl,rfl,fun _ h=>by cases h⟩
theorem MkI.one {k n a0 a a':Nat} {s x:List UInt8} (h:MkI k n a0 a 0 s) (hx:Item k n x) (hl:x.length+1≤8 * (a' - a)) (ha:a≤a'):MkI k n a0 a' 1 (s++x):=by
  obtain ⟨h1,h2,L,h3,rfl,h5⟩:=h
  obtain rfl:L=[]:=List.eq_nil_of_length_eq_zero h3
  refine ⟨by omega,?_,[x],rfl,rfl,fun y hy=>?_⟩
  · show x.length≤_; omega
  rw [List.mem_singleton.1 hy]; exact hx
theorem MkI.more {k n a0 a a' i:Nat} {s x:List UInt8} (h:MkI k n a0 a i s) (hi:0<i) (hx:Item k n x) (hl:x.length+1≤8 * (a' - a)) (ha:a≤a'):MkI k n a0 a' (i+1) (s++[44]++x):=by
  obtain ⟨h1,h2,L,h3,rfl,h5⟩:=h
  have hL:L≠[]:=fun e=>by rw [e] at h3; simp at h3; omega
  refine ⟨by omega,?_,L++[x],by simp [h3],(joinC_snoc L x hL).symm,fun y hy=>?_⟩
  · rw [List.length_append,List.length_append]; simp only [List.length_cons,List.length_nil]; omega
  rcases List.mem_append.1 hy with y1 | y1
  · exact h5 y y1
  rw [List.mem_singleton.1 y1]; exact hx
theorem mNames_len {nm:List UInt8} (h:nm ∈ mNames):nm.length≤6:=by
  simp only [mNames,List.mem_cons,List.not_mem_nil,or_false] at h
  rcases h with rfl | rfl | rfl | rfl<;>decide
theorem mScal_len {x:List UInt8} (h:x ∈ mScal):x.length≤4:=by
  simp only [mScal,List.mem_cons,List.not_mem_nil,or_false] at h
  rcases h with rfl | rfl | rfl | rfl | rfl | rfl | rfl<;>decide
theorem MdT.scal {n a:Nat} {x:List UInt8} (h:x ∈ mScal) (ha:a≤60):MdT n a (a+2) x:=⟨(vs_scal h).up (Nat.zero_le _),by have:=mScal_len h; omega,Nat.le_refl _,by omega⟩
theorem MdT.l1 {n a0 a a':Nat} {s x:List UInt8} (h:MdT n a a' x) (k:MkI 5 n a0 a 0 s):MkI 5 n a0 a' 1 (s++x):=k.one (item_list h.vs) (by have:=h.len; omega) (by have:=h.lo; omega)
theorem MdT.l2 {n a0 a a' i:Nat} {s x:List UInt8} (h:MdT n a a' x) (k:MkI 5 n a0 a i s) (hi:0<i):MkI 5 n a0 a' (i+1) (s++[44]++x):=k.more hi (item_list h.vs) (by have:=h.len; omega) (by have:=h.lo; omega)
theorem MdT.t1 {n a0 a a':Nat} {s nm x:List UInt8} (h:MdT n (a+1) a' x) (hn:nm ∈ mNames) (k:MkI 6 n a0 a 0 s):MkI 6 n a0 a' 1 (s++nm++x):=by
  rw [List.append_assoc]
  exact k.one (item_thing hn h.vs) (by have:=h.len; have:=h.lo; have:=mNames_len hn; rw [List.length_append]; omega) (by have:=h.lo; omega)
theorem MdT.t2 {n a0 a a' i:Nat} {s nm x:List UInt8} (h:MdT n (a+1) a' x) (hn:nm ∈ mNames) (k:MkI 6 n a0 a i s) (hi:0<i):MkI 6 n a0 a' (i+1) (s++[44]++nm++x):=by
  rw [List.append_assoc (s++[44])]
  exact k.more hi (item_thing hn h.vs) (by have:=h.len; have:=h.lo; have:=mNames_len hn; rw [List.length_append]; omega) (by have:=h.lo; omega)
theorem MkI.list {n a a' i:Nat} {s:List UInt8} (h:MkI 5 n (a+2) a' i s) (ha:a'≤62):MdT (n+1) a a' ([91,32]++s++[93]):=by
  obtain ⟨h1,h2,L,_,rfl,h5⟩:=h
  exact ⟨vs_list' L h5,by rw [List.length_append,List.length_append]; simp only [List.length_cons,List.length_nil]; omega,h1,ha⟩
theorem MkI.thing {n a a' i:Nat} {s:List UInt8} (h:MkI 6 n (a+2) a' i s) (ha:a'≤62):MdT (n+1) a a' ([123]++s++[125]):=by
  obtain ⟨h1,h2,L,_,rfl,h5⟩:=h
  exact ⟨vs_thing L h5,by rw [List.length_append,List.length_append]; simp only [List.length_cons,List.length_nil]; omega,h1,ha⟩
def QkI (i:Nat) (s:List UInt8):Prop:=∃ps:List (List UInt8),ps.length=i∧s=36::ps.flatten∧∀p ∈ ps,qGood p=true
theorem QkI.nil:QkI 0 [36]:=⟨[],rfl,rfl,fun _ h=>by cases h⟩
theorem QkI.add {i:Nat} {s:List UInt8} (h:QkI i s) {k c:Nat} (hk:k<20) (hc:c<15):QkI (i+1) (s++qPart k c):=by
  obtain ⟨ps,h1,rfl,h3⟩:=h
  refine ⟨ps++[qPart k c],by simp [h1],by simp,fun p hp=>?_⟩
  rcases List.mem_append.1 hp with y | y
  · exact h3 p y
  rw [List.mem_singleton.1 y]; exact part_good k hk c hc
theorem QkI.fin {i:Nat} {s:List UInt8} (h:QkI i s) (hi:i≤3):FinP s∧C s (s.length+1)≤10∧s.length≤120:=by
  obtain ⟨ps,rfl,rfl,h3⟩:=h
  exact query_fin ps h3 hi
theorem QkI.len {i:Nat} {s:List UInt8} (h:QkI i s) (hi:i≤3):s.length≤120:=(h.fin hi).2.2
end Tr
