import Derived.Test.YtcbadebjpogmlaaGreatDoorVsRefF
import Derived.Test.YtcbadebjpogmlaaGreatDoorVsMkA
import Derived.Test.YtcbadebjpogmlaaGreatDoorVsVa
set_option maxHeartbeats 1000000
namespace Tr
structure Tok where
 k:Nat
 of:Nat
 ai:Nat
 to:Nat
 n:Int
 t:List UInt8
structure Sn where
 st:Nat
 at':Nat
 op:List Nat
 tk:Tok
 tx:List UInt8
 rs:List UInt8
 sz:Nat
 sg:Int
structure Sx where
 z:Sn
 ts:List Tok
def Sn.to (z:Sn) (s:Nat):Sx:=⟨{ z with st:=s },[]⟩
def jg (op:List Nat):Bool:=op.getLast? == some 6
def gF (op:List Nat) (b:Nat):Bool:=cJ b || (!op.isEmpty && (if jg op then (b == 44 || b == 125) else (b == 44 || b == 93)))
def bS (z:Sn):Sx:=⟨{ z with st:=5,op:=z.op.dropLast },[⟨1,0,0,z.at'+1,0,[]⟩]⟩
def aF (z:Sn) (b:Nat):Sx :=
 if gF z.op b=false then z.to 12 else if cJ b=true then z.to 5 else if b≠44 then bS z else if jg z.op=true then z.to 3 else z.to 0
def dZ (z:Sn) (b:Nat):Sx:=⟨{ z with st:=6,tx:=z.tx++[UInt8.ofNat b] },[]⟩
def eJ (z:Sn):Sx:=⟨{ z with st:=5,tk:={ z.tk with to:=z.at'+1 } },[{ z.tk with to:=z.at'+1 }]⟩
def fP (z:Sn):Sx :=
 if z.tk.k=3 then eJ { z with tk:={ z.tk with t:=z.tx },tx:=[] } else ⟨{ z with st:=4,tk:={ z.tk with t:=z.tx },tx:=[] },[{ z.tk with t:=z.tx }]⟩
def gf (z:Sn) (b:Nat):Sx:=if b<32\/126<b then z.to 12 else if b=92 then z.to 7 else if b=34 then fP z else dZ z b
def lM (z:Sn) (b:Nat):Sx:=if b≠34/\b≠92 then z.to 12 else dZ z b
def dw (z:Sn) (b:Nat):Sx:=⟨{ z with st:=9,tk:={ z.tk with n:=z.tk.n * 10+((b - 48:Nat):Int) },sz:=if z.tk.n * 10+((b - 48:Nat):Int)=0 then 9 else z.sz+1 },[]⟩
def cz (z:Sn):Tok:={ z.tk with n:=z.tk.n * z.sg,to:=z.at' }
def gC (z:Sn) (b:Nat):Sx :=
 if z.st=8/\¬(49<=b/\b<=57) then z.to 12
 else if af b=true/\z.sz<9 then dw z b
 else if gF z.op b=false then z.to 12
 else ⟨(aF z b).z,cz z::(aF z b).ts⟩
def fF (z:Sn) (b:Nat):Sx :=
 if b≠bt z.rs 0 then z.to 12 else if z.rs.tail=[] then eJ { z with rs:=z.rs.tail } else ⟨{ z with st:=10,rs:=z.rs.tail },[]⟩
def iU (z:Sn) (kind behind:Nat):Sx:=if z.op.length=8 then z.to 11 else ⟨{ z with st:=behind,op:=z.op++[kind] },[⟨0,kind,z.at',0,0,[]⟩]⟩
def cy (z:Sn) (kind:Nat):Sx:=⟨{ z with st:=6,tk:=⟨kind,4,z.at',0,0,[]⟩ },[]⟩
def aY (z:Sn) (of:Nat) (rest:List UInt8):Sx:=⟨{ z with st:=10,tk:=⟨3,of,z.at',0,0,[]⟩,rs:=rest },[]⟩
def fQ (z:Sn) (b:Nat):Sx :=
 if b=45 then ⟨{ z with st:=8,tk:=⟨3,3,z.at',0,0,[]⟩,sz:=0,sg:=-1 },[]⟩
 else if af b=true then dw { z with tk:=⟨3,3,z.at',0,0,[]⟩,sz:=0,sg:=1 } b
 else ⟨{ z with st:=12,tk:=⟨3,3,z.at',0,0,[]⟩,sz:=0,sg:=1 },[]⟩
def bn (z:Sn) (b:Nat):Sx :=
 if b=91 then iU z 5 1 else if b=123 then iU z 6 2 else if b=34 then cy z 3
 else if b=116 then aY z 2 [114,117,101] else if b=102 then aY z 1 [97,108,115,101] else if b=110 then aY z 0 [117,108,108] else fQ z b
def bV (z:Sn) (b:Nat):Sx :=
 if z.st=5 then aF z b
 else if z.st=4/\b=58 then z.to 0
 else if (z.st=1/\b=93)\/(z.st=2/\b=125) then bS z
 else if z.st=1\/z.st=0 then bn z b
 else if z.st≠4/\b=34 then cy z 2
 else z.to 12
def aq (z:Sn) (b:Nat):Sx :=
 if z.st=6 then gf z b else if z.st=7 then lM z b else if z.st=8\/z.st=9 then gC z b else if z.st=10 then fF z b
 else if cJ b=true then z.to z.st else bV z b
def az:Sn:=⟨0,0,[],⟨0,0,0,0,0,[]⟩,[],[],0,0⟩
structure Sf where
 z:Sn
 e:Nat
 ts:List Tok
def aB:Sn->List UInt8->Sf
 | z,[]=>⟨z,0,[]⟩
 | z,b::l =>
  if (aq z b.toNat).z.st=12 then ⟨(aq z b.toNat).z,2,(aq z b.toNat).ts⟩
  else if (aq z b.toNat).z.st=11 then ⟨(aq z b.toNat).z,3,(aq z b.toNat).ts⟩
  else ⟨(aB { (aq z b.toNat).z with at':=(aq z b.toNat).z.at'+1 } l).z,(aB { (aq z b.toNat).z with at':=(aq z b.toNat).z.at'+1 } l).e,(aq z b.toNat).ts++(aB { (aq z b.toNat).z with at':=(aq z b.toNat).z.at'+1 } l).ts⟩
def cq (z:Sn):Bool:=(z.st == 5 || z.st == 9) && z.op.isEmpty
def jn (z:Sn):List Tok:=if z.st=9 then [cz z] else []
structure kI (z:Sn):Prop where
 op:z.op.length<=8/\∀k ∈ z.op,k=5\/k=6
 ne:z.st=1\/z.st=2\/z.st=3\/z.st=4->z.op≠[]
 tk:z.tk.k<=3/\z.tk.of<=6
 st:z.st=6\/z.st=7->z.tk.k=2\/z.tk.k=3
 w:z.st=10->z.rs≠[]/\z.rs.length<=4/\z.tk.k=3
 n:z.st=8\/z.st=9->z.sz<=9/\0<=z.tk.n/\z.tk.n<((10 ^ z.sz:Nat):Int)/\(z.sg=1\/z.sg=-1)/\z.tk.k=3
 m:z.st=8->z.sz=0/\z.tk.n=0
 x:z.st≠6/\z.st≠7->z.tx=[]
structure Sh where
 op:List Nat
 bd:Nat
def gJ (s:Sh) (t:Tok):Sh :=
 if t.k=0 then ⟨s.op++[t.of],t.ai+1⟩ else if t.k=1 then ⟨s.op.dropLast,s.bd⟩ else if t.k=2 then s else ⟨s.op,t.ai+1⟩
def bQ (s:Sh) (ts:List Tok):Sh:=ts.foldl gJ s
structure f_ (s:Sh) (t:Tok):Prop where
 k:t.k<=3
 of:t.of<=6
 ai:t.ai<4000000
 to:t.to<=4000000
 n:-1000000000<t.n/\t.n<1000000000
 k0:t.k=0->(t.of=5\/t.of=6)/\s.op.length<8/\t.n=0/\t.t=[]/\s.bd<=t.ai
 k1:t.k=1->s.op≠[]
 k3:t.k=3->t.of<=4/\s.op.length<=8/\(t.of≠4->t.t=[])/\(t.of≠3->t.n=0)/\s.bd<=t.ai
def o_:Sh->List Tok->Prop
 | _,[]=>True
 | s,t::r=>f_ s t/\o_ (gJ s t) r
theorem o_.app:∀{a b:List Tok} {s:Sh},o_ s a->o_ (bQ s a) b->o_ s (a++b)
 | [],_,_,_,h=>h
 | _::_,_,_,h,k=>⟨h.1,o_.app h.2 k⟩
theorem nJ (s:Sh) (a b:List Tok):bQ s (a++b)=bQ (bQ s a) b:=by simp [bQ]
structure Lk (z:Sn) (s:Sh):Prop where
 op:s.op=z.op
 bd:s.bd<=z.at'
 tk:6<=z.st/\z.st<=10->s.bd<=z.tk.ai/\z.tk.ai<z.at'/\z.tk.ai<4000000/\z.tk.to=0
 sS:z.st=6\/z.st=7->z.tk.n=0/\z.tk.of=4/\(z.tk.k=2->z.op≠[])
 sN:z.st=8\/z.st=9->z.tk.of=3/\z.tk.t=[]
 sW:z.st=10->z.tk.of<=2/\z.tk.t=[]/\z.tk.n=0
structure sw (z:Sn) (s:Sh) (x:Sx):Prop where
 st:x.z.st<=12
 at':x.z.at'=z.at'
 tx:x.z.tx.length<=z.tx.length+1
 no:11<=x.z.st->x.ts=[]
 ok:x.z.st<=10->kI x.z
 tok:o_ s x.ts
 lk:x.z.st<=10->Lk { x.z with at':=x.z.at'+1 } (bQ s x.ts)
theorem fe {z z':Sn} {s:Sh} {c:Nat} (h1:z'.at'=z.at') (h2:z'.tx=z.tx) (hc:11<=c/\c<=12):sw z s ⟨{ z' with st:=c },[]⟩ where
 st:=hc.2
 at':=h1
 tx:=by simp [h2]
 no:=λ_=>rfl
 ok:=λ h=>absurd h (by simp; omega)
 tok:=trivial
 lk:=λ h=>absurd h (by simp; omega)
theorem rB {z:Sn} {s:Sh} {c:Nat} (hok:kI z) (hlk:Lk z s) (gz:z.tx=[]) (hc:c=0\/c=5\/((c=1\/c=2\/c=3\/c=4)/\z.op≠[])):sw z s (z.to c) where
 st:=by simp [Sn.to]; omega
 at':=rfl
 tx:=by simp [Sn.to]
 no:=λ_=>rfl
 ok:=λ_=>by
  refine ⟨hok.op,?_,hok.tk,?_,?_,?_,?_,?_⟩<;>simp only [Sn.to]<;>intro h
  ·rcases hc with h' | h' | h'
   ·omega
   ·omega
   exact h'.2
  all_goals first | exact gz | (exfalso; omega)
 tok:=trivial
 lk:=λ_=>by
  refine ⟨hlk.op,?_,?_,?_,?_,?_⟩<;>simp only [Sn.to,bQ,List.foldl]
  ·have:=hlk.bd; omega
  all_goals intro h; exfalso; omega
theorem yx {z:Sn} {s:Sh} (hok:kI z) (hlk:Lk z s) (gz:z.tx=[]) (hne:z.op≠[]) (bN:z.at'<4000000):sw z s (bS z) where
 st:=by simp [bS]
 at':=rfl
 tx:=by simp [bS]
 no:=λ h=>by simp [bS] at h
 ok:=λ_=>by
  refine ⟨⟨?_,?_⟩,?_,hok.tk,?_,?_,?_,?_,?_⟩<;>simp only [bS]
  ·have:=hok.op.1; simp; omega
  ·exact λ k hk=>hok.op.2 k (List.dropLast_subset _ hk)
  all_goals intro h; first | exact gz | (exfalso; omega)
 tok:=by
  refine ⟨⟨by simp,by simp,by simp,by simp; omega,by simp,by simp,λ_=>by rw [hlk.op]; exact hne,by simp⟩,trivial⟩
 lk:=λ_=>by
  have e:bQ s (bS z).ts=⟨s.op.dropLast,s.bd⟩:=by simp [bS,bQ,gJ]
  rw [e]
  refine ⟨by simp [bS,hlk.op],?_,?_,?_,?_,?_⟩<;>simp only [bS]
  ·have:=hlk.bd; omega
  all_goals intro h; exfalso; omega
theorem Nh {op:List Nat} {b:Nat} (h:gF op b=true) (hb:cJ b=false):op≠[]:=by
 intro e; simp [gF,hb,e] at h
theorem rC {z:Sn} {s:Sh} (hok:kI z) (hlk:Lk z s) (gz:z.tx=[]) (bN:z.at'<4000000) (b:Nat):sw z s (aF z b):=by
 unfold aF
 by_cases h1:gF z.op b=false
 ·rw [if_pos h1]; exact fe rfl rfl (by omega)
 rw [if_neg h1]
 have h1:gF z.op b=true:=by simpa using h1
 by_cases h2:cJ b=true
 ·rw [if_pos h2]; exact rB hok hlk gz (by omega)
 rw [if_neg h2]
 have hne:=Nh h1 (by simpa using h2)
 by_cases h3:b≠44
 ·rw [if_pos h3]; exact yx hok hlk gz hne bN
 rw [if_neg h3]
 by_cases h4:jg z.op=true
 ·rw [if_pos h4]; exact rB hok hlk gz (Or.inr (Or.inr ⟨by omega,hne⟩))
 rw [if_neg h4]; exact rB hok hlk gz (by omega)
theorem Cy {z:Sn} {s:Sh} (hok:kI z) (hlk:Lk z s) (hst:z.st=6\/z.st=7) (b:Nat):sw z s (dZ z b) where
 st:=by simp [dZ]
 at':=rfl
 tx:=by simp [dZ]
 no:=λ h=>by simp [dZ] at h
 ok:=λ_=>by
  refine ⟨hok.op,?_,hok.tk,λ_=>hok.st hst,?_,?_,?_,?_⟩<;>simp only [dZ]<;>intro h<;>exfalso<;>omega
 tok:=trivial
 lk:=λ_=>by
  have h:=hlk.tk (by omega)
  refine ⟨hlk.op,?_,?_,λ_=>hlk.sS hst,?_,?_⟩<;>simp only [dZ,bQ,List.foldl]
  ·have:=hlk.bd; omega
  ·intro _; exact ⟨h.1,by omega,h.2.2⟩
  all_goals intro h; exfalso; omega
theorem SR {z:Sn} {s:Sh} (hok:kI z) (hlk:Lk z s) (hst:z.st=6):sw z s (z.to 7) where
 st:=by simp [Sn.to]
 at':=rfl
 tx:=by simp [Sn.to]
 no:=λ h=>by simp [Sn.to] at h
 ok:=λ_=>by
  refine ⟨hok.op,?_,hok.tk,λ_=>hok.st (Or.inl hst),?_,?_,?_,?_⟩<;>simp only [Sn.to]<;>intro h<;>exfalso<;>omega
 tok:=trivial
 lk:=λ_=>by
  have h:=hlk.tk (by omega)
  refine ⟨hlk.op,?_,?_,λ_=>hlk.sS (Or.inl hst),?_,?_⟩<;>simp only [Sn.to,bQ,List.foldl]
  ·have:=hlk.bd; omega
  ·intro _; exact ⟨h.1,by omega,h.2.2⟩
  all_goals intro h; exfalso; omega
theorem Ej {z z':Sn} {s:Sh} {t:Tok} {WJ:Nat} (h1:z'.st=5) (hop:z'.op=z.op) (abz:z.op.length<=8/\∀k ∈ z.op,k=5\/k=6) (abA:s.op=z.op) (htk:z'.tk.k<=3/\z'.tk.of<=6) (gz:z'.tx=[]) (ha:z'.at'=z.at') (ht:f_ s t) (hk:t.k=3) (hf:t.ai<WJ) (ha0:WJ<=z.at'+1):sw z s ⟨z',[t]⟩ where
 st:=by show z'.st<=12; omega
 at':=ha
 tx:=by simp [gz]
 no:=λ h=>by have:11<=z'.st:=h; omega
 ok:=λ_=>by
  refine ⟨by rw [hop]; exact abz,?_,htk,?_,?_,?_,?_,λ_=>gz⟩<;>intro h<;>exfalso<;>revert h<;>show _->False<;>rw [show (Sx.mk z' [t]).z=z' from rfl]<;>omega
 tok:=⟨ht,trivial⟩
 lk:=λ_=>by
  have e:bQ s [t]=⟨s.op,t.ai+1⟩:=by simp [bQ,gJ,hk]
  show Lk _ (bQ s [t])
  rw [e]
  refine ⟨by simp [hop,abA],by simp; omega,?_,?_,?_,?_⟩<;>intro h<;>exfalso<;>revert h<;>simp only [h1]<;>omega
theorem yy {z:Sn} {s:Sh} (hok:kI z) (hlk:Lk z s) (hst:6<=z.st/\z.st<=10) (h4:z.tk.of<=4) (ht:z.tk.of≠4->z.tk.t=[]) (hn:z.tk.n=0) (bN:z.at'<4000000) {z2:Sn} (e1:z2.op=z.op) (e2:z2.at'=z.at') (e3:z2.tk.k=3) (e4:z2.tk.of=z.tk.of) (e5:z2.tk.ai=z.tk.ai) (e6:z2.tk.n=z.tk.n) (e7:z.tk.of≠4->z2.tk.t=z.tk.t) (e8:z2.tx=[]):sw z s (eJ z2):=by
 have h:=hlk.tk hst
 refine Ej (WJ:=z.at') rfl e1 hok.op hlk.op ⟨by simp [e3],by simp [e4]; omega⟩ e8 e2 ?_ e3 (by show z2.tk.ai<z.at'; omega) (by omega)
 have h8:=hok.op.1
 refine ⟨by simp [e3],by simp [e4]; omega,?_,?_,?_,?_,?_,?_⟩<;>simp only [e2,e3,e4,e5,e6]
 ·omega
 ·omega
 ·rw [hn]; omega
 ·omega
 ·omega
 intro _
 exact ⟨h4,by rw [hlk.op]; exact h8,λ x=>(e7 x).trans (ht x),λ_=>hn,h.1⟩
theorem JG {z:Sn} {s:Sh} (hok:kI z) (hlk:Lk z s) (hst:z.st=6) (bN:z.at'<4000000):sw z s (fP z):=by
 have hS:=hlk.sS (Or.inl hst)
 have h:=hlk.tk (by omega)
 unfold fP
 by_cases hk:z.tk.k=3
 ·rw [if_pos hk]
  exact yy hok hlk (by omega) (by omega) (λ x=>absurd hS.2.1 x) hS.1 bN rfl rfl hk rfl rfl rfl (λ x=>absurd hS.2.1 x) rfl
 rw [if_neg hk]
 have hk2:z.tk.k=2:=by exact (hok.st (Or.inl hst)).resolve_right hk
 refine ⟨by simp,rfl,by simp,λ h=>by simp at h,λ_=>?_,?_,λ_=>?_⟩
 ·refine ⟨hok.op,?_,hok.tk,?_,?_,?_,?_,λ_=>rfl⟩<;>simp only<;>intro h
  ·exact hS.2.2 hk2
  all_goals exfalso; omega
 ·refine ⟨⟨hok.tk.1,hok.tk.2,?_,?_,?_,?_,?_,?_⟩,trivial⟩<;>simp only [hk2,hS.1]<;>omega
 have e:bQ s [{ z.tk with t:=z.tx }]=s:=by simp [bQ,gJ,hk2]
 simp only
 rw [e]
 refine ⟨hlk.op,by have:=hlk.bd; simp; omega,?_,?_,?_,?_⟩<;>simp only<;>intro h<;>exfalso<;>omega
theorem Ni {z:Sn} {s:Sh} (hok:kI z) (hlk:Lk z s) (hst:z.st=6) (bN:z.at'<4000000) (b:Nat):sw z s (gf z b):=by
 unfold gf
 split
 ·exact fe rfl rfl (by omega)
 split
 ·exact SR hok hlk hst
 split
 ·exact JG hok hlk hst bN
 exact Cy hok hlk (Or.inl hst) b
theorem Nj {z:Sn} {s:Sh} (hok:kI z) (hlk:Lk z s) (hst:z.st=7) (b:Nat):sw z s (lM z b):=by
 unfold lM
 split
 ·exact fe rfl rfl (by omega)
 exact Cy hok hlk (Or.inr hst) b
theorem Cz {z0 z:Sn} {s:Sh} {b:Nat} (h0:z.at'=z0.at') (abB:z.tx=z0.tx) (hop:z.op.length<=8/\∀k ∈ z.op,k=5\/k=6) (hk:z.tk.k=3/\z.tk.of=3/\z.tk.t=[]/\z.tk.to=0) (gz:z.tx=[]) (hn:z.sz<9/\0<=z.tk.n/\z.tk.n<((10 ^ z.sz:Nat):Int)/\(z.sg=1\/z.sg=-1)) (hb:af b=true)
 (hs:s.op=z.op) (hbd:s.bd<=z.tk.ai/\z.tk.ai<=z.at'/\z.tk.ai<4000000):sw z0 s (dw z b):=by
 have hd:b - 48<=9:=by simp [af] at hb; omega
 have hm:z.tk.n * 10+((b - 48:Nat):Int)<((10 ^ (z.sz+1):Nat):Int):=by
  rw [Nat.pow_succ]; push_cast; have:=hn.2.2.1; push_cast at this; omega
 refine ⟨by simp [dw],h0,by simp [dw,abB],λ h=>by simp [dw] at h,λ_=>?_,trivial,λ_=>?_⟩
 ·refine ⟨hop,?_,by simp only [dw]; omega,?_,?_,?_,?_,λ_=>gz⟩<;>simp only [dw]<;>intro h
  ·exfalso; omega
  ·exfalso; omega
  ·exfalso; omega
  ·by_cases h9:z.tk.n * 10+((b - 48:Nat):Int)=0
   ·rw [if_pos h9,h9]; exact ⟨by omega,by omega,by decide,hn.2.2.2,hk.1⟩
   rw [if_neg h9]; exact ⟨by omega,by omega,hm,hn.2.2.2,hk.1⟩
  exfalso; omega
 refine ⟨hs,by simp only [dw,bQ,List.foldl]; omega,λ_=>?_,?_,λ_=>⟨hk.2.1,hk.2.2.1⟩,?_⟩<;>simp only [dw,bQ,List.foldl]
 ·omega
 ·intro h; exfalso; omega
 intro h; exfalso; omega
theorem Ba {k:Nat} (h:k<=9):((10 ^ k:Nat):Int)<=1000000000:=by
 have:10 ^ k<=10 ^ 9:=Nat.pow_le_pow_right (by omega) h
 have e:(10:Nat) ^ 9=1000000000:=by decide
 omega
theorem zj {z:Sn} {s:Sh} (hok:kI z) (hlk:Lk z s) (hst:z.st=8\/z.st=9) (bN:z.at'<=4000000):f_ s (cz z):=by
 have hN:=hlk.sN hst
 have hn:=hok.n hst
 have ht:=hlk.tk (by omega)
 have h8:=hok.op.1
 have hp:=Ba hn.1
 have hab:-1000000000<z.tk.n * z.sg/\z.tk.n * z.sg<1000000000:=by
  rcases hn.2.2.2.1 with e | e<;>rw [e]<;>omega
 refine ⟨by simp [cz,hn.2.2.2.2],by simp [cz,hN.1],by simp only [cz]; omega,by simp only [cz]; omega,hab,?_,?_,?_⟩<;>simp only [cz,hn.2.2.2.2]
 ·omega
 ·omega
 intro _; exact ⟨by omega,by rw [hlk.op]; exact h8,λ_=>hN.2,λ x=>absurd hN.1 x,ht.1⟩
theorem Nk {z:Sn} {s:Sh} (hok:kI z) (hlk:Lk z s) (hst:z.st=8\/z.st=9) (bN:z.at'<4000000) (b:Nat):sw z s (gC z b):=by
 have gz:z.tx=[]:=hok.x (by omega)
 have hN:=hlk.sN hst
 have hn:=hok.n hst
 have ht:=hlk.tk (by omega)
 unfold gC
 by_cases h1:z.st=8/\¬(49<=b/\b<=57)
 ·rw [if_pos h1]; exact fe rfl rfl (by omega)
 rw [if_neg h1]
 by_cases h2:af b=true/\z.sz<9
 ·rw [if_pos h2]
  exact Cz rfl rfl hok.op ⟨hn.2.2.2.2,hN.1,hN.2,ht.2.2.2⟩ gz ⟨h2.2,hn.2.1,hn.2.2.1,hn.2.2.2.1⟩ h2.1 hlk.op ⟨ht.1,by omega,ht.2.2.1⟩
 rw [if_neg h2]
 by_cases h3:gF z.op b=false
 ·rw [if_pos h3]; exact fe rfl rfl (by omega)
 rw [if_neg h3]
 have hT:=zj hok hlk hst (by omega)
 have qm:(cz z).k=3:=hn.2.2.2.2
 have e:gJ s (cz z)=⟨s.op,z.tk.ai+1⟩:=by simp [gJ,qm]; rfl
 have L2:Lk { z with st:=5 } ⟨s.op,z.tk.ai+1⟩:=by
  refine ⟨hlk.op,by simp; omega,?_,?_,?_,?_⟩<;>simp only<;>intro h<;>exfalso<;>omega
 have O2:kI { z with st:=5 }:=by
  refine ⟨hok.op,?_,hok.tk,?_,?_,?_,?_,λ_=>gz⟩<;>simp only<;>intro h<;>exfalso<;>omega
 have B:=rC O2 L2 gz bN b
 have eB:aF { z with st:=5 } b=aF z b:=rfl
 rw [eB] at B
 have hno:(aF z b).z.st<=10:=by
  unfold aF
  rw [if_neg h3]
  split
  ·simp [Sn.to]
  split
  ·simp [bS]
  split<;>simp [Sn.to]
 refine ⟨B.st,B.at',B.tx,λ h=>?_,B.ok,⟨hT,by rw [e]; exact B.tok⟩,λ h=>?_⟩
 ·have:11<=(aF z b).z.st:=h
  omega
 have:=B.lk h
 have e2:bQ s (cz z::(aF z b).ts)=bQ ⟨s.op,z.tk.ai+1⟩ (aF z b).ts:=by simp only [bQ,List.foldl,e]
 show Lk _ (bQ s (cz z::(aF z b).ts))
 rw [e2]; exact this
theorem JH {z:Sn} {s:Sh} (hok:kI z) (hlk:Lk z s) (hst:z.st=10) (bN:z.at'<4000000) (b:Nat):sw z s (fF z b):=by
 have gz:z.tx=[]:=hok.x (by omega)
 have hW:=hlk.sW hst
 have hw:=hok.w hst
 have ht:=hlk.tk (by omega)
 unfold fF
 by_cases h1:b≠bt z.rs 0
 ·rw [if_pos h1]; exact fe rfl rfl (by omega)
 rw [if_neg h1]
 by_cases h2:z.rs.tail=[]
 ·rw [if_pos h2]
  exact yy hok hlk (by omega) (by omega) (λ_=>hW.2.1) hW.2.2 bN rfl rfl hw.2.2 rfl rfl rfl (λ_=>rfl) gz
 rw [if_neg h2]
 refine ⟨by simp,rfl,by simp,λ h=>by simp at h,λ_=>?_,trivial,λ_=>?_⟩
 ·refine ⟨hok.op,?_,hok.tk,?_,?_,?_,?_,λ_=>gz⟩<;>simp only<;>intro h
  ·exfalso; omega
  ·exfalso; omega
  ·exact ⟨h2,by have:=hw.2.1; simp; omega,hw.2.2⟩
  ·exfalso; omega
  exfalso; omega
 refine ⟨hlk.op,by have:=hlk.bd; simp [bQ]; omega,λ_=>?_,?_,?_,λ_=>hW⟩<;>simp only [bQ,List.foldl]
 ·exact ⟨ht.1,by omega,ht.2.2⟩
 ·intro h; exfalso; omega
 intro h; exfalso; omega
theorem CB {z:Sn} {s:Sh} (hok:kI z) (hlk:Lk z s) (gz:z.tx=[]) (bN:z.at'<4000000) (k c:Nat) (hk:k=5\/k=6) (hc:c=1\/c=2):sw z s (iU z k c):=by
 unfold iU
 by_cases h8:z.op.length=8
 ·rw [if_pos h8]; exact fe rfl rfl (by omega)
 rw [if_neg h8]
 have Ug:=hok.op.1
 have hbd:=hlk.bd
 refine ⟨by simp; omega,rfl,by simp,λ h=>by simp at h; omega,λ_=>?_,?_,λ_=>?_⟩
 ·refine ⟨⟨by simp; omega,?_⟩,?_,hok.tk,?_,?_,?_,?_,λ_=>gz⟩<;>simp only
  ·intro j hj
   rcases List.mem_append.1 hj with x | x
   ·exact hok.op.2 j x
   rw [List.mem_singleton.1 x]; exact hk
  ·intro _ e; simp at e
  all_goals intro h; exfalso; omega
 ·refine ⟨⟨by simp,by simp; omega,by simp; omega,by simp,by simp,λ_=>⟨hk,by rw [hlk.op]; omega,rfl,rfl,hbd⟩,by simp,by simp⟩,trivial⟩
 have e:bQ s [⟨0,k,z.at',0,0,[]⟩]=⟨s.op++[k],z.at'+1⟩:=by simp [bQ,gJ]
 show Lk _ (bQ s [⟨0,k,z.at',0,0,[]⟩])
 rw [e]
 refine ⟨by simp [hlk.op],by simp,?_,?_,?_,?_⟩<;>simp only<;>intro h<;>exfalso<;>omega
theorem yz {z:Sn} {s:Sh} (hok:kI z) (hlk:Lk z s) (gz:z.tx=[]) (bN:z.at'<4000000) (k:Nat) (hk:k=3\/k=2/\z.op≠[]):sw z s (cy z k):=by
 have hbd:=hlk.bd
 refine ⟨by simp [cy],rfl,by simp [cy],λ h=>by simp [cy] at h,λ_=>?_,trivial,λ_=>?_⟩
 ·refine ⟨hok.op,?_,by simp only [cy]; omega,λ_=>by simp only [cy]; omega,?_,?_,?_,λ_=>gz⟩<;>simp only [cy]<;>intro h<;>exfalso<;>omega
 refine ⟨hlk.op,by simp only [cy,bQ,List.foldl]; omega,λ_=>⟨hbd,Nat.lt_succ_self _,bN,rfl⟩,λ_=>⟨rfl,rfl,?_⟩,?_,?_⟩<;>simp only [cy]<;>intro h
 ·rcases hk with x | x
  ·omega
  exact x.2
 ·exfalso; omega
 exfalso; omega
theorem oq {z:Sn} {s:Sh} (hok:kI z) (hlk:Lk z s) (gz:z.tx=[]) (bN:z.at'<4000000) (k:Nat) (hk:k<=2) (l:List UInt8) (hl:l≠[]/\l.length<=4):sw z s (aY z k l):=by
 have hbd:=hlk.bd
 refine ⟨by simp [aY],rfl,by simp [aY],λ h=>by simp [aY] at h,λ_=>?_,trivial,λ_=>?_⟩
 ·refine ⟨hok.op,?_,by simp only [aY]; omega,?_,λ_=>⟨hl.1,hl.2,rfl⟩,?_,?_,λ_=>gz⟩<;>simp only [aY]<;>intro h<;>exfalso<;>omega
 refine ⟨hlk.op,by simp only [aY,bQ,List.foldl]; omega,λ_=>⟨hbd,Nat.lt_succ_self _,bN,rfl⟩,?_,?_,λ_=>⟨hk,rfl,rfl⟩⟩<;>simp only [aY]<;>intro h<;>exfalso<;>omega
theorem JJ {z:Sn} {s:Sh} (hok:kI z) (hlk:Lk z s) (gz:z.tx=[]) (bN:z.at'<4000000) (b:Nat):sw z s (fQ z b):=by
 have hbd:=hlk.bd
 unfold fQ
 by_cases h1:b=45
 ·rw [if_pos h1]
  refine ⟨by simp,rfl,by simp,λ h=>by simp at h,λ_=>?_,trivial,λ_=>?_⟩
  ·refine ⟨hok.op,?_,by simp only; omega,?_,?_,λ_=>⟨by simp,by simp,by simp,by simp,rfl⟩,λ_=>⟨rfl,rfl⟩,λ_=>gz⟩<;>simp only<;>intro h<;>exfalso<;>omega
  refine ⟨hlk.op,by simp only [bQ,List.foldl]; omega,λ_=>⟨hbd,Nat.lt_succ_self _,bN,rfl⟩,?_,λ_=>⟨rfl,rfl⟩,?_⟩<;>simp only<;>intro h<;>exfalso<;>omega
 rw [if_neg h1]
 by_cases h2:af b=true
 ·rw [if_pos h2]
  exact Cz rfl rfl hok.op ⟨rfl,rfl,rfl,rfl⟩ gz ⟨by simp,by simp,by simp,by simp⟩ h2 hlk.op ⟨hbd,Nat.le_refl _,bN⟩
 rw [if_neg h2]
 exact fe (z':={ z with tk:=⟨3,3,z.at',0,0,[]⟩,sz:=0,sg:=1 }) rfl rfl (by omega)
theorem El {z:Sn} {s:Sh} (hok:kI z) (hlk:Lk z s) (gz:z.tx=[]) (bN:z.at'<4000000) (b:Nat):sw z s (bn z b):=by
 unfold bn
 split
 ·exact CB hok hlk gz bN 5 1 (Or.inl rfl) (Or.inl rfl)
 split
 ·exact CB hok hlk gz bN 6 2 (Or.inr rfl) (Or.inr rfl)
 split
 ·exact yz hok hlk gz bN 3 (Or.inl rfl)
 split
 ·exact oq hok hlk gz bN 2 (by omega) _ ⟨by simp,by simp⟩
 split
 ·exact oq hok hlk gz bN 1 (by omega) _ ⟨by simp,by simp⟩
 split
 ·exact oq hok hlk gz bN 0 (by omega) _ ⟨by simp,by simp⟩
 exact JJ hok hlk gz bN b
theorem JK {z:Sn} {s:Sh} (hok:kI z) (hlk:Lk z s) (hst:z.st<=5) (bN:z.at'<4000000) (b:Nat):sw z s (bV z b):=by
 have gz:z.tx=[]:=hok.x (by omega)
 unfold bV
 split
 ·exact rC hok hlk gz bN b
 split
 ·exact rB hok hlk gz (by omega)
 split
 ·exact yx hok hlk gz (hok.ne (by omega)) bN
 split
 ·exact El hok hlk gz bN b
 split
 ·exact yz hok hlk gz bN 2 (Or.inr ⟨rfl,hok.ne (by omega)⟩)
 exact fe rfl rfl (by omega)
theorem kN {z:Sn} {s:Sh} (hok:kI z) (hlk:Lk z s) (hst:z.st<=10) (bN:z.at'<4000000) (b:Nat):sw z s (aq z b):=by
 unfold aq
 split
 ·exact Ni hok hlk (by omega) bN b
 split
 ·exact Nj hok hlk (by omega) b
 split
 ·exact Nk hok hlk (by omega) bN b
 split
 ·exact JH hok hlk (by omega) bN b
 split
 ·have gz:z.tx=[]:=hok.x (by omega)
  refine rB hok hlk gz ?_
  by_cases h:z.st=0\/z.st=5
  ·omega
  exact Or.inr (Or.inr ⟨by omega,hok.ne (by omega)⟩)
 exact JK hok hlk (by omega) bN b
structure Run (z:Sn) (s:Sh) (l:List UInt8) (f:Sf):Prop where
 tok:o_ s f.ts
 ok:f.e=0->kI f.z/\f.z.st<=10/\f.z.at'=z.at'+l.length/\Lk f.z (bQ s f.ts)
 e:f.e=0\/f.e=2\/f.e=3
 at':f.e≠0->z.at'<=f.z.at'/\f.z.at'<z.at'+l.length
 tx:f.z.tx.length<=z.tx.length+l.length
theorem lf:∀(l:List UInt8) {z:Sn} {s:Sh},kI z->Lk z s->z.st<=10->z.at'+l.length<=4000000->Run z s l (aB z l)
 | [],z,s,h1,h2,h3,_=>⟨trivial,λ_=>⟨h1,h3,rfl,h2⟩,Or.inl rfl,λ h=>absurd rfl h,by simp [aB]⟩
 | b::l,z,s,h1,h2,h3,h4=>by
  have hl:z.at'+(l.length+1)<=4000000:=by simpa using h4
  have S:=kN h1 h2 h3 (by omega) b.toNat
  rw [aB]
  by_cases c12:(aq z b.toNat).z.st=12
  ·rw [if_pos c12]
   refine ⟨S.tok,λ h=>by simp at h,Or.inr (Or.inl rfl),λ_=>?_,?_⟩
   ·simp only [S.at',List.length_cons]; omega
   have:=S.tx; simp only [List.length_cons]; omega
  rw [if_neg c12]
  by_cases c11:(aq z b.toNat).z.st=11
  ·rw [if_pos c11]
   refine ⟨S.tok,λ h=>by simp at h,Or.inr (Or.inr rfl),λ_=>?_,?_⟩
   ·simp only [S.at',List.length_cons]; omega
   have:=S.tx; simp only [List.length_cons]; omega
  rw [if_neg c11]
  have c10:(aq z b.toNat).z.st<=10:=by have:=S.st; omega
  have bN:=S.at'
  have o1:=S.ok c10
  have O:kI { (aq z b.toNat).z with at':=(aq z b.toNat).z.at'+1 }:=⟨o1.op,o1.ne,o1.tk,o1.st,o1.w,o1.n,o1.m,o1.x⟩
  have R:=lf l O (S.lk c10) c10 (by simp only [bN]; omega)
  refine ⟨S.tok.app R.tok,λ h=>?_,R.e,λ h=>?_,?_⟩
  ·obtain ⟨r1,r2,r3,r4⟩:=R.ok h
   refine ⟨r1,r2,r3.trans ?_,by rw [nJ]; exact r4⟩
   show (aq z b.toNat).z.at'+1+l.length=_
   rw [bN,List.length_cons]; omega
  ·have:=R.at' h
   simp only [bN,List.length_cons] at this ⊢; omega
  have:=R.tx
  have t2:=S.tx
  simp only [List.length_cons] at this ⊢; omega
theorem d_:kI az/\Lk az ⟨[],0⟩:=by
 refine ⟨⟨by simp [az],by simp [az],by simp [az],by simp [az],by simp [az],by simp [az],by simp [az],by simp [az]⟩,⟨rfl,Nat.zero_le _,?_,?_,?_,?_⟩⟩<;>simp [az]
theorem jE:∀(a b:List UInt8) (z:Sn),(aB z a).e=0->(aB z (a++b))=⟨(aB (aB z a).z b).z,(aB (aB z a).z b).e,(aB z a).ts++(aB (aB z a).z b).ts⟩
 | [],b,z,_=>rfl
 | x::a,b,z,h=>by
  rw [List.cons_append,aB,aB]
  rw [aB] at h
  split at h
  ·cases h
  rename_i c12
  split at h
  ·cases h
  rename_i c11
  rw [if_neg c12,if_neg c11,if_neg c12,if_neg c11]
  have:=jE a b _ h
  simp only [this,List.append_assoc]
theorem qc:∀(a b:List UInt8) (z:Sn),(aB z a).e≠0->aB z (a++b)=aB z a
 | [],_,_,h=>absurd rfl h
 | x::a,b,z,h=>by
  rw [List.cons_append,aB,aB]
  rw [aB] at h
  split
  ·rfl
  rename_i c12
  rw [if_neg c12] at h
  split
  ·rfl
  rename_i c11
  rw [if_neg c11] at h
  rw [qc a b _ h]
end Tr
namespace Go.Proofs.YtcbadebjpogmlaaGreatDoor
open Go.RowKit Tr
def cj (c:Nat):Nat:=if c=10 then 1 else if c<32\/126<c then 0 else if c=32 then 2 else if c=48 then 3 else if 49<=c/\c<=57 then 4 else if c=34 then 5 else if c=92 then 6 else 7
theorem kY {w:World} (c:Nat) (hc:c<256) :
 Calls Tryz.prog 173 #[.int .u8 (c:Int)] w λ r w'=>r=.returned (.int .i64 (cj c:Nat))/\w'=w:=by
 by_cases h0:c=10
 ·subst h0
  have e:cj 10=1:=by decide
  rw [e]
  clear e
  go_enter Tryz.func173,Tryz.ntmps173
  go_wp2
  go_ret
  exact ⟨rfl,rfl⟩
 by_cases h1:c<32
 ·have e:cj c=0:=by unfold cj; repeat (first | rw [if_pos (by omega)] | rw [if_neg (by omega)])
  rw [e]
  clear e
  have Xm:((c:Int) == 10)=false:=cU
  have l32:(c:Int)<32:=by omega
  go_enter Tryz.func173,Tryz.ntmps173
  go_wp2
  go_ret
  exact ⟨rfl,rfl⟩
 by_cases h2:126<c
 ·have e:cj c=0:=by unfold cj; repeat (first | rw [if_pos (by omega)] | rw [if_neg (by omega)])
  rw [e]
  clear e
  have Xm:((c:Int) == 10)=false:=cU
  have g32:¬(c:Int)<32:=by omega
  have ai2:(126:Int)<(c:Int):=by omega
  go_enter Tryz.func173,Tryz.ntmps173
  go_wp2
  go_ret
  exact ⟨rfl,rfl⟩
 by_cases h3:c=32
 ·subst h3
  have e:cj 32=2:=by decide
  rw [e]
  clear e
  go_enter Tryz.func173,Tryz.ntmps173
  go_wp2
  go_ret
  exact ⟨rfl,rfl⟩
 by_cases h4:c=48
 ·subst h4
  have e:cj 48=3:=by decide
  rw [e]
  clear e
  go_enter Tryz.func173,Tryz.ntmps173
  go_wp2
  go_ret
  exact ⟨rfl,rfl⟩
 by_cases h5:49<=c/\c<=57
 ·have e:cj c=4:=by unfold cj; repeat (first | rw [if_pos (by omega)] | rw [if_neg (by omega)])
  rw [e]
  clear e
  have Xm:((c:Int) == 10)=false:=cU
  have g32:¬(c:Int)<32:=by omega
  have Xn:¬(126:Int)<(c:Int):=by omega
  have n32:((c:Int) == 32)=false:=cU
  have n48:((c:Int) == 48)=false:=cU
  have g49:(49:Int)<=(c:Int):=by omega
  have l57:(c:Int)<=57:=by omega
  go_enter Tryz.func173,Tryz.ntmps173
  go_wp2
  go_ret
  exact ⟨rfl,rfl⟩
 by_cases h6:c=34
 ·subst h6
  have e:cj 34=5:=by decide
  rw [e]
  clear e
  go_enter Tryz.func173,Tryz.ntmps173
  go_wp2
  go_ret
  exact ⟨rfl,rfl⟩
 by_cases h7:c=92
 ·subst h7
  have e:cj 92=6:=by decide
  rw [e]
  clear e
  go_enter Tryz.func173,Tryz.ntmps173
  go_wp2
  go_ret
  exact ⟨rfl,rfl⟩
 have e:cj c=7:=by unfold cj; repeat (first | rw [if_pos (by omega)] | rw [if_neg (by omega)])
 rw [e]
 clear e
 rcases Nat.lt_or_ge c 49 with h9 | h9
 ·have Xm:((c:Int) == 10)=false:=cU
  have g32:¬(c:Int)<32:=by omega
  have Xn:¬(126:Int)<(c:Int):=by omega
  have n32:((c:Int) == 32)=false:=cU
  have n48:((c:Int) == 48)=false:=cU
  have g49:¬(49:Int)<=(c:Int):=by omega
  have ai4:decide ((49:Int)<=(c:Int))=false:=by simpa using g49
  have YW:((c:Int) == 34)=false:=cU
  have n92:((c:Int) == 92)=false:=cU
  go_enter Tryz.func173,Tryz.ntmps173
  go_wp2
  go_ret
  exact ⟨rfl,rfl⟩
 have Xm:((c:Int) == 10)=false:=cU
 have g32:¬(c:Int)<32:=by omega
 have Xn:¬(126:Int)<(c:Int):=by omega
 have n32:((c:Int) == 32)=false:=cU
 have n48:((c:Int) == 48)=false:=cU
 have g49:(49:Int)<=(c:Int):=by omega
 have l57:¬(c:Int)<=57:=by omega
 have YW:((c:Int) == 34)=false:=cU
 have n92:((c:Int) == 92)=false:=cU
 go_enter Tryz.func173,Tryz.ntmps173
 go_wp2
 go_ret
 exact ⟨rfl,rfl⟩
theorem fW (c:Nat):(c=10/\cj c=1)\/((c<32\/126<c)/\c≠10/\cj c=0)\/(c=32/\cj c=2)\/(c=48/\cj c=3)\/(49<=c/\c<=57/\cj c=4)\/(c=34/\cj c=5)\/(c=92/\cj c=6) \/
 (32<c/\c<=126/\(c<48\/57<c)/\c≠34/\c≠92/\cj c=7):=by
 unfold cj
 split
 ·omega
 split
 ·omega
 split
 ·omega
 split
 ·omega
 split
 ·omega
 split
 ·omega
 split<;>omega
theorem Nl (c:Nat):(((cj c:Nat):Int) == 2 || ((cj c:Nat):Int) == 1)=cJ c:=by
 have e:cJ c=decide (c=32\/c=10):=by rw [Bool.eq_iff_iff]; simp [cJ]
 rw [e]
 rcases fW c with ⟨h,k⟩ | ⟨h,h',k⟩ | ⟨h,k⟩ | ⟨h,k⟩ | ⟨h,h',k⟩ | ⟨h,k⟩ | ⟨h,k⟩ | ⟨h,h',h2,h3,h4,k⟩<;>rw [k]
 ·rw [decide_eq_true (Or.inr h)]; rfl
 ·rw [decide_eq_false (by omega)]; rfl
 ·rw [decide_eq_true (Or.inl h)]; rfl
 all_goals rw [decide_eq_false (by omega)]; rfl
theorem Nn (c:Nat):(((cj c:Nat):Int) == 3 || ((cj c:Nat):Int) == 4)=af c:=by
 have e:af c=decide (48<=c/\c<=57):=by simp [af]
 rw [e]
 rcases fW c with ⟨h,k⟩ | ⟨h,h',k⟩ | ⟨h,k⟩ | ⟨h,k⟩ | ⟨h,h',k⟩ | ⟨h,k⟩ | ⟨h,k⟩ | ⟨h,h',h2,h3,h4,k⟩<;>rw [k]
 ·rw [decide_eq_false (by omega)]; rfl
 ·rw [decide_eq_false (by omega)]; rfl
 ·rw [decide_eq_false (by omega)]; rfl
 ·rw [decide_eq_true (by omega)]; rfl
 ·rw [decide_eq_true (by omega)]; rfl
 all_goals rw [decide_eq_false (by omega)]; rfl
theorem ot {w:World} (c:Nat) (hc:c<256):Calls Tryz.prog 138 #[.int .u8 (c:Int)] w λ r w'=>r=.returned (.bool (cJ c))/\w'=w:=by
 rw [<-Nl]
 have K:=aa (λ w=>kY (w:=w) c hc)
 generalize cj c=k at *
 by_cases h:k=2
 ·subst h
  go_enter Tryz.func138,Tryz.ntmps138
  go_wp2_with fail
  refine (K.out _).mono ?_
  rintro r w' ⟨rfl,rfl⟩
  go_wp2
  go_ret
  exact ⟨rfl,rfl⟩
 have e:((k:Int) == 2)=false:=cU
 rw [e]
 go_enter Tryz.func138,Tryz.ntmps138
 go_wp2_with fail
 refine (K.out _).mono ?_
 rintro r w' ⟨rfl,rfl⟩
 go_wp2_with fail
 refine (K.out _).mono ?_
 rintro r w' ⟨rfl,rfl⟩
 go_wp2
 go_ret
 exact ⟨rfl,rfl⟩
theorem uc {w:World} (c:Nat) (hc:c<256):Calls Tryz.prog 176 #[.int .u8 (c:Int)] w λ r w'=>r=.returned (.bool (af c))/\w'=w:=by
 rw [<-Nn]
 have K:=aa (λ w=>kY (w:=w) c hc)
 generalize cj c=k at *
 by_cases h:k=3
 ·subst h
  go_enter Tryz.func176,Tryz.ntmps176
  go_wp2_with fail
  refine (K.out _).mono ?_
  rintro r w' ⟨rfl,rfl⟩
  go_wp2
  go_ret
  exact ⟨rfl,rfl⟩
 have e:((k:Int) == 3)=false:=cU
 rw [e]
 go_enter Tryz.func176,Tryz.ntmps176
 go_wp2_with fail
 refine (K.out _).mono ?_
 rintro r w' ⟨rfl,rfl⟩
 go_wp2_with fail
 refine (K.out _).mono ?_
 rintro r w' ⟨rfl,rfl⟩
 go_wp2
 go_ret
 exact ⟨rfl,rfl⟩
def fK (k:Nat) (l:List UInt8):List UInt8:=if k=3 then l.take 9 else l
def gD (t:Tok):Value:=.agg #[.int .i64 (t.k:Nat),.int .i64 (t.of:Nat),.int .i64 (t.ai:Nat),.int .i64 (t.to:Nat),.int .i64 t.n,.string (bZ (fK t.k t.t))]
def vL (s0:Nat) (z:Sn) (ov bp bv tell:Value):Array Value :=
 #[.int .i64 (s0:Nat),.int .i64 (z.at':Nat),ov,.int .i64 (z.tk.k:Nat),.int .i64 (z.tk.of:Nat),.int .i64 (z.tk.ai:Nat),.int .i64 (z.tk.to:Nat),.int .i64 z.tk.n,.string (bZ (fK z.tk.k z.tk.t)),bp,bv,.string (bZ z.rs),.int .i64 (z.sz:Nat),.int .i64 z.sg,tell]
def fh (l:List Nat):List Value:=l.map (λ k=>.int .i64 (k:Nat))
structure RS (w:World) (r s0:Nat) (z:Sn) (tell ov bp bv:Value):Prop where
 b:ay w r (vL s0 z ov bp bv tell) 115
 o:w.ownsRow (r+1) 106 1 ov z.op.length (fh z.op)
 t:w.ownsRow (r+1) 5 1 bv (fK z.tk.k z.tx).length (Lib.byteCells (fK z.tk.k z.tx))
 p:bp=.pointer none\/bp=.pointer (some ⟨r,9,none⟩)
 e:fK z.tk.k z.tx=[]->bv=.slice none 0 0
structure fG (f:Value) (S:World->(Nat->Prop)->List Tok->Prop) (V:List Tok->Tok->Prop):Prop where
 lt:∀{w D ts k},S w D ts->D k->k<w.heap.size
 keep:∀{w w' D ts},S w D ts->Sm D w w'->w.heap.size<=w'.heap.size->S w' D ts
 call:∃N first cap,f=.func (.func N) first cap/\(∀args w,(callFunc N args).run Tryz.prog w=.ok (.enter N args) w) /\
  ∀w D ts t,S w D ts->V ts t->Calls Tryz.prog N (first.push (gD t)++cap) w λ r w'=>r=.returned (.tuple #[])/\∃D',S w' D' (ts++[t])/\(∀k,D' k->D k\/w.heap.size<=k)/\Fr D w w'
def VL (V:List Tok->Tok->Prop):List Tok->List Tok->Prop
 | _,[]=>True
 | ts,t::r=>V ts t/\VL V (ts++[t]) r
structure RM (S:World->(Nat->Prop)->List Tok->Prop) (tell:Value) (r s0:Nat) (z:Sn) (ts:List Tok) (E:Nat->Prop) (w:World):Prop where
 ex:∃ov bp bv D,RS w r s0 z tell ov bp bv/\S w D ts/\(∀k,D k->k≠r/\ov.ownBlock≠some k/\bv.ownBlock≠some k)/\(∀k,E k↔k=r\/ov.ownBlock=some k\/bv.ownBlock=some k\/D k)
structure Ev (E:Nat->Prop) (w:World) (E':Nat->Prop) (w':World):Prop where
 s:∀k,E' k->E k\/w.heap.size<=k
 f:Fr E w w'
theorem Ev.refl (E:Nat->Prop) (w:World):Ev E w E w:=⟨λ_=>Or.inl,Fr.refl _ _⟩
theorem Ev.trans {E E' E'':Nat->Prop} {a b c:World} (h:Ev E a E' b) (k:Ev E' b E'' c):Ev E a E'' c:=by
 refine ⟨λ i hi=>?_,⟨k.f.os.trans h.f.os,k.f.tape.trans h.f.tape,k.f.output.trans h.f.output,Nat.le_trans h.f.size k.f.size,λ i hi hn=>?_⟩⟩
 ·rcases k.s i hi with x | x
  ·exact h.s i x
  exact Or.inr (Nat.le_trans h.f.size x)
 refine (k.f.block i (Nat.lt_of_lt_of_le hi h.f.size) (λ x=>?_)).trans (h.f.block i hi hn)
 rcases h.s i x with y | y
 ·exact hn y
 omega
def RP (S:World->(Nat->Prop)->List Tok->Prop) (tell:Value) (r s0:Nat) (x:Sx) (ts:List Tok) (E:Nat->Prop) (w:World) (res:Ending) (w':World):Prop :=
 res=.returned (.int .i64 (x.z.st:Nat))/\∃E',RM S tell r s0 x.z (ts++x.ts) E' w'/\Ev E w E' w'
theorem RM.drewN {S:World->(Nat->Prop)->List Tok->Prop} {f:Value} {V:List Tok->Tok->Prop} (hS:fG f S V) {tell:Value} {r s0:Nat} {z:Sn} {ts:List Tok} {E:Nat->Prop} {w:World} (h:RM S tell r s0 z ts E w) (n:Nat):RM S tell r s0 z ts E (w.drewN n):=by
 obtain ⟨ov,bp,bv,D,h1,h2,h3⟩:=h.ex
 exact ⟨ov,bp,bv,D,⟨h1.b,bJ h1.o (λ_ _=>rfl),bJ h1.t (λ_ _=>rfl),h1.p,h1.e⟩,hS.keep h2 (λ_ _=>rfl) (Nat.le_refl _),h3⟩
theorem Ev.drewN {E E':Nat->Prop} {a w:World} (h:Ev E a E' w) (n:Nat):Ev E a E' (w.drewN n):=⟨h.s,h.f.drewN n⟩
theorem RM.set {S:World->(Nat->Prop)->List Tok->Prop} {f:Value} {V:List Tok->Tok->Prop} (hS:fG f S V) {tell:Value} {r s0 s1:Nat} {z z':Sn} {ts:List Tok} {E:Nat->Prop} {w w':World} {ov bp bv:Value} {D:Nat->Prop} (h1:RS w r s0 z tell ov bp bv) (h2:S w D ts) (h3:∀k,D k->k≠r/\ov.ownBlock≠some k/\bv.ownBlock≠some k) (h4:∀k,E k↔k=r\/ov.ownBlock=some k\/bv.ownBlock=some k\/D k)
 (hb:ay w' r (vL s1 z' ov bp bv tell) 115) (f0:Fr (λ k=>k=r) w w') (hop:z'.op=z.op) (gz:fK z'.tk.k z'.tx=fK z.tk.k z.tx):RM S tell r s1 z' ts E w'/\Ev E w E w':=by
 refine ⟨⟨ov,bp,bv,D,⟨hb,?_,?_,h1.p,?_⟩,hS.keep h2 (λ k hk=>f0.block k (hS.lt h2 hk) (h3 k hk).1) f0.size,h3,h4⟩,⟨λ_=>Or.inl,f0.mono (λ k _ e=>(h4 k).2 (Or.inl e))⟩⟩
 ·rw [hop]; exact aW h1.o f0 (λ k hk e=>by omega)
 ·rw [gz]; exact aW h1.t f0 (λ k hk e=>by omega)
 rw [gz]; exact h1.e
theorem RM.tell {S:World->(Nat->Prop)->List Tok->Prop} {f:Value} {V:List Tok->Tok->Prop} (hS:fG f S V):∃N first cap,f=.func (.func N) first cap/\(∀args w,(callFunc N args).run Tryz.prog w=.ok (.enter N args) w) /\
 ∀{r s0:Nat} {z:Sn} {ts:List Tok} {E:Nat->Prop} {w:World} (t:Tok),RM S f r s0 z ts E w->V ts t->Calls Tryz.prog N (first.push (gD t)++cap) w λ res w'=>res=.returned (.tuple #[])/\∃E',RM S f r s0 z (ts++[t]) E' w'/\Ev E w E' w':=by
 obtain ⟨N,first,cap,hf,hE,hc⟩:=hS.call
 refine ⟨N,first,cap,hf,hE,λ{r s0 z ts E w} t h hV=>?_⟩
 obtain ⟨ov,bp,bv,D,h1,h2,h3,h4⟩:=h.ex
 refine (hc w D ts t h2 hV).mono ?_
 rintro res w' ⟨rfl,D',g1,g2,g3⟩
 have kb:∀k,k<w.heap.size->¬D k->w'.heap[k]?=w.heap[k]?:=λ k hk hn=>g3.block k hk hn
 have nr:¬D r:=λ x=>(h3 r x).1 rfl
 refine ⟨rfl,λ k=>k=r\/ov.ownBlock=some k\/bv.ownBlock=some k\/D' k,⟨ov,bp,bv,D',⟨(kb r h1.b.lt nr).trans h1.b,bJ h1.o (λ k hk=>kb k (h1.o.lt k hk).2 (λ x=>(h3 k x).2.1 hk)),bJ h1.t (λ k hk=>kb k (h1.t.lt k hk).2 (λ x=>(h3 k x).2.2 hk)),h1.p,h1.e⟩,g1,λ k hk=>?_,λ_=>Iff.rfl⟩,⟨λ k hk=>?_,g3.mono (λ k _ x=>(h4 k).2 (Or.inr (Or.inr (Or.inr x))))⟩⟩
 ·rcases g2 k hk with x | x
  ·exact h3 k x
  refine ⟨λ e=>by have:=h1.b.lt; omega,λ e=>by have:=(h1.o.lt k e).2; omega,λ e=>by have:=(h1.t.lt k e).2; omega⟩
 rcases hk with x | x | x | x
 ·exact Or.inl ((h4 k).2 (Or.inl x))
 ·exact Or.inl ((h4 k).2 (Or.inr (Or.inl x)))
 ·exact Or.inl ((h4 k).2 (Or.inr (Or.inr (Or.inl x))))
 rcases g2 k x with y | y
 ·exact Or.inl ((h4 k).2 (Or.inr (Or.inr (Or.inr y))))
 exact Or.inr y
end Go.Proofs.YtcbadebjpogmlaaGreatDoor
