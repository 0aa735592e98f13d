import Derived.Test.YtcbadebjpogmlaaGreatDoorVsPlain
namespace Tr
theorem Live.nV {s:List UInt8} {q c X n:Nat} {o:List UInt8} {t:St} (h:Live s q c X o n t):Live s t.p c X o n t :=
 ⟨h.e0,h.nn,h.le,Nat.le_refl _,by rw [sub_self,List.append_nil],h.ct,h.br,h.lv,h.ac⟩
theorem Live.nX {s:List UInt8} {q c X n Y n' c':Nat} {o o':List UInt8} {t t':St} (h:Live s q c X o n t) (k:Live s t.p c' Y o' n' t'):Live s q c' Y o' n' t' :=
 ⟨k.e0,k.nn,k.le,Nat.le_trans h.ge k.ge,by rw [k.tx,h.tx,List.append_assoc,<-lE h.ge k.ge],k.ct,k.br,k.lv,k.ac⟩
theorem Live.lZ {s:List UInt8} {q c X n:Nat} {o:List UInt8} {t:St} (h:Live s q c X o n t) (m:Nat):Live s q c X o m { t with n:=m } :=
 ⟨h.e0,rfl,h.le,h.ge,h.tx,h.ct,h.br,h.lv,h.ac⟩
theorem xQ.lZ {s:List UInt8} {n:Nat} {t:St} (h:xQ s n t) (m:Nat):xQ s m { t with n:=m }:=⟨h.ne,rfl,h.er⟩
theorem Ok.lZ {s:List UInt8} {q c X n:Nat} {o:List UInt8} {t:St} (h:Ok s q c X o n t) (m:Nat):Ok s q c X o m { t with n:=m }:=h.imp (λ x=>x.lZ m) (λ x=>x.lZ m)
theorem Ok.nn {s:List UInt8} {q c X n:Nat} {o:List UInt8} {t:St} (h:Ok s q c X o n t):t.n=n:=by rcases h with h | h; exact h.nn; exact h.nn
theorem z_ (o:List UInt8):bD (o++[33])=bD o:=by simp [bD]
theorem j7 (o:List UInt8):bD (o++[40])=o++[40]:=by
 unfold bD; rw [List.reverse_append,List.reverse_singleton,List.singleton_append,List.dropWhile_cons]; simp
theorem tn:bD []=[]:=rfl
theorem Aa (o:List UInt8):ij (o++[40])=o:=by simp [ij]
theorem Ab {o:List UInt8} {b:Nat} (hb:b≠256):nx (cS 18 o) b=norm (aU (cS 18 o) b):=by
 rw [cu (by omega) (by omega) hb]; simp [aD,cS]
def gPE (g:G) (b:Nat):G :=
 if b=38 then { g with st:=19 } else if b=124 then { g with st:=20 }
 else if b=41/\g.op≠[] then { g with st:=18,op:=ij g.op }
 else if g.op=[] then bF g b else { g with st:=0 }
theorem II (g:G) (b:Nat):aU g b=gPE ⟨g.st,g.bh,g.sz,g.rs,bD g.op⟩ b:=rfl
theorem RI {o o':List UInt8} (h:bD o=bD o') (b:Nat):nx (cS 18 o) b=nx (cS 18 o') b:=by
 by_cases hb:b=256
 ·subst hb; rw [iM _ (by simp [cS]),iM _ (by simp [cS])]; rfl
 rw [Ab hb,Ab hb]
 rw [II,II]
 simp only [cS,h]
theorem tj {s:List UInt8} {q c n:Nat} {o:List UInt8} {t:St} (h:Ok s q c 18 (o++[33]) n t):Ok s q c 18 o n t :=
 h.imp (λ x=>x.as (RI (z_ o) _)) id
theorem nY {s:List UInt8} {q c n:Nat} {o:List UInt8} {t:St} (x:UInt8) (hx:x=33\/x=40) (h:Ok s q c 10 o n t) (hb:aj s t x.toNat=true) (ho:o.length≠6):Live s q c 10 (o++[x]) n (aG t):=by
 obtain ⟨he,hb⟩:=aE hb
 refine (h.live he).go x.toNat 10 (o++[x]) hb (UInt8.toNat_lt x) ?_ rfl (by omega) (by omega)
 rcases hx with rfl | rfl
 ·rw [cu (by omega) (by omega) (by decide)]
  simp [aD,fT,cS,ho,norm]
 rw [cu (by omega) (by omega) (by decide)]
 simp [aD,fT,cS,ho,norm]
theorem BK {s:List UInt8} {q c n:Nat} {o:List UInt8} {t:St} (x:Nat) (hx:x=33\/x=40) (h:Ok s q c 10 o n t) (hb:aj s t x=true) (ho:o.length=6):Ok s q c 18 o n (wrong t 3):=by
 obtain ⟨he,hb⟩:=aE hb
 rw [dI he]
 refine Or.inr ((h.live he).bad 1 (by omega) ?_)
 rw [hb]
 rcases hx with rfl | rfl
 ·rw [cu (by omega) (by omega) (by decide)]
  simp [aD,fT,cS,ho,norm]
 rw [cu (by omega) (by omega) (by decide)]
 simp [aD,fT,cS,ho,norm]
theorem xu {s:List UInt8} {q c n:Nat} {o:List UInt8} {t:St} (h:Ok s q c 18 (o++[40]) n t) (hno:t.e=0->bt s t.p≠38/\bt s t.p≠124):Ok s q c 18 o n (aN s t [41]):=by
 refine jM h (by omega) ?_ rfl (by omega) (by omega) ?_
 ·rw [Ab (by omega)]
  simp [aU,cS,j7,Aa,norm]
 intro he hne
 obtain ⟨h1,h2⟩:=hno he
 by_cases aC:bt s t.p=256
 ·rw [aC]; exact gN (by omega) (by omega) (by omega)
 rw [Ab aC]
 simp [aU,cS,j7,h1,h2,hne,norm]
theorem Hx {s:List UInt8} {q c n:Nat} {o:List UInt8} {t:St} (ho:bD o=o) (h:Ok s q c 18 o n t) (hb:aj s t 38=true):Ok s q c 10 o n (aN s t [38,38])/\((aN s t [38,38]).e=0->t.p+2<=(aN s t [38,38]).p):=by
 have e:aN s t [38,38]=aH s (aG t) 38:=by
  simp only [aN,List.foldl_cons,List.foldl_nil]
  have:aH s t 38=aG t:=by unfold aH; rw [if_pos hb]
  rw [this]
 obtain ⟨he,hb⟩:=aE hb
 rw [e]
 have h1:Live s q c 19 o n (aG t):=(h.live he).go 38 19 o hb (by omega) (by
  rw [Ab (by omega)]; simp [aU,cS,ho,norm]) rfl (by omega) (by omega)
 refine ⟨jM (Or.inl h1) (by omega) rfl rfl (by omega) (by omega) ?_,?_⟩
 ·intro _ hne
  by_cases aC:bt s (aG t).p=256
  ·rw [aC]; exact gN (by omega) (by omega) (by omega)
  rw [cu (by omega) (by omega) aC]
  simp [aD,cT,cS,hne,norm]
 intro h2
 unfold aH at h2 ⊢
 split at h2
 ·rename_i h3; rw [if_pos h3]; simp [aG]
 rw [dI h1.e0] at h2; simp at h2
theorem Pa {s:List UInt8} {q c n:Nat} {o:List UInt8} {t:St} (ho:bD o=o) (h:Ok s q c 18 o n t) (hb:aj s t 124=true):Ok s q c 10 o n (aN s t [124,124])/\((aN s t [124,124]).e=0->t.p+2<=(aN s t [124,124]).p):=by
 have e:aN s t [124,124]=aH s (aG t) 124:=by
  simp only [aN,List.foldl_cons,List.foldl_nil]
  have:aH s t 124=aG t:=by unfold aH; rw [if_pos hb]
  rw [this]
 obtain ⟨he,hb⟩:=aE hb
 rw [e]
 have h1:Live s q c 20 o n (aG t):=(h.live he).go 124 20 o hb (by omega) (by
  rw [Ab (by omega)]; simp [aU,cS,ho,norm]) rfl (by omega) (by omega)
 refine ⟨jM (Or.inl h1) (by omega) rfl rfl (by omega) (by omega) ?_,?_⟩
 ·intro _ hne
  by_cases aC:bt s (aG t).p=256
  ·rw [aC]; exact gN (by omega) (by omega) (by omega)
  rw [cu (by omega) (by omega) aC]
  simp [aD,cT,cS,hne,norm]
 intro h2
 unfold aH at h2 ⊢
 split at h2
 ·rename_i h3; rw [if_pos h3]; simp [aG]
 rw [dI h1.e0] at h2; simp at h2
theorem xx {s:List UInt8} {q c n:Nat} {t:St} (h:Ok s q c 18 [] n t) (hno:t.e=0->bt s t.p≠38/\bt s t.p≠124):Ok s q c 9 [] n t:=by
 rcases h with h | h
 ·obtain ⟨h1,h2⟩:=hno h.e0
  refine Or.inl (h.as ?_)
  by_cases aC:bt s t.p=256
  ·rw [aC,iM _ (by simp [cS]),iM _ (by simp [cS])]; rfl
  rw [Ab aC,cu (by omega) (by omega) aC]
  have e:norm (aD (cS 9 []) (bt s t.p))=norm (bF (cS 9 []) (bt s t.p)):=by simp [aD,cS]
  rw [e]
  simp only [aU,cS,tn,h1,h2,if_false,ne_eq,not_true_eq_false,and_false,if_true]
  simp only [bF]
  repeat' split
  all_goals first | rfl | (exfalso; omega)
 exact Or.inr h
def base (s:List UInt8) (t:St):Nat:=if t.e=0 then t.p else s.length+1
theorem Ok.mine {s:List UInt8} {q c X n:Nat} {o:List UInt8} {t:St} (h:Ok s q c X o n t):Ok s (base s t) c X o n t:=by
 rcases h with h | h
 ·unfold base; rw [if_pos h.e0]; exact Or.inl h.nV
 exact Or.inr h
theorem Ok.Ac {s:List UInt8} {q c X n Y n' c':Nat} {o o':List UInt8} {t t':St} (h:Ok s q c X o n t) (k:Ok s (base s t) c' Y o' n' t'):Ok s q c' Y o' n' t'/\(t'.e=0->t.e=0/\t.p<=t'.p):=by
 rcases k with k | k
 ·rcases h with h | h
  ·unfold base at k; rw [if_pos h.e0] at k
   exact ⟨Or.inl (h.nX k),λ_=>⟨h.e0,k.ge⟩⟩
  have h1:=k.ge
  have h2:=k.le
  unfold base at h1; rw [if_neg h.ne] at h1
  omega
 exact ⟨Or.inr k,λ h=>absurd h k.ne⟩
theorem xw {s:List UInt8} {q c:Nat} {t:St} (h:Ok s q c 6 [] 0 t) (hb:aj s t 42=true):Ok s q c 9 [] 0 (aG t):=by
 obtain ⟨he,hb⟩:=aE hb
 exact Or.inl ((h.live he).go 42 9 [] hb (by omega) rfl rfl (by omega) (by omega))
theorem n_ {s:List UInt8} {q c:Nat} {t:St} (h:Ok s q c 6 [] 0 t) (hb:aj s t 39=true):Ok s q c 9 [] 0 (eU s t):=by
 obtain ⟨he,hb⟩:=aE hb
 exact xT (h.live he) hb rfl (by omega) rfl
theorem tu {s:List UInt8} {q c:Nat} {t:St} (h:Ok s q c 6 [] 0 t) (hb:aj s t 63=true):Ok s q c 10 [] 0 (aG t):=by
 obtain ⟨he,hb⟩:=aE hb
 exact Or.inl ((h.live he).go 63 10 [] hb (by omega) rfl rfl (by omega) (by omega))
theorem nx6 {b:Nat} (hb:b≠256):nx (cS 6 []) b=norm (cO (cS 6 []) b):=by
 rw [cu (by omega) (by omega) hb]; simp [aD,cS]
theorem tq {s:List UInt8} {q c:Nat} {t:St} (h:Ok s q c 6 [] 0 t) (hb:aj s t 45=true):Ok s q c 9 [] 0 (countP s t true):=by
 obtain ⟨he,eK⟩:=aE hb
 unfold countP dx
 simp only [if_true,Bool.true_and]
 have e1:has s t 45=aG t:=by unfold has; rw [if_pos hb]
 rw [e1,hb]
 exact tK ((h.live he).step (by omega) (by rw [eK]; rfl) rfl (by simp) (by simp)) (by omega)
theorem tA {s:List UInt8} {q c:Nat} {t:St} (h:Ok s q c 6 [] 0 t) (h1:aj s t 42=false) (h2:aj s t 39=false) (h3:aj s t 63=false) (h4:aj s t 45=false) (h5:aj s t 58=false):Ok s q c 7 [] 0 (countP s t true):=by
 rcases h with h | h
 ·have e1:countP s t true=aX s t false:=by
   unfold countP dx
   simp only [if_true,Bool.true_and]
   have e1:has s t 45=t:=by unfold has; rw [h4]; simp
   rw [e1,h4]
  rw [e1]
  rw [aK h.e0] at h1 h2 h3 h4 h5
  simp only [beq_eq_false_iff_ne,ne_eq] at h1 h2 h3 h4 h5
  refine oh h (by omega) rfl ?_ ?_
  ·intro b hb
   have hlt:=eo hb
   rw [nx6 (by omega)]
   simp [af] at hb
   have a1:¬b=42:=by omega
   have a2:¬b=39:=by omega
   have a3:¬b=45:=by omega
   have a4:¬b=58:=by omega
   have a5:¬b=63:=by omega
   simp [cO,a1,a2,a3,a4,a5]
  intro hd
  by_cases aC:bt s t.p=256
  ·rw [aC]; exact gN (by omega) (by omega) (by omega)
  rw [nx6 aC]
  have h48:¬bt s t.p=48:=by intro e; rw [e] at hd; simp [af] at hd
  simp [cO,bW,cS,h1,h2,h3,h4,h5,h48,hd,norm]
 rw [qT _ h]; exact Or.inr h
theorem tw {s:List UInt8} {q c X:Nat} (hX:X=6\/X=7) {t:St} (h:Ok s q c X [] 0 t) (hb:aj s t 58=true):Ok s q c 8 [] 0 (aN s t [58]):=by
 have e:aN s t [58]=aG t:=by simp only [aN,List.foldl_cons,List.foldl_nil]; unfold aH; rw [if_pos hb]
 obtain ⟨he,hb⟩:=aE hb
 rw [e]
 exact Or.inl ((h.live he).go 58 8 [] hb (by omega) (by rcases hX with rfl | rfl<;>rfl) rfl (by omega) (by omega))
theorem tN {X b:Nat} (hX:X=7\/X=8\/X=9) (hb:b≠256):nx (cS X []) b=norm (bF (cS X []) b):=by
 rw [cu (by omega) (by omega) hb]; rcases hX with rfl | rfl | rfl<;>simp [aD,cS]
theorem oJ {s:List UInt8} {q c:Nat} {t:St} (h:Ok s q c 7 [] 0 t) (hb:aj s t 58=false):Ok s q c 9 [] 0 t:=by
 rcases h with h | h
 ·rw [aK h.e0] at hb
  simp only [beq_eq_false_iff_ne,ne_eq] at hb
  refine Or.inl (h.as ?_)
  by_cases aC:bt s t.p=256
  ·rw [aC,iM _ (by simp [cS]),iM _ (by simp [cS])]; rfl
  rw [tN (by omega) aC,tN (by omega) aC]
  simp [bF,cS,hb]
 exact Or.inr h
theorem zR {s:List UInt8} {q c:Nat} {t:St} (h:Ok s q c 8 [] 0 t) (hd:digit s t=true):Ok s q c 9 [] 0 (countP s t false):=by
 have he:t.e=0/\af (bt s t.p)=true:=by simpa [digit] using hd
 have e:countP s t false=aX s t false:=rfl
 rw [e]
 refine oh (h.live he.1) (by omega) rfl ?_ ?_
 ·intro b hb
  have hlt:=eo hb
  rw [tN (by omega) (by omega)]
  simp [af] at hb
  have a1:¬b=44:=by omega
  have a2:¬b=93:=by omega
  have a3:¬b=58:=by omega
  simp [bF,cS,a1,a2]
 intro h2; rw [he.2] at h2; cases h2
theorem xy {s:List UInt8} {q c:Nat} {t:St} (h:Ok s q c 8 [] 0 t) (hd:digit s t=false):Ok s q c 9 [] 0 t:=by
 rcases h with h | h
 ·have yW:af (bt s t.p)=false:=by simpa [digit,h.e0] using hd
  refine Or.inl (h.as ?_)
  by_cases aC:bt s t.p=256
  ·rw [aC,iM _ (by simp [cS]),iM _ (by simp [cS])]; rfl
  rw [tN (by omega) aC,tN (by omega) aC]
  have h48:¬bt s t.p=48:=by intro e; rw [e] at yW; simp [af] at yW
  simp [bF,bW,cS,yW,h48]
 exact Or.inr h
/-! ### Segments -/
theorem IJ (s:List UInt8) (i:Nat) (h:(M s i).st<=1):∀j,i<=j->(M s j).st<=1:=by
 intro j hj
 induction j with
 | zero =>
  have:i=0:=by omega
  subst this; exact h
 | succ j ih =>
  by_cases e:i=j+1
  ·subst e; exact h
  have:=ih (by omega)
  show (nx (M s j) (bt s j)).st<=1
  unfold nx; rw [if_pos this]; exact this
theorem EX.ge {s:List UInt8} {e p:Nat} (h:EX s e p) {i:Nat} (hi:2<=(M s i).st):i<=p:=by
 by_cases hip:i<=p
 ·exact hip
 have h1:=h.st
 have h2:=h.e3
 have:=IJ s (p+1) (by omega) i (by omega)
 omega
structure lS (s:List UInt8) (c:Nat) (acc:List UInt8) (t:St):Prop where
 e0:t.e=0
 nn:t.n=0
 le:t.p<=s.length
 lv:2<=(M s t.p).st
 ac:nx (M s t.p) (bt s t.p)=nx (cS 3 []) (bt s t.p)
 ct:C s t.p=c
 ty:((M s t.p).st=3/\T s t.p=acc)\/((M s t.p).st=21/\(M s t.p).bh=3/\bR (M s t.p) (bt s t.p)=false/\T s t.p++[39,93]=acc)
def kJ (s:List UInt8) (c:Nat) (acc:List UInt8) (t:St):Prop:=lS s c acc t\/xQ s 0 t
structure RJ (s:List UInt8) (c X:Nat) (acc:List UInt8) (t:St):Prop where
 e0:t.e=0
 nn:t.n=0
 le:t.p<=s.length
 mm:M s t.p=cS X []
 ct:C s t.p=c
 tx:T s t.p=acc
theorem nx3 {b:Nat} (hb:b≠256):nx (cS 3 []) b=norm (cE (cS 3 []) b):=by
 rw [cu (by omega) (by omega) hb]; simp [aD,cS]
theorem lS.Wv {s:List UInt8} {c:Nat} {acc:List UInt8} {t:St} (h:lS s c acc t):T s t.p++out (M s t.p) 46=acc\/bt s t.p≠46:=by
 by_cases hb:bt s t.p=46
 ·left
  rcases h.ty with ⟨h1,h2⟩ | ⟨h1,h2,h3,h4⟩
  ·simp [out,h1,h2]
  rw [hb] at h3; simp [out,h1,h2,h3,h4]
 right; exact hb
theorem uO {s:List UInt8} {c:Nat} {acc:List UInt8} {t:St} (h:lS s c acc t) (hb:aj s t 46=true):RJ s c 4 acc (aG t):=by
 obtain ⟨_,hb⟩:=aE hb
 have hp:=cD (s:=s) (p:=t.p) (by omega)
 have lU:nx (M s t.p) (bt s t.p)=cS 4 []:=by rw [h.ac,hb]; rfl
 refine ⟨h.e0,h.nn,hp,by show M s (t.p+1)=_; simp only [M]; exact lU,?_,?_⟩
 ·show C s (t.p+1)=c
  simp only [C]
  have:inc (M s t.p) (bt s t.p)=0:=by
   unfold inc
   rw [lU,if_neg (by simp [cS]),if_neg (by simp [cS])]
  rw [this,h.ct]; rfl
 show T s (t.p+1)=acc
 simp only [T]
 rcases h.Wv with h2 | h2
 ·rw [hb]; exact h2
 exact absurd hb h2
theorem BP {s:List UInt8} {c:Nat} {acc:List UInt8} {t:St} (h:RJ s c 4 acc t) (hb:aj s t 46=true):RJ s c 5 (acc++[46,46]) (aG t):=by
 obtain ⟨_,hb⟩:=aE hb
 have hp:=cD (s:=s) (p:=t.p) (by omega)
 have lU:nx (M s t.p) (bt s t.p)=cS 5 []:=by rw [h.mm,hb]; rfl
 refine ⟨h.e0,h.nn,hp,by show M s (t.p+1)=_; simp only [M]; exact lU,?_,?_⟩
 ·show C s (t.p+1)=c
  simp only [C]
  have:inc (M s t.p) (bt s t.p)=0:=by
   unfold inc
   rw [lU,if_neg (by simp [cS]),if_neg (by simp [cS])]
  rw [this,h.ct]; rfl
 show T s (t.p+1)=acc++[46,46]
 simp only [T]
 rw [h.tx,h.mm,hb]; rfl
theorem mQ {s:List UInt8} {c X:Nat} {acc:List UInt8} {t:St} (hX:X=4\/X=5) (h:RJ s c X acc t) (hb:aj s t 42=true):kJ s (c+1) (acc++[91,42,93]) (aG t):=by
 obtain ⟨_,hb⟩:=aE hb
 have hp:=cD (s:=s) (p:=t.p) (by omega)
 have lU:nx (M s t.p) (bt s t.p)=cS 3 []:=by rw [h.mm,hb]; rcases hX with rfl | rfl<;>rfl
 have hM:M s (t.p+1)=cS 3 []:=by simp only [M]; exact lU
 have hT:T s (t.p+1)=acc++[91,42,93]:=by
  simp only [T]
  rw [h.tx,h.mm,hb]; rcases hX with rfl | rfl<;>rfl
 left
 refine ⟨h.e0,h.nn,hp,?_,?_,?_,?_⟩
 ·show 2<=(M s (t.p+1)).st
  rw [hM]; simp [cS]
 ·show nx (M s (t.p+1)) _=_
  rw [hM]
 ·show C s (t.p+1)=c+1
  simp only [C]
  have:inc (M s t.p) (bt s t.p)=1:=by
   unfold inc
   rw [lU,if_neg (by simp [cS]),if_pos]
   rw [h.mm]; simp [cS]; exact hX
  rw [this,h.ct]
 left
 exact ⟨by show (M s (t.p+1)).st=3; rw [hM]; rfl,hT⟩
theorem xV {s:List UInt8} {c:Nat} {acc:List UInt8}:∀(j z p:Nat),M s p=⟨21,3,z,[],[]⟩->T s p=acc->C s p=c->(∀i,i<j->isLet (bt s (p+i))=true)->z+j<=8 ->
 M s (p+j)=⟨21,3,z+j,[],[]⟩/\T s (p+j)=acc++sub s p (p+j)/\C s (p+j)=c
 | 0,z,p,h1,h2,h3,_,_=>⟨h1,by show T s p=acc++sub s p p; rw [sub_self,List.append_nil]; exact h2,h3⟩
 | j+1,z,p,h1,h2,h3,hj,hz=>by
  obtain ⟨a,b,d⟩:=xV j z p h1 h2 h3 (λ i hi=>hj i (by omega)) (by omega)
  have hb:=hj j (by omega)
  have hlt:=iK hb
  have hg:bR ⟨21,3,z+j,[],[]⟩ (bt s (p+j))=true:=by simp [bR,hb]; omega
  have lU:nx (M s (p+j)) (bt s (p+j))=⟨21,3,z+j+1,[],[]⟩:=by
   rw [a]
   have aC:¬bt s (p+j)=256:=by omega
   simp only [nx,aC,cR,aQ,hg]
   simp [norm]
  refine ⟨?_,?_,?_⟩
  ·show M s (p+j+1)=_
   simp only [M]; exact lU
  ·show T s (p+j+1)=_
   simp only [T]
   rw [b,show p+(j+1)=p+j+1 from rfl,gZ (by omega) hlt,a]
   simp [out,hg]
  show C s (p+j+1)=_
  simp only [C]
  have:inc (M s (p+j)) (bt s (p+j))=0:=by
   unfold inc
   rw [lU,a,if_neg (by simp),if_neg (by simp)]
  rw [this,d]; rfl
theorem mR {s:List UInt8} {c X:Nat} {acc:List UInt8} {t:St} (hX:(X=4/\aj s t 46=false)\/(X=5/\aj s t 91=false)) (h:RJ s c X acc t) (hb:aj s t 42=false):kJ s (c+1) (acc++([91,39]++sub s t.p (bC s t).p++[39,93])) (bC s t):=by
 rw [aK h.e0] at hb
 simp only [beq_eq_false_iff_ne,ne_eq] at hb
 cases hl:isLet (bt s t.p)
 ·rw [xR h.e0 hl]
  right
  refine ⟨by simp,h.nn,⟨by rw [h.mm]; simp [cS]; omega,?_,h.le,by simp⟩⟩
  show (M s (t.p+1)).st+2=2
  simp only [M]
  rw [h.mm]
  by_cases aC:bt s t.p=256
  ·rw [aC]
   have:=gN (X:=X) (o:=[]) (by omega) (by omega) (by omega)
   omega
  rw [cu (by omega) (by omega) aC]
  rcases hX with ⟨rfl,h2⟩ | ⟨rfl,h2⟩
  ·rw [aK h.e0] at h2
   simp only [beq_eq_false_iff_ne,ne_eq] at h2
   simp [aD,cE,ku,g_,cS,hb,h2,hl,norm]
  rw [aK h.e0] at h2
  simp only [beq_eq_false_iff_ne,ne_eq] at h2
  simp [aD,cE,ku,g_,cS,hb,h2,hl,norm]
 have hlt:=iK hl
 have hp:=cD hlt
 have hle:=hl
 simp [isLet] at hle
 have lU:nx (M s t.p) (bt s t.p)=⟨21,3,1,[],[]⟩:=by
  rw [h.mm,cu (by omega) (by omega) (by omega)]
  have a1:¬bt s t.p=36:=by omega
  have a2:¬bt s t.p=46:=by omega
  have a3:¬bt s t.p=91:=by omega
  rcases hX with ⟨rfl,_⟩ | ⟨rfl,_⟩<;>simp [aD,cE,ku,g_,cS,hb,hl,norm,a2,a3]
 have vK:M s (t.p+1)=⟨21,3,1,[],[]⟩:=by simp only [M]; exact lU
 have hT1:T s (t.p+1)=acc++[91,39,UInt8.ofNat (bt s t.p)]:=by
  simp only [T]
  rw [h.tx,h.mm]
  have a2:¬bt s t.p=46:=by omega
  have a3:¬bt s t.p=91:=by omega
  rcases hX with ⟨rfl,_⟩ | ⟨rfl,_⟩<;>simp [out,cS,hb,a2,a3]
 have Kp:C s (t.p+1)=c+1:=by
  simp only [C]
  have:inc (M s t.p) (bt s t.p)=1:=by
   unfold inc
   rw [lU,if_neg (by simp),if_pos]
   rw [h.mm]; simp [cS]; omega
  rw [this,h.ct]
 have hr:run isLet s 8 t.p=run isLet s 7 (t.p+1):=by rw [run,if_pos hl]
 have hge:=eG isLet s 7 (t.p+1)
 have aib:=gL isLet s 7 (t.p+1)
 have hok:=fN isLet s 7 (t.p+1)
 have hst:=gr isLet s 7 (t.p+1)
 have hlen:=mU (ok:=isLet) (s:=s) (λ b h=>iK h) 7 (t.p+1) hp
 obtain ⟨j,hj⟩:∃j,run isLet s 7 (t.p+1)=t.p+1+j:=⟨run isLet s 7 (t.p+1) - (t.p+1),by omega⟩
 have hw:bC s t={ t with p:=t.p+1+j }:=by
  unfold bC
  rw [if_pos h.e0,hr,if_neg (by omega),hj]
 obtain ⟨a,b,d⟩:=xV j 1 (t.p+1) vK hT1 Kp (λ i hi=>hok _ (by omega) (by omega)) (by omega)
 rw [hj] at hst hlen
 have Ww:bR ⟨21,3,1+j,[],[]⟩ (bt s (t.p+1+j))=false:=by
  rcases hst with h3 | h3
  ·have:j=7:=by omega
   subst this; simp [bR]
  simp [bR,h3]
 have hT:T s (t.p+1+j)++[39,93]=acc++([91,39]++sub s t.p (t.p+1+j)++[39,93]):=by
  rw [b,lE (s:=s) (a:=t.p) (b:=t.p+1) (c:=t.p+1+j) (by omega) (by omega),gZ (Nat.le_refl _) hlt,sub_self]
  simp
 rw [hw]
 left
 refine ⟨h.e0,h.nn,hlen,?_,?_,d,?_⟩
 ·show 2<=(M s (t.p+1+j)).st
  rw [a]; simp
 ·show nx (M s (t.p+1+j)) (bt s (t.p+1+j))=_
  rw [a]
  refine mV (mx:=8) (ok:=isLet) (Or.inl ⟨rfl,rfl,rfl⟩) (by omega) (by omega) _ ?_
  rcases hst with h3 | h3
  ·left; omega
  right; exact h3
 right
 refine ⟨by show (M s (t.p+1+j)).st=21; rw [a],by show (M s (t.p+1+j)).bh=3; rw [a],?_,hT⟩
 show bR (M s (t.p+1+j)) (bt s (t.p+1+j))=false
 rw [a]; exact Ww
theorem Cb {s:List UInt8} {c:Nat} {t:St} (e0:t.e=0) (nn:t.n=0) (hb:bt s t.p=91) (ct:C s t.p=c) (lU:nx (M s t.p) (bt s t.p)=cS 6 []):Live s (t.p+1) (c+1) 6 [] 0 (aG t):=by
 have hp:=cD (s:=s) (p:=t.p) (by omega)
 have hM:M s (t.p+1)=cS 6 []:=by simp only [M]; exact lU
 refine ⟨e0,nn,hp,Nat.le_refl _,by show T s (t.p+1)=_; rw [Wu,sub_self,List.append_nil],?_,?_,?_,?_⟩
 ·show C s (t.p+1)=c+1
  simp only [C]
  have:inc (M s t.p) (bt s t.p)=1:=by unfold inc; rw [lU,if_pos (by simp [cS])]
  rw [this,ct]
 ·show oO (M s (t.p+1))=true
  rw [hM]; rfl
 ·show 2<=(M s (t.p+1)).st
  rw [hM]; simp [cS]
 show nx (M s (t.p+1)) _=_
 rw [hM]
theorem Im {s:List UInt8} {c:Nat} {acc:List UInt8} {t:St} (h:lS s c acc t) (hp:t.p<s.length) (h46:aj s t 46=false) :
 Ok s (t.p+1) (c+1) 6 [] 0 (aN s t [91])/\((aN s t [91]).e=0->T s (t.p+1)=acc++[91]/\bt s t.p=91):=by
 have e:aN s t [91]=aH s t 91:=rfl
 rw [e]
 unfold aH
 rw [aK h.e0] at h46 ⊢
 simp only [beq_eq_false_iff_ne,ne_eq] at h46
 by_cases hb:bt s t.p=91
 ·rw [if_pos (by simp [hb])]
  refine ⟨Or.inl (Cb h.e0 h.nn hb h.ct (by rw [h.ac,hb]; rfl)),λ_=>⟨?_,hb⟩⟩
  simp only [T]
  rw [hb]
  rcases h.ty with ⟨h1,h2⟩ | ⟨h1,h2,h3,h4⟩
  ·simp [out,h1,h2]
  rw [hb] at h3
  rw [<-h4]
  simp [out,h1,h2,h3]
 rw [if_neg (by simp [hb]),dI h.e0]
 refine ⟨Or.inr ⟨by simp,h.nn,⟨h.lv,?_,h.le,by simp⟩⟩,λ h=>by simp at h⟩
 show (M s (t.p+1)).st+2=2
 simp only [M]
 have aC:bt s t.p≠256:=by have:=tF hp; omega
 rw [h.ac,nx3 aC]
 simp [cE,cS,h46,hb,norm]
theorem Il {s:List UInt8} {c:Nat} {acc:List UInt8} {t:St} (h:RJ s c 5 acc t) (oL:aj s t 91=true) :
 Ok s (t.p+1) (c+1) 6 [] 0 (aN s t [91])/\T s (t.p+1)=acc++[91]/\aN s t [91]=aG t:=by
 have e:aN s t [91]=aG t:=by show aH s t 91=aG t; unfold aH; rw [if_pos oL]
 obtain ⟨_,hb⟩:=aE oL
 rw [e]
 refine ⟨Or.inl (Cb h.e0 h.nn hb h.ct (by rw [h.mm,hb]; rfl)),?_,rfl⟩
 simp only [T]
 rw [h.tx,h.mm,hb]; rfl
theorem tB {s:List UInt8} {q c:Nat} {t:St} (h:Ok s q c 9 [] 0 t) (hb:aj s t 44=true):Ok s q (c+1) 6 [] 0 (aG t):=by
 obtain ⟨he,hb⟩:=aE hb
 have h:=h.live he
 have hp:=cD (s:=s) (p:=t.p) (by omega)
 have lU:nx (M s t.p) (bt s t.p)=cS 6 []:=by rw [h.ac,hb]; rfl
 have hM:M s (t.p+1)=cS 6 []:=by simp only [M]; exact lU
 refine Or.inl ⟨h.e0,h.nn,hp,by have:=h.ge; simp [aG]; omega,?_,?_,?_,?_,?_⟩
 ·show T s (t.p+1)=T s q++sub s q (t.p+1)
  simp only [T]
  rw [h.tx,uV h.br,gZ h.ge (by omega),List.append_assoc]
 ·show C s (t.p+1)=c+1
  simp only [C]
  have:inc (M s t.p) (bt s t.p)=1:=by unfold inc; rw [lU,if_pos (by simp [cS])]
  rw [this,h.ct]
 ·show oO (M s (t.p+1))=true
  rw [hM]; rfl
 ·show 2<=(M s (t.p+1)).st
  rw [hM]; simp [cS]
 show nx (M s (t.p+1)) _=_
 rw [hM]
theorem tC {s:List UInt8} {q c:Nat} {t:St} (h:Ok s q c 9 [] 0 t) (hb:aj s t 44=false):kJ s c (T s q++sub s q (aN s t [93]).p) (aN s t [93]):=by
 have e:aN s t [93]=aH s t 93:=rfl
 rw [e]
 rcases h with h | h
 ·unfold aH
  rw [aK h.e0] at hb ⊢
  simp only [beq_eq_false_iff_ne,ne_eq] at hb
  by_cases Fa:bt s t.p=93
  ·rw [if_pos (by simp [Fa])]
   have hp:=cD (s:=s) (p:=t.p) (by omega)
   have lU:nx (M s t.p) (bt s t.p)=cS 3 []:=by rw [h.ac,Fa]; rfl
   have hM:M s (t.p+1)=cS 3 []:=by simp only [M]; exact lU
   refine Or.inl ⟨h.e0,h.nn,hp,?_,?_,?_,Or.inl ⟨?_,?_⟩⟩
   ·show 2<=(M s (t.p+1)).st
    rw [hM]; simp [cS]
   ·show nx (M s (t.p+1)) _=_
    rw [hM]
   ·show C s (t.p+1)=c
    simp only [C]
    rw [B_ h.br (by rw [lU]; simp [cS]),h.ct]; rfl
   ·show (M s (t.p+1)).st=3
    rw [hM]; rfl
   show T s (t.p+1)=T s q++sub s q (t.p+1)
   simp only [T]
   rw [h.tx,uV h.br,gZ h.ge (by omega),List.append_assoc]
  rw [if_neg (by simp [Fa]),dI h.e0]
  refine Or.inr (h.bad 0 (by omega) ?_)
  by_cases aC:bt s t.p=256
  ·rw [aC]; exact gN (by omega) (by omega) (by omega)
  rw [tN (by omega) aC]
  simp [bF,cS,hb,Fa,norm]
 rw [tJ _ h]; exact Or.inr h
def bz (s:List UInt8):Prop:=(M s (s.length+1)).st=26
theorem uW {s:List UInt8} (h:bz s) {i:Nat} (hi:i<=s.length+1):2<=(M s i).st:=by
 rcases Nat.lt_or_ge (M s i).st 2 with h1 | h1
 ·have:=IJ s i (by omega) (s.length+1) hi
  unfold bz at h; omega
 exact h1
theorem gR {s:List UInt8} (h:bz s) {n:Nat} {t:St} (hb:xQ s n t):False:=by
 have h1:=uW h (i:=t.p+1) (by have:=hb.er.le; omega)
 have h2:=hb.er.st
 have h3:=hb.er.e3
 have h4:=hb.ne
 omega
theorem aA {s:List UInt8} (h:bz s) {q c X n:Nat} {o:List UInt8} {t:St} (k:Ok s q c X o n t):Live s q c X o n t:=k.resolve_right (λ b=>gR h b)
theorem IK {s:List UInt8} (h:bz s) {q c X n:Nat} {o:List UInt8} {t:St} (k:Live s q c X o n t):2<=(nx (cS X o) (bt s t.p)).st:=by
 rw [<-k.ac]
 exact uW h (i:=t.p+1) (by have:=k.le; omega)
theorem DC {X b:Nat} {o:List UInt8} (hX:X=7\/X=9\/X=14\/X=18) (hb:af b=true):(nx (cS X o) b).st=0:=by
 simp only [af,Bool.and_eq_true,decide_eq_true_eq] at hb
 rw [cu (by omega) (by omega) (by omega)]
 have e:∀k,b≠k\/(48<=k/\k<=57):=λ k=>by omega
 rcases hX with rfl | rfl | rfl | rfl
 ·simp [aD,cS,bF,norm,show b≠44 by omega,show b≠93 by omega,show b≠58 by omega]
 ·simp [aD,cS,bF,norm,show b≠44 by omega,show b≠93 by omega,show b≠58 by omega]
 ·simp [aD,cS,cT,norm,show b≠93 by omega]
 simp only [aD,cS,aU]
 simp [bF,norm,show b≠44 by omega,show b≠93 by omega,show b≠58 by omega,show b≠38 by omega,show b≠124 by omega,show b≠41 by omega]
theorem jI {s:List UInt8} (h:bz s) {q c X n:Nat} {o:List UInt8} {t:St} (k:Live s q c X o n t) (hX:X=7\/X=9\/X=14\/X=18):af (bt s t.p)=false:=by
 cases hb:af (bt s t.p) with
 | false=>rfl
 | true =>
  have:=IK h k
  rw [DC hX hb] at this
  omega
theorem DE {b:Nat} {o:List UInt8} (hb:isLet b=true):(nx (cS 11 o) b).st=0:=by
 simp only [isLet,Bool.and_eq_true,decide_eq_true_eq] at hb
 rw [cu (by omega) (by omega) (by omega)]
 simp only [aD,cS,eC,aU]
 simp [bF,norm,show b≠44 by omega,show b≠93 by omega,show b≠58 by omega,show b≠38 by omega,show b≠41 by omega,show b≠46 by omega,show b≠91 by omega,show b≠61 by omega,show b≠33 by omega,show b≠60 by omega,show b≠124 by omega]
theorem td {s:List UInt8} (h:bz s) {q c n:Nat} {o:List UInt8} {t:St} (k:Live s q c 11 o n t):isLet (bt s t.p)=false:=by
 cases hb:isLet (bt s t.p) with
 | false=>rfl
 | true =>
  have:=IK h k
  rw [DE hb] at this
  omega
theorem run_eq {ok:Nat->Bool} {s:List UInt8} {K a k:Nat} (hge:a<=k) (hall:∀i,a<=i->i<k->ok (bt s i)=true) (hstop:ok (bt s k)=false) (hr:ok (bt s (run ok s K a))=false):run ok s K a=k:=by
 have h1:=eG ok s K a
 rcases Nat.lt_trichotomy (run ok s K a) k with h | h | h
 ·rw [hall _ h1 h] at hr; cases hr
 ·exact h
 rw [fN ok s K a k hge h] at hstop; cases hstop
def pfx (s:List UInt8):List Nat->Nat->Bool
 | [],_=>true
 | b::l,a=>bt s a == b && pfx s l (a+1)
theorem jd {s:List UInt8} {t:St} {b:Nat} (h:(aH s t b).e=0):aj s t b=true/\aH s t b=aG t:=by
 unfold aH at h ⊢
 by_cases hs:aj s t b=true
 ·rw [if_pos hs]; exact ⟨hs,rfl⟩
 rw [if_neg hs] at h
 exfalso
 unfold wrong at h
 split at h
 ·cases h
 contradiction
theorem gM {s:List UInt8}:∀{l:List Nat} {t:St},(aN s t l).e=0->t.e=0/\pfx s l t.p=true/\aN s t l={ t with p:=t.p+l.length }
 | [],t,h=>⟨h,rfl,rfl⟩
 | b::l,t,h=>by
  have e:aN s t (b::l)=aN s (aH s t b) l:=rfl
  rw [e] at h ⊢
  obtain ⟨h1,h2,h3⟩:=gM h
  obtain ⟨h4,h5⟩:=jd h1
  rw [h5] at h2 h3
  have h6:t.e=0/\bt s t.p=b:=aE h4
  refine ⟨h6.1,?_,?_⟩
  ·simp only [pfx,h6.2,beq_self_eq_true,Bool.true_and]; exact h2
  rw [h5,h3]; simp [aG,Nat.add_assoc,Nat.add_comm 1]
theorem xK {s:List UInt8} (hf:bz s) {c:Nat} {acc:List UInt8} {t:St} (h:lS s c acc t):bt s t.p=46\/bt s t.p=91\/bt s t.p=256:=by
 have h1:2<=(M s (t.p+1)).st:=uW hf (by have:=h.le; omega)
 simp only [M] at h1
 rw [h.ac] at h1
 by_cases aC:bt s t.p=256
 ·exact Or.inr (Or.inr aC)
 rw [nx3 aC] at h1
 by_cases h46:bt s t.p=46
 ·exact Or.inl h46
 by_cases oL:bt s t.p=91
 ·exact Or.inr (Or.inl oL)
 simp [cE,cS,h46,oL,norm] at h1
theorem tE {s:List UInt8} (hf:bz s) {c:Nat} {acc:List UInt8} {t:St} (h:lS s c acc t):isLet (bt s t.p)=false:=by
 rcases xK hf h with e | e | e<;>rw [e]<;>rfl
theorem Ms {s:List UInt8} (hf:bz s) {c:Nat} {acc:List UInt8} {t:St} (h:RJ s c 5 acc t):aj s t 46=false:=by
 rw [aK h.e0]
 by_cases hb:bt s t.p=46
 ·exfalso
  have h1:2<=(M s (t.p+1)).st:=uW hf (by have:=h.le; omega)
  simp only [M] at h1
  rw [h.mm,hb] at h1
  exact absurd h1 (by decide)
 simpa using hb
theorem Mx (m:G) (b:Nat):(out m b).length<=3:=by
 unfold out
 repeat' split
 all_goals simp
theorem Pk (s:List UInt8):∀i,(T s i).length<=3 * i
 | 0=>Nat.le_refl _
 | i+1=>by
  have:=Pk s i
  have:=Mx (M s i) (bt s i)
  simp only [T,List.length_append]
  omega
theorem lS.len {s:List UInt8} {c:Nat} {acc:List UInt8} {t:St} (h:lS s c acc t):acc.length<=3 * t.p+2:=by
 have:=Pk s t.p
 rcases h.ty with ⟨_,h2⟩ | ⟨_,_,_,h4⟩
 ·rw [<-h2]; omega
 rw [<-h4]; simp; omega
theorem wW {s:List UInt8} {p p':Nat} {b:UInt8} (hb:bt s p=b.toNat) (h:p<p'):sub s p p'=b::sub s (p+1) p':=by
 have eK:bt s p<256:=by have:=b.toNat_lt; omega
 rw [lE (b:=p+1) (by omega) (by omega),gZ (Nat.le_refl _) eK,sub_self,hb]
 simp
theorem Pm (s:List UInt8):∀i,0<i->0<(T s i).length
 | 0,h=>absurd h (by decide)
 | 1,_=>by simp [T,M,out,g0]
 | i+2,_=>by
  have:=Pm s (i+1) (by omega)
  rw [T,List.length_append]
  omega
theorem lS.ne {s:List UInt8} {c:Nat} {acc:List UInt8} {t:St} (h:lS s c acc t) (hp:0<t.p):acc≠[]:=by
 have h1:=Pm s t.p hp
 intro e
 rcases h.ty with ⟨_,h2⟩ | ⟨_,_,_,h4⟩
 ·rw [h2,e] at h1; simp at h1
 rw [e] at h4; simp at h4
end Tr
