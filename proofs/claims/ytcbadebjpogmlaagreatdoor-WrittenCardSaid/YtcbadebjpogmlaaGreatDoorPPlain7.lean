import Derived.Test.YtcbadebjpogmlaaGreatDoorPPlain
namespace Tr
theorem Live.rebase {s:List UInt8} {q c X n:Nat} {o:List UInt8} {t:St} (h:Live s q c X o n t):Live s t.p c X o n t :=
 ⟨h.e0,h.nn,h.le,Nat.le_refl _,by rw [sub_self,List.append_nil],h.ct,h.br,h.lv,h.ac⟩
theorem Live.unbase {s:List UInt8} {q c X n Y n' c':Nat} {o o':List UInt8} {t t':St} (h:Live s q c X o n t) (k:Live s t.p c' Y o' n' t'):Live s q c' Y o' n' t' :=
 ⟨k.e0,k.nn,k.le,Nat.le_trans h.ge k.ge,by rw [k.tx,h.tx,List.append_assoc,← sub_trans h.ge k.ge],k.ct,k.br,k.lv,k.ac⟩
theorem trimR_bang (o:List UInt8):trimR (o++[33])=trimR o:=by simp [trimR]
theorem trimR_open (o:List UInt8):trimR (o++[40])=o++[40]:=by
 unfold trimR; rw [List.reverse_append,List.reverse_singleton,List.singleton_append,List.dropWhile_cons]; simp
theorem trimR_nil:trimR []=[]:=rfl
theorem trimS_open (o:List UInt8):trimS (o++[40])=o:=by simp [trimS]
theorem nx18 {o:List UInt8} {b:Nat} (hb:b≠256):nx (cS 18 o) b=norm (gPartEnd (cS 18 o) b):=by
 rw [nx_low (by omega) (by omega) hb]; simp [gBetween,cS]
def gPE (g:G) (b:Nat):G :=
 if b=38 then { g with st:=19 } else if b=124 then { g with st:=20 }
 else if b=41∧g.op≠[] then { g with st:=18,op:=trimS g.op }
 else if g.op=[] then gSelEnd g b else { g with st:=0 }
theorem gPE_eq (g:G) (b:Nat):gPartEnd g b=gPE ⟨g.st,g.bh,g.sz,g.rs,trimR g.op⟩ b:=rfl
theorem acts18 {o o':List UInt8} (h:trimR o=trimR o') (b:Nat):nx (cS 18 o) b=nx (cS 18 o') b:=by
 by_cases hb:b=256
 ·subst hb; rw [nx256 _ (by simp [cS]),nx256 _ (by simp [cS])]; rfl
 rw [nx18 hb,nx18 hb]
 rw [gPE_eq,gPE_eq]
 simp only [cS,h]
theorem ok_unbang {s:List UInt8} {q c n:Nat} {o:List UInt8} {t:St} (h:Ok s q c 18 (o++[33]) n t):Ok s q c 18 o n t :=
 h.imp (fun x=>x.as (acts18 (trimR_bang o) _)) id
theorem live_push {s:List UInt8} {q c n:Nat} {o:List UInt8} {t:St} (x:UInt8) (hx:x=33∨x=40) (h:Ok s q c 10 o n t) (hb:sees s t x.toNat=true) (ho:o.length≠6):Live s q c 10 (o++[x]) n (adv t):=by
 obtain ⟨he,hb⟩:=sees_e hb
 refine (h.live he).go x.toNat 10 (o++[x]) hb (UInt8.toNat_lt x) ?_ rfl (by omega) (by omega)
 rcases hx with rfl | rfl
 ·rw [nx_low (by omega) (by omega) (by decide)]
  simp [gBetween,gPart,cS,ho,norm]
 rw [nx_low (by omega) (by omega) (by decide)]
 simp [gBetween,gPart,cS,ho,norm]
theorem ok_deep {s:List UInt8} {q c n:Nat} {o:List UInt8} {t:St} (x:Nat) (hx:x=33∨x=40) (h:Ok s q c 10 o n t) (hb:sees s t x=true) (ho:o.length=6):Ok s q c 18 o n (wrong t 3):=by
 obtain ⟨he,hb⟩:=sees_e hb
 rw [wrong_of he]
 refine Or.inr ((h.live he).bad 1 (by omega) ?_)
 rw [hb]
 rcases hx with rfl | rfl
 ·rw [nx_low (by omega) (by omega) (by decide)]
  simp [gBetween,gPart,cS,ho,norm]
 rw [nx_low (by omega) (by omega) (by decide)]
 simp [gBetween,gPart,cS,ho,norm]
theorem ok_close {s:List UInt8} {q c n:Nat} {o:List UInt8} {t:St} (h:Ok s q c 18 (o++[40]) n t) (hno:t.e=0→bt s t.p≠38∧bt s t.p≠124):Ok s q c 18 o n (must s t [41]):=by
 refine ok_must1 h (by omega) ?_ rfl (by omega) (by omega) ?_
 ·rw [nx18 (by omega)]
  simp [gPartEnd,cS,trimR_open,trimS_open,norm]
 intro he hne
 obtain ⟨h1,h2⟩:=hno he
 by_cases h256:bt s t.p=256
 ·rw [h256]; exact nx_end (by omega) (by omega) (by omega)
 rw [nx18 h256]
 simp [gPartEnd,cS,trimR_open,h1,h2,hne,norm]
theorem ok_and {s:List UInt8} {q c n:Nat} {o:List UInt8} {t:St} (ho:trimR o=o) (h:Ok s q c 18 o n t) (hb:sees s t 38=true):Ok s q c 10 o n (must s t [38,38])∧((must s t [38,38]).e=0→t.p+2≤(must s t [38,38]).p):=by
 have e:must s t [38,38]=must1 s (adv t) 38:=by
  simp only [must,List.foldl_cons,List.foldl_nil]
  have:must1 s t 38=adv t:=by unfold must1; rw [if_pos hb]
  rw [this]
 obtain ⟨he,hb⟩:=sees_e hb
 rw [e]
 have h1:Live s q c 19 o n (adv t):=(h.live he).go 38 19 o hb (by omega) (by
  rw [nx18 (by omega)]; simp [gPartEnd,cS,ho,norm]) rfl (by omega) (by omega)
 refine ⟨ok_must1 (Or.inl h1) (by omega) rfl rfl (by omega) (by omega) ?_,?_⟩
 ·intro _ hne
  by_cases h256:bt s (adv t).p=256
  ·rw [h256]; exact nx_end (by omega) (by omega) (by omega)
  rw [nx_low (by omega) (by omega) h256]
  simp [gBetween,gWithin,cS,hne,norm]
 intro h2
 unfold must1 at h2 ⊢
 split at h2
 ·rename_i h3; rw [if_pos h3]; simp [adv]
 rw [wrong_of h1.e0] at h2; simp at h2
theorem ok_or {s:List UInt8} {q c n:Nat} {o:List UInt8} {t:St} (ho:trimR o=o) (h:Ok s q c 18 o n t) (hb:sees s t 124=true):Ok s q c 10 o n (must s t [124,124])∧((must s t [124,124]).e=0→t.p+2≤(must s t [124,124]).p):=by
 have e:must s t [124,124]=must1 s (adv t) 124:=by
  simp only [must,List.foldl_cons,List.foldl_nil]
  have:must1 s t 124=adv t:=by unfold must1; rw [if_pos hb]
  rw [this]
 obtain ⟨he,hb⟩:=sees_e hb
 rw [e]
 have h1:Live s q c 20 o n (adv t):=(h.live he).go 124 20 o hb (by omega) (by
  rw [nx18 (by omega)]; simp [gPartEnd,cS,ho,norm]) rfl (by omega) (by omega)
 refine ⟨ok_must1 (Or.inl h1) (by omega) rfl rfl (by omega) (by omega) ?_,?_⟩
 ·intro _ hne
  by_cases h256:bt s (adv t).p=256
  ·rw [h256]; exact nx_end (by omega) (by omega) (by omega)
  rw [nx_low (by omega) (by omega) h256]
  simp [gBetween,gWithin,cS,hne,norm]
 intro h2
 unfold must1 at h2 ⊢
 split at h2
 ·rename_i h3; rw [if_pos h3]; simp [adv]
 rw [wrong_of h1.e0] at h2; simp at h2
theorem ok_where {s:List UInt8} {q c n:Nat} {t:St} (h:Ok s q c 18 [] n t) (hno:t.e=0→bt s t.p≠38∧bt s t.p≠124):Ok s q c 9 [] n t:=by
 rcases h with h | h
 ·obtain ⟨h1,h2⟩:=hno h.e0
  refine Or.inl (h.as ?_)
  by_cases h256:bt s t.p=256
  ·rw [h256,nx256 _ (by simp [cS]),nx256 _ (by simp [cS])]; rfl
  rw [nx18 h256,nx_low (by omega) (by omega) h256]
  have e:norm (gBetween (cS 9 []) (bt s t.p))=norm (gSelEnd (cS 9 []) (bt s t.p)):=by simp [gBetween,cS]
  rw [e]
  simp only [gPartEnd,cS,trimR_nil,h1,h2,if_false,ne_eq,not_true_eq_false,and_false,if_true]
  simp only [gSelEnd]
  repeat' split
  all_goals first | rfl | (exfalso; omega)
 exact Or.inr h
def base (s:List UInt8) (t:St):Nat:=if t.e=0 then t.p else s.length+1
end Tr
namespace Tr
theorem sel_star {s:List UInt8} {q c:Nat} {t:St} (h:Ok s q c 6 [] 0 t) (hb:sees s t 42=true):Ok s q c 9 [] 0 (adv t):=by
 obtain ⟨he,hb⟩:=sees_e hb
 exact Or.inl ((h.live he).go 42 9 [] hb (by omega) rfl rfl (by omega) (by omega))
theorem sel_quote {s:List UInt8} {q c:Nat} {t:St} (h:Ok s q c 6 [] 0 t) (hb:sees s t 39=true):Ok s q c 9 [] 0 (quoteP s t):=by
 obtain ⟨he,hb⟩:=sees_e hb
 exact ok_quote (h.live he) hb rfl (by omega) rfl
theorem sel_where {s:List UInt8} {q c:Nat} {t:St} (h:Ok s q c 6 [] 0 t) (hb:sees s t 63=true):Ok s q c 10 [] 0 (adv t):=by
 obtain ⟨he,hb⟩:=sees_e hb
 exact Or.inl ((h.live he).go 63 10 [] hb (by omega) rfl rfl (by omega) (by omega))
theorem nx6 {b:Nat} (hb:b≠256):nx (cS 6 []) b=norm (gSelector (cS 6 []) b):=by
 rw [nx_low (by omega) (by omega) hb]; simp [gBetween,cS]
theorem sel_minus {s:List UInt8} {q c:Nat} {t:St} (h:Ok s q c 6 [] 0 t) (hb:sees s t 45=true):Ok s q c 9 [] 0 (countP s t true):=by
 obtain ⟨he,hb2⟩:=sees_e hb
 unfold countP minusP
 simp only [if_true,Bool.true_and]
 have e1:has s t 45=adv t:=by unfold has; rw [if_pos hb]
 rw [e1,hb]
 exact ok_countM ((h.live he).step (by omega) (by rw [hb2]; rfl) rfl (by simp) (by simp)) (by omega)
theorem sel_count {s:List UInt8} {q c:Nat} {t:St} (h:Ok s q c 6 [] 0 t) (h1:sees s t 42=false) (h2:sees s t 39=false) (h3:sees s t 63=false) (h4:sees s t 45=false) (h5:sees s t 58=false):Ok s q c 7 [] 0 (countP s t true):=by
 rcases h with h | h
 ·have e1:countP s t true=countQ s t false:=by
   unfold countP minusP
   simp only [if_true,Bool.true_and]
   have e1:has s t 45=t:=by unfold has; rw [h4]; simp
   rw [e1,h4]
  rw [e1]
  rw [sees_live h.e0] at h1 h2 h3 h4 h5
  simp only [beq_eq_false_iff_ne,ne_eq] at h1 h2 h3 h4 h5
  refine ok_countQ h (by omega) rfl ?_ ?_
  ·intro b hb
   have hlt:=isDig_lt hb
   rw [nx6 (by omega)]
   simp [isDig] at hb
   have a1:¬b=42:=by omega
   have a2:¬b=39:=by omega
   have a3:¬b=45:=by omega
   have a4:¬b=58:=by omega
   have a5:¬b=63:=by omega
   simp [gSelector,a1,a2,a3,a4,a5]
  intro hd
  by_cases h256:bt s t.p=256
  ·rw [h256]; exact nx_end (by omega) (by omega) (by omega)
  rw [nx6 h256]
  have h48:¬bt s t.p=48:=by intro e; rw [e] at hd; simp [isDig] at hd
  simp [gSelector,gCount,cS,h1,h2,h3,h4,h5,h48,hd,norm]
 rw [countP_bad _ h]; exact Or.inr h
theorem sel_colon {s:List UInt8} {q c X:Nat} (hX:X=6∨X=7) {t:St} (h:Ok s q c X [] 0 t) (hb:sees s t 58=true):Ok s q c 8 [] 0 (must s t [58]):=by
 have e:must s t [58]=adv t:=by simp only [must,List.foldl_cons,List.foldl_nil]; unfold must1; rw [if_pos hb]
 obtain ⟨he,hb⟩:=sees_e hb
 rw [e]
 exact Or.inl ((h.live he).go 58 8 [] hb (by omega) (by rcases hX with rfl | rfl<;>rfl) rfl (by omega) (by omega))
theorem nx789 {X b:Nat} (hX:X=7∨X=8∨X=9) (hb:b≠256):nx (cS X []) b=norm (gSelEnd (cS X []) b):=by
 rw [nx_low (by omega) (by omega) hb]; rcases hX with rfl | rfl | rfl<;>simp [gBetween,cS]
theorem sel_nocolon {s:List UInt8} {q c:Nat} {t:St} (h:Ok s q c 7 [] 0 t) (hb:sees s t 58=false):Ok s q c 9 [] 0 t:=by
 rcases h with h | h
 ·rw [sees_live h.e0] at hb
  simp only [beq_eq_false_iff_ne,ne_eq] at hb
  refine Or.inl (h.as ?_)
  by_cases h256:bt s t.p=256
  ·rw [h256,nx256 _ (by simp [cS]),nx256 _ (by simp [cS])]; rfl
  rw [nx789 (by omega) h256,nx789 (by omega) h256]
  simp [gSelEnd,cS,hb]
 exact Or.inr h
theorem sel_to {s:List UInt8} {q c:Nat} {t:St} (h:Ok s q c 8 [] 0 t) (hd:digit s t=true):Ok s q c 9 [] 0 (countP s t false):=by
 have he:t.e=0∧isDig (bt s t.p)=true:=by simpa [digit] using hd
 have e:countP s t false=countQ s t false:=rfl
 rw [e]
 refine ok_countQ (h.live he.1) (by omega) rfl ?_ ?_
 ·intro b hb
  have hlt:=isDig_lt hb
  rw [nx789 (by omega) (by omega)]
  simp [isDig] at hb
  have a1:¬b=44:=by omega
  have a2:¬b=93:=by omega
  have a3:¬b=58:=by omega
  simp [gSelEnd,cS,a1,a2]
 intro h2; rw [he.2] at h2; cases h2
theorem sel_noto {s:List UInt8} {q c:Nat} {t:St} (h:Ok s q c 8 [] 0 t) (hd:digit s t=false):Ok s q c 9 [] 0 t:=by
 rcases h with h | h
 ·have hd2:isDig (bt s t.p)=false:=by simpa [digit,h.e0] using hd
  refine Or.inl (h.as ?_)
  by_cases h256:bt s t.p=256
  ·rw [h256,nx256 _ (by simp [cS]),nx256 _ (by simp [cS])]; rfl
  rw [nx789 (by omega) h256,nx789 (by omega) h256]
  have h48:¬bt s t.p=48:=by intro e; rw [e] at hd2; simp [isDig] at hd2
  simp [gSelEnd,gCount,cS,hd2,h48]
 exact Or.inr h
/-! ### Segments -/
theorem absorb (s:List UInt8) (i:Nat) (h:(M s i).st≤1):∀j,i≤j→(M s j).st≤1:=by
 intro j hj
 induction j with
 | zero =>
  have:i=0:=by omega
  subst this; exact h
 | succ j ih =>
  by_cases e:i=j+1
  ·subst e; exact h
  have:=ih (by omega)
  show (nx (M s j) (bt s j)).st≤1
  unfold nx; rw [if_pos this]; exact this
structure Bnd (s:List UInt8) (c:Nat) (acc:List UInt8) (t:St):Prop where
 e0:t.e=0
 nn:t.n=0
 le:t.p≤s.length
 lv:2≤(M s t.p).st
 ac:nx (M s t.p) (bt s t.p)=nx (cS 3 []) (bt s t.p)
 ct:C s t.p=c
 ty:((M s t.p).st=3∧T s t.p=acc)∨((M s t.p).st=21∧(M s t.p).bh=3∧gGoes (M s t.p) (bt s t.p)=false∧T s t.p++[39,93]=acc)
def OkB (s:List UInt8) (c:Nat) (acc:List UInt8) (t:St):Prop:=Bnd s c acc t∨Bad s 0 t
structure Dot (s:List UInt8) (c X:Nat) (acc:List UInt8) (t:St):Prop where
 e0:t.e=0
 nn:t.n=0
 le:t.p≤s.length
 mm:M s t.p=cS X []
 ct:C s t.p=c
 tx:T s t.p=acc
theorem nx3 {b:Nat} (hb:b≠256):nx (cS 3 []) b=norm (gSegment (cS 3 []) b):=by
 rw [nx_low (by omega) (by omega) hb]; simp [gBetween,cS]
theorem Bnd.out46 {s:List UInt8} {c:Nat} {acc:List UInt8} {t:St} (h:Bnd s c acc t):T s t.p++out (M s t.p) 46=acc∨bt s t.p≠46:=by
 by_cases hb:bt s t.p=46
 ·left
  rcases h.ty with ⟨h1,h2⟩ | ⟨h1,h2,h3,h4⟩
  ·simp [out,h1,h2]
  rw [hb] at h3; simp [out,h1,h2,h3,h4]
 right; exact hb
theorem seg_dot {s:List UInt8} {c:Nat} {acc:List UInt8} {t:St} (h:Bnd s c acc t) (hb:sees s t 46=true):Dot s c 4 acc (adv t):=by
 obtain ⟨_,hb⟩:=sees_e hb
 have hp:=bt_lt (s:=s) (p:=t.p) (by omega)
 have hnx:nx (M s t.p) (bt s t.p)=cS 4 []:=by rw [h.ac,hb]; rfl
 refine ⟨h.e0,h.nn,hp,by show M s (t.p+1)=_; simp only [M]; exact hnx,?_,?_⟩
 ·show C s (t.p+1)=c
  simp only [C]
  have:inc (M s t.p) (bt s t.p)=0:=by
   unfold inc
   rw [hnx,if_neg (by simp [cS]),if_neg (by simp [cS])]
  rw [this,h.ct]; rfl
 show T s (t.p+1)=acc
 simp only [T]
 rcases h.out46 with h2 | h2
 ·rw [hb]; exact h2
 exact absurd hb h2
theorem dot_dot {s:List UInt8} {c:Nat} {acc:List UInt8} {t:St} (h:Dot s c 4 acc t) (hb:sees s t 46=true):Dot s c 5 (acc++[46,46]) (adv t):=by
 obtain ⟨_,hb⟩:=sees_e hb
 have hp:=bt_lt (s:=s) (p:=t.p) (by omega)
 have hnx:nx (M s t.p) (bt s t.p)=cS 5 []:=by rw [h.mm,hb]; rfl
 refine ⟨h.e0,h.nn,hp,by show M s (t.p+1)=_; simp only [M]; exact hnx,?_,?_⟩
 ·show C s (t.p+1)=c
  simp only [C]
  have:inc (M s t.p) (bt s t.p)=0:=by
   unfold inc
   rw [hnx,if_neg (by simp [cS]),if_neg (by simp [cS])]
  rw [this,h.ct]; rfl
 show T s (t.p+1)=acc++[46,46]
 simp only [T]
 rw [h.tx,h.mm,hb]; rfl
theorem dot_star {s:List UInt8} {c X:Nat} {acc:List UInt8} {t:St} (hX:X=4∨X=5) (h:Dot s c X acc t) (hb:sees s t 42=true):OkB s (c+1) (acc++[91,42,93]) (adv t):=by
 obtain ⟨_,hb⟩:=sees_e hb
 have hp:=bt_lt (s:=s) (p:=t.p) (by omega)
 have hnx:nx (M s t.p) (bt s t.p)=cS 3 []:=by rw [h.mm,hb]; rcases hX with rfl | rfl<;>rfl
 have hM:M s (t.p+1)=cS 3 []:=by simp only [M]; exact hnx
 have hT:T s (t.p+1)=acc++[91,42,93]:=by
  simp only [T]
  rw [h.tx,h.mm,hb]; rcases hX with rfl | rfl<;>rfl
 left
 refine ⟨h.e0,h.nn,hp,?_,?_,?_,?_⟩
 ·show 2≤(M s (t.p+1)).st
  rw [hM]; simp [cS]
 ·show nx (M s (t.p+1)) _=_
  rw [hM]
 ·show C s (t.p+1)=c+1
  simp only [C]
  have:inc (M s t.p) (bt s t.p)=1:=by
   unfold inc
   rw [hnx,if_neg (by simp [cS]),if_pos]
   rw [h.mm]; simp [cS]; exact hX
  rw [this,h.ct]
 left
 exact ⟨by show (M s (t.p+1)).st=3; rw [hM]; rfl,hT⟩
theorem word_run {s:List UInt8} {c:Nat} {acc:List UInt8}:∀(j z p:Nat),M s p=⟨21,3,z,[],[]⟩→T s p=acc→C s p=c→(∀i,i<j→isLet (bt s (p+i))=true)→z+j≤8 →
 M s (p+j)=⟨21,3,z+j,[],[]⟩∧T s (p+j)=acc++sub s p (p+j)∧C s (p+j)=c
 | 0,z,p,h1,h2,h3,_,_=>⟨h1,by show T s p=acc++sub s p p; rw [sub_self,List.append_nil]; exact h2,h3⟩
 | j+1,z,p,h1,h2,h3,hj,hz=>by
  obtain ⟨a,b,d⟩:=word_run j z p h1 h2 h3 (fun i hi=>hj i (by omega)) (by omega)
  have hb:=hj j (by omega)
  have hlt:=isLet_lt hb
  have hg:gGoes ⟨21,3,z+j,[],[]⟩ (bt s (p+j))=true:=by simp [gGoes,hb]; omega
  have hnx:nx (M s (p+j)) (bt s (p+j))=⟨21,3,z+j+1,[],[]⟩:=by
   rw [a]
   have h256:¬bt s (p+j)=256:=by omega
   simp only [nx,h256,gNext,gInside,hg]
   simp [norm]
  refine ⟨?_,?_,?_⟩
  ·show M s (p+j+1)=_
   simp only [M]; exact hnx
  ·show T s (p+j+1)=_
   simp only [T]
   rw [b,show p+(j+1)=p+j+1 from rfl,sub_snoc (by omega) hlt,a]
   simp [out,hg]
  show C s (p+j+1)=_
  simp only [C]
  have:inc (M s (p+j)) (bt s (p+j))=0:=by
   unfold inc
   rw [hnx,a,if_neg (by simp),if_neg (by simp)]
  rw [this,d]; rfl
theorem dot_word {s:List UInt8} {c X:Nat} {acc:List UInt8} {t:St} (hX:(X=4∧sees s t 46=false)∨(X=5∧sees s t 91=false)) (h:Dot s c X acc t) (hb:sees s t 42=false):OkB s (c+1) (acc++([91,39]++sub s t.p (wordP s t).p++[39,93])) (wordP s t):=by
 rw [sees_live h.e0] at hb
 simp only [beq_eq_false_iff_ne,ne_eq] at hb
 cases hl:isLet (bt s t.p)
 ·rw [wordP_no h.e0 hl]
  right
  refine ⟨by simp,h.nn,⟨by rw [h.mm]; simp [cS]; omega,?_,h.le,by simp⟩⟩
  show (M s (t.p+1)).st+2=2
  simp only [M]
  rw [h.mm]
  by_cases h256:bt s t.p=256
  ·rw [h256]
   have:=nx_end (X:=X) (o:=[]) (by omega) (by omega) (by omega)
   omega
  rw [nx_low (by omega) (by omega) h256]
  rcases hX with ⟨rfl,h2⟩ | ⟨rfl,h2⟩
  ·rw [sees_live h.e0] at h2
   simp only [beq_eq_false_iff_ne,ne_eq] at h2
   simp [gBetween,gSegment,gStar,gWord,cS,hb,h2,hl,norm]
  rw [sees_live h.e0] at h2
  simp only [beq_eq_false_iff_ne,ne_eq] at h2
  simp [gBetween,gSegment,gStar,gWord,cS,hb,h2,hl,norm]
 have hlt:=isLet_lt hl
 have hp:=bt_lt hlt
 have hle:=hl
 simp [isLet] at hle
 have hnx:nx (M s t.p) (bt s t.p)=⟨21,3,1,[],[]⟩:=by
  rw [h.mm,nx_low (by omega) (by omega) (by omega)]
  have a1:¬bt s t.p=36:=by omega
  have a2:¬bt s t.p=46:=by omega
  have a3:¬bt s t.p=91:=by omega
  rcases hX with ⟨rfl,_⟩ | ⟨rfl,_⟩<;>simp [gBetween,gSegment,gStar,gWord,cS,hb,hl,norm,a2,a3]
 have hM1:M s (t.p+1)=⟨21,3,1,[],[]⟩:=by simp only [M]; exact hnx
 have hT1:T s (t.p+1)=acc++[91,39,UInt8.ofNat (bt s t.p)]:=by
  simp only [T]
  rw [h.tx,h.mm]
  have a2:¬bt s t.p=46:=by omega
  have a3:¬bt s t.p=91:=by omega
  rcases hX with ⟨rfl,_⟩ | ⟨rfl,_⟩<;>simp [out,cS,hb,a2,a3]
 have hC1:C s (t.p+1)=c+1:=by
  simp only [C]
  have:inc (M s t.p) (bt s t.p)=1:=by
   unfold inc
   rw [hnx,if_neg (by simp),if_pos]
   rw [h.mm]; simp [cS]; omega
  rw [this,h.ct]
 have hr:run isLet s 8 t.p=run isLet s 7 (t.p+1):=by rw [run,if_pos hl]
 have hge:=run_ge isLet s 7 (t.p+1)
 have hle7:=run_le isLet s 7 (t.p+1)
 have hok:=run_ok isLet s 7 (t.p+1)
 have hst:=run_stop isLet s 7 (t.p+1)
 have hlen:=run_len (ok:=isLet) (s:=s) (fun b h=>isLet_lt h) 7 (t.p+1) hp
 obtain ⟨j,hj⟩:∃j,run isLet s 7 (t.p+1)=t.p+1+j:=⟨run isLet s 7 (t.p+1) - (t.p+1),by omega⟩
 have hw:wordP s t={ t with p:=t.p+1+j }:=by
  unfold wordP
  rw [if_pos h.e0,hr,if_neg (by omega),hj]
 obtain ⟨a,b,d⟩:=word_run j 1 (t.p+1) hM1 hT1 hC1 (fun i hi=>hok _ (by omega) (by omega)) (by omega)
 rw [hj] at hst hlen
 have hgo:gGoes ⟨21,3,1+j,[],[]⟩ (bt s (t.p+1+j))=false:=by
  rcases hst with h3 | h3
  ·have:j=7:=by omega
   subst this; simp [gGoes]
  simp [gGoes,h3]
 have hT:T s (t.p+1+j)++[39,93]=acc++([91,39]++sub s t.p (t.p+1+j)++[39,93]):=by
  rw [b,sub_trans (s:=s) (a:=t.p) (b:=t.p+1) (c:=t.p+1+j) (by omega) (by omega),sub_snoc (Nat.le_refl _) hlt,sub_self]
  simp
 rw [hw]
 left
 refine ⟨h.e0,h.nn,hlen,?_,?_,d,?_⟩
 ·show 2≤(M s (t.p+1+j)).st
  rw [a]; simp
 ·show nx (M s (t.p+1+j)) (bt s (t.p+1+j))=_
  rw [a]
  refine acts_end (mx:=8) (ok:=isLet) (Or.inl ⟨rfl,rfl,rfl⟩) (by omega) (by omega) _ ?_
  rcases hst with h3 | h3
  ·left; omega
  right; exact h3
 right
 refine ⟨by show (M s (t.p+1+j)).st=21; rw [a],by show (M s (t.p+1+j)).bh=3; rw [a],?_,hT⟩
 show gGoes (M s (t.p+1+j)) (bt s (t.p+1+j))=false
 rw [a]; exact hgo
theorem br_live {s:List UInt8} {c:Nat} {t:St} (e0:t.e=0) (nn:t.n=0) (hb:bt s t.p=91) (ct:C s t.p=c) (hnx:nx (M s t.p) (bt s t.p)=cS 6 []):Live s (t.p+1) (c+1) 6 [] 0 (adv t):=by
 have hp:=bt_lt (s:=s) (p:=t.p) (by omega)
 have hM:M s (t.p+1)=cS 6 []:=by simp only [M]; exact hnx
 refine ⟨e0,nn,hp,Nat.le_refl _,by show T s (t.p+1)=_; rw [adv_p,sub_self,List.append_nil],?_,?_,?_,?_⟩
 ·show C s (t.p+1)=c+1
  simp only [C]
  have:inc (M s t.p) (bt s t.p)=1:=by unfold inc; rw [hnx,if_pos (by simp [cS])]
  rw [this,ct]
 ·show inB (M s (t.p+1))=true
  rw [hM]; rfl
 ·show 2≤(M s (t.p+1)).st
  rw [hM]; simp [cS]
 show nx (M s (t.p+1)) _=_
 rw [hM]
theorem seg_br {s:List UInt8} {c:Nat} {acc:List UInt8} {t:St} (h:Bnd s c acc t) (hp:t.p<s.length) (h46:sees s t 46=false) :
 Ok s (t.p+1) (c+1) 6 [] 0 (must s t [91])∧((must s t [91]).e=0→T s (t.p+1)=acc++[91]∧bt s t.p=91):=by
 have e:must s t [91]=must1 s t 91:=rfl
 rw [e]
 unfold must1
 rw [sees_live h.e0] at h46 ⊢
 simp only [beq_eq_false_iff_ne,ne_eq] at h46
 by_cases hb:bt s t.p=91
 ·rw [if_pos (by simp [hb])]
  refine ⟨Or.inl (br_live h.e0 h.nn hb h.ct (by rw [h.ac,hb]; rfl)),fun _=>⟨?_,hb⟩⟩
  simp only [T]
  rw [hb]
  rcases h.ty with ⟨h1,h2⟩ | ⟨h1,h2,h3,h4⟩
  ·simp [out,h1,h2]
  rw [hb] at h3
  rw [← h4]
  simp [out,h1,h2,h3]
 rw [if_neg (by simp [hb]),wrong_of h.e0]
 refine ⟨Or.inr ⟨by simp,h.nn,⟨h.lv,?_,h.le,by simp⟩⟩,fun h=>by simp at h⟩
 show (M s (t.p+1)).st+2=2
 simp only [M]
 have h256:bt s t.p≠256:=by have:=bt_in hp; omega
 rw [h.ac,nx3 h256]
 simp [gSegment,cS,h46,hb,norm]
theorem dot_br {s:List UInt8} {c:Nat} {acc:List UInt8} {t:St} (h:Dot s c 5 acc t) (h91:sees s t 91=true) :
 Ok s (t.p+1) (c+1) 6 [] 0 (must s t [91])∧T s (t.p+1)=acc++[91]∧must s t [91]=adv t:=by
 have e:must s t [91]=adv t:=by show must1 s t 91=adv t; unfold must1; rw [if_pos h91]
 obtain ⟨_,hb⟩:=sees_e h91
 rw [e]
 refine ⟨Or.inl (br_live h.e0 h.nn hb h.ct (by rw [h.mm,hb]; rfl)),?_,rfl⟩
 simp only [T]
 rw [h.tx,h.mm,hb]; rfl
theorem sel_comma {s:List UInt8} {q c:Nat} {t:St} (h:Ok s q c 9 [] 0 t) (hb:sees s t 44=true):Ok s q (c+1) 6 [] 0 (adv t):=by
 obtain ⟨he,hb⟩:=sees_e hb
 have h:=h.live he
 have hp:=bt_lt (s:=s) (p:=t.p) (by omega)
 have hnx:nx (M s t.p) (bt s t.p)=cS 6 []:=by rw [h.ac,hb]; rfl
 have hM:M s (t.p+1)=cS 6 []:=by simp only [M]; exact hnx
 refine Or.inl ⟨h.e0,h.nn,hp,by have:=h.ge; simp [adv]; omega,?_,?_,?_,?_,?_⟩
 ·show T s (t.p+1)=T s q++sub s q (t.p+1)
  simp only [T]
  rw [h.tx,out_inB h.br,sub_snoc h.ge (by omega),List.append_assoc]
 ·show C s (t.p+1)=c+1
  simp only [C]
  have:inc (M s t.p) (bt s t.p)=1:=by unfold inc; rw [hnx,if_pos (by simp [cS])]
  rw [this,h.ct]
 ·show inB (M s (t.p+1))=true
  rw [hM]; rfl
 ·show 2≤(M s (t.p+1)).st
  rw [hM]; simp [cS]
 show nx (M s (t.p+1)) _=_
 rw [hM]
theorem sel_close {s:List UInt8} {q c:Nat} {t:St} (h:Ok s q c 9 [] 0 t) (hb:sees s t 44=false):OkB s c (T s q++sub s q (must s t [93]).p) (must s t [93]):=by
 have e:must s t [93]=must1 s t 93:=rfl
 rw [e]
 rcases h with h | h
 ·unfold must1
  rw [sees_live h.e0] at hb ⊢
  simp only [beq_eq_false_iff_ne,ne_eq] at hb
  by_cases h93:bt s t.p=93
  ·rw [if_pos (by simp [h93])]
   have hp:=bt_lt (s:=s) (p:=t.p) (by omega)
   have hnx:nx (M s t.p) (bt s t.p)=cS 3 []:=by rw [h.ac,h93]; rfl
   have hM:M s (t.p+1)=cS 3 []:=by simp only [M]; exact hnx
   refine Or.inl ⟨h.e0,h.nn,hp,?_,?_,?_,Or.inl ⟨?_,?_⟩⟩
   ·show 2≤(M s (t.p+1)).st
    rw [hM]; simp [cS]
   ·show nx (M s (t.p+1)) _=_
    rw [hM]
   ·show C s (t.p+1)=c
    simp only [C]
    rw [inc_inB h.br (by rw [hnx]; simp [cS]),h.ct]; rfl
   ·show (M s (t.p+1)).st=3
    rw [hM]; rfl
   show T s (t.p+1)=T s q++sub s q (t.p+1)
   simp only [T]
   rw [h.tx,out_inB h.br,sub_snoc h.ge (by omega),List.append_assoc]
  rw [if_neg (by simp [h93]),wrong_of h.e0]
  refine Or.inr (h.bad 0 (by omega) ?_)
  by_cases h256:bt s t.p=256
  ·rw [h256]; exact nx_end (by omega) (by omega) (by omega)
  rw [nx789 (by omega) h256]
  simp [gSelEnd,cS,hb,h93,norm]
 rw [must1_bad _ h]; exact Or.inr h
end Tr
namespace Tr
def FinP (s:List UInt8):Prop:=(M s (s.length+1)).st=26
theorem fin_up {s:List UInt8} (h:FinP s) {i:Nat} (hi:i≤s.length+1):2≤(M s i).st:=by
 rcases Nat.lt_or_ge (M s i).st 2 with h1 | h1
 ·have:=absorb s i (by omega) (s.length+1) hi
  unfold FinP at h; omega
 exact h1
theorem fin_bad {s:List UInt8} (h:FinP s) {n:Nat} {t:St} (hb:Bad s n t):False:=by
 have h1:=fin_up h (i:=t.p+1) (by have:=hb.er.le; omega)
 have h2:=hb.er.st
 have h3:=hb.er.e3
 have h4:=hb.ne
 omega
theorem fin_live {s:List UInt8} (h:FinP s) {q c X n:Nat} {o:List UInt8} {t:St} (k:Ok s q c X o n t):Live s q c X o n t:=k.resolve_right (fun b=>fin_bad h b)
theorem fin_nx {s:List UInt8} (h:FinP s) {q c X n:Nat} {o:List UInt8} {t:St} (k:Live s q c X o n t):2≤(nx (cS X o) (bt s t.p)).st:=by
 rw [← k.ac]
 exact fin_up h (i:=t.p+1) (by have:=k.le; omega)
theorem nodig_low {X b:Nat} {o:List UInt8} (hX:X=7∨X=9∨X=14∨X=18) (hb:isDig b=true):(nx (cS X o) b).st=0:=by
 simp only [isDig,Bool.and_eq_true,decide_eq_true_eq] at hb
 rw [nx_low (by omega) (by omega) (by omega)]
 have e:∀k,b≠k∨(48≤k∧k≤57):=fun k=>by omega
 rcases hX with rfl | rfl | rfl | rfl
 ·simp [gBetween,cS,gSelEnd,norm,show b≠44 by omega,show b≠93 by omega,show b≠58 by omega]
 ·simp [gBetween,cS,gSelEnd,norm,show b≠44 by omega,show b≠93 by omega,show b≠58 by omega]
 ·simp [gBetween,cS,gWithin,norm,show b≠93 by omega]
 simp only [gBetween,cS,gPartEnd]
 simp [gSelEnd,norm,show b≠44 by omega,show b≠93 by omega,show b≠58 by omega,show b≠38 by omega,show b≠124 by omega,show b≠41 by omega]
theorem fin_nodig {s:List UInt8} (h:FinP s) {q c X n:Nat} {o:List UInt8} {t:St} (k:Live s q c X o n t) (hX:X=7∨X=9∨X=14∨X=18):isDig (bt s t.p)=false:=by
 cases hb:isDig (bt s t.p) with
 | false=>rfl
 | true =>
  have:=fin_nx h k
  rw [nodig_low hX hb] at this
  omega
theorem nolet_low {b:Nat} {o:List UInt8} (hb:isLet b=true):(nx (cS 11 o) b).st=0:=by
 simp only [isLet,Bool.and_eq_true,decide_eq_true_eq] at hb
 rw [nx_low (by omega) (by omega) (by omega)]
 simp only [gBetween,cS,gStepEnd,gPartEnd]
 simp [gSelEnd,norm,show b≠44 by omega,show b≠93 by omega,show b≠58 by omega,show b≠38 by omega,show b≠41 by omega,show b≠46 by omega,show b≠91 by omega,show b≠61 by omega,show b≠33 by omega,show b≠60 by omega,show b≠124 by omega]
theorem fin_nolet {s:List UInt8} (h:FinP s) {q c n:Nat} {o:List UInt8} {t:St} (k:Live s q c 11 o n t):isLet (bt s t.p)=false:=by
 cases hb:isLet (bt s t.p) with
 | false=>rfl
 | true =>
  have:=fin_nx h k
  rw [nolet_low hb] at this
  omega
theorem run_eq {ok:Nat→Bool} {s:List UInt8} {K a k:Nat} (hge:a≤k) (hall:∀i,a≤i→i<k→ok (bt s i)=true) (hstop:ok (bt s k)=false) (hr:ok (bt s (run ok s K a))=false):run ok s K a=k:=by
 have h1:=run_ge ok s K a
 rcases Nat.lt_trichotomy (run ok s K a) k with h | h | h
 ·rw [hall _ h1 h] at hr; cases hr
 ·exact h
 rw [run_ok ok s K a k hge h] at hstop; cases hstop
def pfx (s:List UInt8):List Nat→Nat→Bool
 | [],_=>true
 | b::l,a=>bt s a == b && pfx s l (a+1)
theorem must1_e {s:List UInt8} {t:St} {b:Nat} (h:(must1 s t b).e=0):sees s t b=true∧must1 s t b=adv t:=by
 unfold must1 at h ⊢
 by_cases hs:sees s t b=true
 ·rw [if_pos hs]; exact ⟨hs,rfl⟩
 rw [if_neg hs] at h
 exfalso
 unfold wrong at h
 split at h
 ·cases h
 contradiction
theorem must_e {s:List UInt8}:∀{l:List Nat} {t:St},(must s t l).e=0→t.e=0∧pfx s l t.p=true∧must s t l={ t with p:=t.p+l.length }
 | [],t,h=>⟨h,rfl,rfl⟩
 | b::l,t,h=>by
  have e:must s t (b::l)=must s (must1 s t b) l:=rfl
  rw [e] at h ⊢
  obtain ⟨h1,h2,h3⟩:=must_e h
  obtain ⟨h4,h5⟩:=must1_e h1
  rw [h5] at h2 h3
  have h6:t.e=0∧bt s t.p=b:=sees_e h4
  refine ⟨h6.1,?_,?_⟩
  ·simp only [pfx,h6.2,beq_self_eq_true,Bool.true_and]; exact h2
  rw [h5,h3]; simp [adv,Nat.add_assoc,Nat.add_comm 1]
end Tr
namespace Tr
theorem bnd_next {s:List UInt8} (hf:FinP s) {c:Nat} {acc:List UInt8} {t:St} (h:Bnd s c acc t):bt s t.p=46∨bt s t.p=91∨bt s t.p=256:=by
 have h1:2≤(M s (t.p+1)).st:=fin_up hf (by have:=h.le; omega)
 simp only [M] at h1
 rw [h.ac] at h1
 by_cases h256:bt s t.p=256
 ·exact Or.inr (Or.inr h256)
 rw [nx3 h256] at h1
 by_cases h46:bt s t.p=46
 ·exact Or.inl h46
 by_cases h91:bt s t.p=91
 ·exact Or.inr (Or.inl h91)
 simp [gSegment,cS,h46,h91,norm] at h1
theorem bnd_nolet {s:List UInt8} (hf:FinP s) {c:Nat} {acc:List UInt8} {t:St} (h:Bnd s c acc t):isLet (bt s t.p)=false:=by
 rcases bnd_next hf h with e | e | e<;>rw [e]<;>rfl
theorem dot5_no {s:List UInt8} (hf:FinP s) {c:Nat} {acc:List UInt8} {t:St} (h:Dot s c 5 acc t):sees s t 46=false:=by
 rw [sees_live h.e0]
 by_cases hb:bt s t.p=46
 ·exfalso
  have h1:2≤(M s (t.p+1)).st:=fin_up hf (by have:=h.le; omega)
  simp only [M] at h1
  rw [h.mm,hb] at h1
  exact absurd h1 (by decide)
 simpa using hb
theorem out_len (m:G) (b:Nat):(out m b).length≤3:=by
 unfold out
 repeat' split
 all_goals simp
theorem T_len (s:List UInt8):∀i,(T s i).length≤3 * i
 | 0=>Nat.le_refl _
 | i+1=>by
  have:=T_len s i
  have:=out_len (M s i) (bt s i)
  simp only [T,List.length_append]
  omega
theorem Bnd.len {s:List UInt8} {c:Nat} {acc:List UInt8} {t:St} (h:Bnd s c acc t):acc.length≤3 * t.p+2:=by
 have:=T_len s t.p
 rcases h.ty with ⟨_,h2⟩ | ⟨_,_,_,h4⟩
 ·rw [← h2]; omega
 rw [← h4]; simp; omega
theorem sub_cons {s:List UInt8} {p p':Nat} {b:UInt8} (hb:bt s p=b.toNat) (h:p<p'):sub s p p'=b::sub s (p+1) p':=by
 have hb2:bt s p<256:=by have:=b.toNat_lt; omega
 rw [sub_trans (b:=p+1) (by omega) (by omega),sub_snoc (Nat.le_refl _) hb2,sub_self,hb]
 simp
theorem T_pos (s:List UInt8):∀i,0<i→0<(T s i).length
 | 0,h=>absurd h (by decide)
 | 1,_=>by simp [T,M,out,g0]
 | i+2,_=>by
  have:=T_pos s (i+1) (by omega)
  rw [T,List.length_append]
  omega
theorem Bnd.ne {s:List UInt8} {c:Nat} {acc:List UInt8} {t:St} (h:Bnd s c acc t) (hp:0<t.p):acc≠[]:=by
 have h1:=T_pos s t.p hp
 intro e
 rcases h.ty with ⟨_,h2⟩ | ⟨_,_,_,h4⟩
 ·rw [h2,e] at h1; simp at h1
 rw [e] at h4; simp at h4
end Tr
