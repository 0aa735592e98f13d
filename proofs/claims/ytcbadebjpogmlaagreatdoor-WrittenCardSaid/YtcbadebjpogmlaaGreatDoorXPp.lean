import Derived.Test.YtcbadebjpogmlaaGreatDoorPBase
namespace Tr
theorem bt_le (s:List UInt8) (p:Nat):bt s p≤256:=by
 unfold bt; split
 ·rename_i c _; have:=c.toNat_lt; omega
 omega
def Ag (s:List UInt8) (a:Nat) (u:List UInt8) (b n:Nat):Prop:=∀j,j≤n→bt u (b+j)=bt s (a+j)
theorem Ag.part {s u:List UInt8} {a b n:Nat} (h:Ag s a u b n) (i m:Nat) (hi:i+m≤n):Ag s (a+i) u (b+i) m:=fun j hj=>by
 have:=h (i+j) (by omega)
 rw [Nat.add_assoc,Nat.add_assoc]; exact this
theorem Ag.less {s u:List UInt8} {a b n m:Nat} (h:Ag s a u b n) (hm:m≤n):Ag s a u b m:=fun j hj=>h j (by omega)
theorem Ag.z {s u:List UInt8} {a b n:Nat} (h:Ag s a u b n):bt u b=bt s a:=h 0 (by omega)
theorem Ag.self (s:List UInt8) (a n:Nat):Ag s a s a n:=fun _ _=>rfl
structure RunS (ok:Nat→Bool) (s:List UInt8) (a n:Nat):Prop where
 all:∀j,j<n→ok (bt s (a+j))=true
 stop:ok (bt s (a+n))=false
theorem RunS.ag {ok:Nat→Bool} (h256:ok 256=false) {s:List UInt8} {a n:Nat} (h:RunS ok s a n) {u:List UInt8} {b:Nat} (g:Ag s a u b n):rEnd ok u b=b+n:=by
 refine run_eq (by omega) (fun i h1 h2=>?_) (by rw [g n (by omega)]; exact h.stop) (rEnd_stop ok u b h256)
 have:=g (i - b) (by omega)
 rw [show b+(i - b)=i by omega] at this
 rw [this]; exact h.all _ (by omega)
theorem sub_ag {s u:List UInt8} {a b:Nat}:∀{n m:Nat},Ag s a u b n→m≤n+1→(∀j,j<m→bt s (a+j)<256)→sub u b (b+m)=sub s a (a+m)
 | _,0,_,_,_=>by rw [Nat.add_zero,Nat.add_zero,sub_self,sub_self]
 | n,m+1,h,hm,hb=>by
  have e:=h m (by omega)
  have hb1:=hb m (by omega)
  rw [← Nat.add_assoc,← Nat.add_assoc,sub_snoc (by omega) (by rw [e]; exact hb1),sub_snoc (by omega) hb1,e,sub_ag h (by omega) (fun j hj=>hb j (by omega))]
theorem cVal_ag {s u:List UInt8} {a b n m:Nat} (h:Ag s a u b n) (hm:m≤n+1):cVal u b (b+m)=cVal s a (a+m):=by
 unfold cVal
 rw [show b+m - b=m by omega,show a+m - a=m by omega]
 have:∀k,k≤m→dvT u b k=dvT s a k:=fun k=>by
  induction k with
  | zero=>intro _; rfl
  | succ k ih =>
   intro hk
   rw [dvT,dvT,ih (by omega),h k (by omega)]
 exact this m (Nat.le_refl _)
theorem run_S {ok:Nat→Bool} {s:List UInt8} {K a:Nat} (hs:ok (bt s (run ok s K a))=false):∃n,run ok s K a=a+n∧RunS ok s a n:=by
 have h1:=run_ge ok s K a
 refine ⟨run ok s K a - a,by omega,fun j hj=>run_ok ok s K a (a+j) (by omega) (by omega),?_⟩
 rw [show a+(run ok s K a - a)=run ok s K a by omega]; exact hs
abbrev tP (t:St) (m:Nat):St:={ t with p:=t.p+m }
theorem w_word {s:List UInt8} (hf:FinP s) {q c n:Nat} {o:List UInt8} {t:St} (h:Live s q c 12 o n t):∃m,Live s q c 11 o n (tP t m)∧RunS isLet s t.p m:=by
 have L:=fin_live hf (ok_stepWord (Or.inl h))
 have e0:=L.e0
 unfold wordP at L e0
 rw [if_pos h.e0] at L e0
 by_cases hr:run isLet s 8 t.p=t.p
 ·rw [if_pos hr] at e0; cases e0
 rw [if_neg hr] at L
 have:=fin_nolet hf L
 obtain ⟨m,e,R⟩:=run_S this
 rw [e] at L
 exact ⟨m,L,R⟩
theorem countQ_S {s:List UInt8} {t:St} {mi:Bool} (he:(countQ s t mi).e=0):t.e=0∧∃m,countQ s t mi=tP t m∧0<m∧∀j,j<m→isDig (bt s (t.p+j))=true:=by
 have t0:t.e=0:=by
  unfold countQ at he
  split at he
  ·unfold wrong at he
   split at he
   ·cases he
   exact he
  split at he
  ·exact he
  unfold runP at he
  split at he
  ·assumption
  exact he
 refine ⟨t0,?_⟩
 unfold countQ at he ⊢
 split at he
 ·rw [wrong_of t0] at he; cases he
 rename_i c1
 rw [if_neg c1]
 have hd:isDig (bt s t.p)=true:=by
  have:digit s t=true:=by
   by_cases y:digit s t=true
   ·exact y
   exact absurd (Or.inl (by simpa using y)) c1
  simpa [digit,t0] using this
 split at he
 ·rename_i c2
  rw [if_pos c2]
  refine ⟨1,rfl,by omega,fun j hj=>?_⟩
  rw [show j=0 by omega]; exact hd
 rename_i c2
 rw [if_neg c2]
 unfold runP
 rw [if_pos t0]
 have h1:=run_ge isDig s 3 t.p
 have h2:t.p<run isDig s 3 t.p:=by
  rw [run,if_pos hd]
  exact Nat.lt_of_lt_of_le (Nat.lt_succ_self _) (run_ge isDig s 2 (t.p+1))
 refine ⟨run isDig s 3 t.p - t.p,?_,by omega,fun j hj=>run_ok isDig s 3 t.p (t.p+j) (by omega) (by omega)⟩
 show _=St.mk (t.p+(run isDig s 3 t.p - t.p)) t.e t.n
 rw [show t.p+(run isDig s 3 t.p - t.p)=run isDig s 3 t.p by omega]
theorem countP_S {s:List UInt8} {t:St} (he:(countP s t true).e=0) (ht:t.e=0):(bt s t.p=45∧∃m,countP s t true=tP t (1+m)∧∀j,j<m→isDig (bt s (t.p+1+j))=true)∨(bt s t.p≠45∧∃m,countP s t true=tP t m∧∀j,j<m→isDig (bt s (t.p+j))=true):=by
 unfold countP at he ⊢
 unfold minusP has at he ⊢
 rw [if_pos rfl] at he ⊢
 rw [sees_live ht] at he ⊢
 by_cases h45:bt s t.p=45
 ·rw [if_pos (by simpa using h45)] at he ⊢
  obtain ⟨_,m,h1,_,h2⟩:=countQ_S he
  refine Or.inl ⟨h45,m,?_,h2⟩
  rw [h1]
  show St.mk (t.p+1+m) t.e t.n=St.mk (t.p+(1+m)) t.e t.n
  rw [Nat.add_assoc]
 rw [if_neg (by simpa using h45)] at he ⊢
 obtain ⟨_,m,h1,_,h2⟩:=countQ_S he
 exact Or.inr ⟨h45,m,h1,h2⟩
theorem dig256:isDig 256=false:=rfl
theorem let256:isLet 256=false:=rfl
theorem quo256:isQuo 256=false:=rfl
theorem w_steps {s:List UInt8} (hf:FinP s):∀(k:Nat) {q c n:Nat} {o:List UInt8} {t:St},Live s q c 11 o n t→s.length - t.p≤k→∃m l,Live s q c 11 o n (tP t m)∧(bt s (t.p+m)≠46∧bt s (t.p+m)≠91)∧∀u b N acc,Ag s t.p u b m→m<N→pSteps u N b acc=⟨acc++l,b+m⟩
 | k,q,c,n,o,t,h,hk=>by
  by_cases h46:bt s t.p=46
  ·have hs:sees s t 46=true:=by rw [sees_live h.e0]; simpa using h46
   have hlt:t.p<s.length:=bt_lt (by omega)
   have L1:Live s q c 12 o n (adv t):=h.go 46 12 o h46 (by omega) (by rw [nx_low (by omega) (by omega) (by omega)]; simp [gBetween,gStepEnd,cS,norm]) (by simp [inB,cS]) (by omega) (by omega)
   obtain ⟨m1,L2,R⟩:=w_word hf L1
   have le:=L2.le
   cases k with
   | zero=>omega
   | succ k =>
    obtain ⟨m2,l,L3,B,P⟩:=w_steps hf k L2 (by simp only [adv]; omega)
    have e1:(tP (tP (adv t) m1) m2)=tP t (1+m1+m2):=by
     show St.mk (t.p+1+m1+m2) t.e t.n=St.mk (t.p+(1+m1+m2)) t.e t.n
     congr 1; omega
    have e2:(tP (adv t) m1).p+m2=t.p+(1+m1+m2):=by simp only [adv]; omega
    rw [e1] at L3
    rw [e2] at B
    refine ⟨1+m1+m2,[⟨true,sub s (t.p+1) (t.p+1+m1),0⟩]++l,L3,B,fun u b N acc g hN=>?_⟩
    obtain ⟨N,rfl⟩:∃N',N=N'+1:=⟨N - 1,by omega⟩
    have g1:Ag s (t.p+1) u (b+1) m1:=g.part 1 m1 (by omega)
    have r1:rEnd isLet u (b+1)=b+1+m1:=R.ag let256 g1
    rw [pSteps,if_pos (by rw [g.z]; exact h46),r1,P u (b+1+m1) N _ (by
     have:=g.part (1+m1) m2 (by omega)
     rw [← Nat.add_assoc,← Nat.add_assoc] at this
     exact this) (by omega),sub_ag g1 (by omega) (fun j hj=>isLet_lt (R.all j hj)),List.append_assoc,show b+1+m1+m2=b+(1+m1+m2) by omega]
  by_cases h91:bt s t.p=91
  ·have hs:sees s t 91=true:=by rw [sees_live h.e0]; simpa using h91
   have hlt:t.p<s.length:=bt_lt (by omega)
   have L1:=fin_live hf (ok_idx (Or.inl h) hs)
   obtain ⟨s93,e93⟩:=must1_e L1.e0
   obtain ⟨ce,b93⟩:=sees_e s93
   rw [e93] at L1
   cases k with
   | zero=>omega
   | succ k =>
    rcases countP_S ce (show (adv t).e=0 from h.e0) with ⟨h45,m1,ec,D⟩ | ⟨h45,m1,ec,D⟩
    ·rw [ec] at L1 b93
     have ea:adv (tP (adv t) (1+m1))=tP t (2+m1+1):=by
      show St.mk (t.p+1+(1+m1)+1) t.e t.n=St.mk (t.p+(2+m1+1)) t.e t.n
      congr 1; omega
     rw [ea] at L1
     have le:=L1.le
     have b93:bt s (t.p+2+m1)=93:=by rw [← b93]; simp only [adv]; congr 1; omega
     have R:RunS isDig s (t.p+2) m1:=⟨D,by rw [b93]; rfl⟩
     obtain ⟨m2,l,L3,B,P⟩:=w_steps hf k L1 (by simp only; omega)
     have e1:(tP (tP t (2+m1+1)) m2)=tP t (3+m1+m2):=by
      show St.mk (t.p+(2+m1+1)+m2) t.e t.n=St.mk (t.p+(3+m1+m2)) t.e t.n
      congr 1; omega
     have e2:(tP t (2+m1+1)).p+m2=t.p+(3+m1+m2):=by simp only; omega
     rw [e1] at L3
     rw [e2] at B
     refine ⟨3+m1+m2,[⟨false,[],-(cVal s (t.p+2) (t.p+2+m1):Int)⟩]++l,L3,B,fun u b N acc g hN=>?_⟩
     obtain ⟨N,rfl⟩:∃N',N=N'+1:=⟨N - 1,by omega⟩
     have g1:Ag s (t.p+2) u (b+2) m1:=g.part 2 m1 (by omega)
     have r1:rEnd isDig u (b+2)=b+2+m1:=R.ag dig256 g1
     rw [pSteps,if_neg (by rw [g.z]; omega),if_pos (by rw [g.z]; exact h91),if_pos (by rw [g 1 (by omega)]; exact h45),r1,P u (b+2+m1+1) N _ (by
      have:=g.part (2+m1+1) m2 (by omega)
      rw [show b+(2+m1+1)=b+2+m1+1 by omega] at this
      exact this) (by omega),cVal_ag g1 (by omega),List.append_assoc,show b+2+m1+1+m2=b+(3+m1+m2) by omega]
    rw [ec] at L1 b93
    have ea:adv (tP (adv t) m1)=tP t (1+m1+1):=by
     show St.mk (t.p+1+m1+1) t.e t.n=St.mk (t.p+(1+m1+1)) t.e t.n
     congr 1; omega
    rw [ea] at L1
    have le:=L1.le
    have b93:bt s (t.p+1+m1)=93:=b93
    have R:RunS isDig s (t.p+1) m1:=⟨D,by rw [b93]; rfl⟩
    obtain ⟨m2,l,L3,B,P⟩:=w_steps hf k L1 (by simp only; omega)
    have e1:(tP (tP t (1+m1+1)) m2)=tP t (2+m1+m2):=by
     show St.mk (t.p+(1+m1+1)+m2) t.e t.n=St.mk (t.p+(2+m1+m2)) t.e t.n
     congr 1; omega
    have e2:(tP t (1+m1+1)).p+m2=t.p+(2+m1+m2):=by simp only; omega
    rw [e1] at L3
    rw [e2] at B
    refine ⟨2+m1+m2,[⟨false,[],(cVal s (t.p+1) (t.p+1+m1):Int)⟩]++l,L3,B,fun u b N acc g hN=>?_⟩
    obtain ⟨N,rfl⟩:∃N',N=N'+1:=⟨N - 1,by omega⟩
    have g1:Ag s (t.p+1) u (b+1) m1:=g.part 1 m1 (by omega)
    have r1:rEnd isDig u (b+1)=b+1+m1:=R.ag dig256 g1
    rw [pSteps,if_neg (by rw [g.z]; omega),if_pos (by rw [g.z]; exact h91),if_neg (by rw [g 1 (by omega)]; exact h45),r1,P u (b+1+m1+1) N _ (by
     have:=g.part (1+m1+1) m2 (by omega)
     rw [show b+(1+m1+1)=b+1+m1+1 by omega] at this
     exact this) (by omega),cVal_ag g1 (by omega),List.append_assoc,show b+1+m1+1+m2=b+(2+m1+m2) by omega]
  refine ⟨0,[],h,⟨h46,h91⟩,fun u b N acc g hN=>?_⟩
  obtain ⟨N,rfl⟩:∃N',N=N'+1:=⟨N - 1,by omega⟩
  rw [pSteps,if_neg (by rw [g.z]; exact h46),if_neg (by rw [g.z]; exact h91),List.append_nil,Nat.add_zero]
end Tr
namespace Tr
theorem Live.lt_u {s:List UInt8} {q c X n:Nat} {o:List UInt8} {t:St} {m:Nat} (h:Live s q c X o n (tP t m)) {u:List UInt8} {b k:Nat} (g:Ag s t.p u b k) (hk:m≤k):m≤u.length - b:=by
 cases m with
 | zero=>omega
 | succ m =>
  have le:=h.le
  have e:=g m (by omega)
  have:bt s (t.p+m)<256:=bt_in (by simp only at le; omega)
  have:=bt_lt (s:=u) (p:=b+m) (by omega)
  omega
theorem quote_S {s:List UInt8} {t:St} (ht:t.e=0) (he:(quoteP s t).e=0):bt s t.p=39∧∃m,quoteP s t=tP t (m+2)∧bt s (t.p+1+m)=39∧RunS isQuo s (t.p+1) m:=by
 unfold quoteP at he ⊢
 obtain ⟨h1,h2⟩:=must1_e he
 obtain ⟨e1,b1⟩:=sees_e h1
 have e0:(must1 s t 39).e=0:=by
  unfold runP at e1
  split at e1
  ·assumption
  exact e1
 obtain ⟨h3,h4⟩:=must1_e e0
 obtain ⟨_,b3⟩:=sees_e h3
 refine ⟨b3,?_⟩
 rw [h2,h4]
 rw [h4] at b1
 unfold runP at b1 ⊢
 rw [if_pos (show (adv t).e=0 from ht)] at b1 ⊢
 have b1:bt s (run isQuo s 8 (t.p+1))=39:=b1
 obtain ⟨m,em,R⟩:=run_S (ok:=isQuo) (s:=s) (K:=8) (a:=t.p+1) (by rw [b1]; rfl)
 refine ⟨m,?_,by rw [← em]; exact b1,R⟩
 show St.mk (run isQuo s 8 (t.p+1)+1) t.e t.n=St.mk (t.p+(m+2)) t.e t.n
 rw [em]
 congr 1
 omega
theorem nxw (o:List UInt8):nx (cS 17 o) 116=⟨24,18,0,[114,117,101],o⟩∧nx (cS 17 o) 102=⟨24,18,0,[97,108,115,101],o⟩∧nx (cS 17 o) 110=⟨24,18,0,[117,108,108],o⟩:=by
 refine ⟨?_,?_,?_⟩<;>(rw [nx17 (by omega)]; simp [gConst,gNamed,cS,norm])
theorem w_const {s:List UInt8} (hf:FinP s) {q c n:Nat} {o:List UInt8} {t:St} (h:Live s q c 17 o n t):∃m kt,Live s q c 18 o n (tP t m)∧∀u b,Ag s t.p u b m→pConst u b=⟨kt,b+m⟩:=by
 have e0:=h.e0
 by_cases h1:bt s t.p=116
 ·have L:=fin_live hf (ok_cword 116 114 [117,101] (Or.inl h) (by rw [sees_live e0]; simpa using h1) (nxw o).1)
  obtain ⟨_,_,e⟩:=must_e L.e0
  rw [e] at L
  exact ⟨4,⟨3,0,wTrue⟩,L,fun u b g=>by unfold pConst; rw [if_pos (by rw [g.z]; exact h1)]⟩
 by_cases h2:bt s t.p=102
 ·have L:=fin_live hf (ok_cword 102 97 [108,115,101] (Or.inl h) (by rw [sees_live e0]; simpa using h2) (nxw o).2.1)
  obtain ⟨_,_,e⟩:=must_e L.e0
  rw [e] at L
  exact ⟨5,⟨3,0,wFalse⟩,L,fun u b g=>by unfold pConst; rw [if_neg (by rw [g.z]; exact h1),if_pos (by rw [g.z]; exact h2)]⟩
 by_cases h3:bt s t.p=110
 ·have L:=fin_live hf (ok_cword 110 117 [108,108] (Or.inl h) (by rw [sees_live e0]; simpa using h3) (nxw o).2.2)
  obtain ⟨_,_,e⟩:=must_e L.e0
  rw [e] at L
  exact ⟨4,⟨3,0,wNull⟩,L,fun u b g=>by unfold pConst; rw [if_neg (by rw [g.z]; exact h1),if_neg (by rw [g.z]; exact h2),if_pos (by rw [g.z]; exact h3)]⟩
 by_cases h4:bt s t.p=39
 ·have L:=fin_live hf (ok_cquote (Or.inl h) (by rw [sees_live e0]; simpa using h4))
  obtain ⟨_,m,em,b39,R⟩:=quote_S e0 L.e0
  rw [em] at L
  refine ⟨m+2,⟨2,0,sub s (t.p+1) (t.p+1+m)⟩,L,fun u b g=>?_⟩
  have g1:Ag s (t.p+1) u (b+1) m:=g.part 1 m (by omega)
  unfold pConst
  rw [if_neg (by rw [g.z]; exact h1),if_neg (by rw [g.z]; exact h2),if_neg (by rw [g.z]; exact h3),if_pos (by rw [g.z]; exact h4),R.ag quo256 g1,sub_ag g1 (by omega) (fun j hj=>isQuo_lt (R.all j hj)),show b+1+m+1=b+(m+2) by omega]
 have L:=fin_live hf (ok_ccount (Or.inl h) (by rw [sees_live e0]; simpa using h4) (by rw [sees_live e0]; simpa using h1) (by rw [sees_live e0]; simpa using h2) (by rw [sees_live e0]; simpa using h3))
 have nd:=fin_nodig hf L (by omega)
 rcases countP_S L.e0 e0 with ⟨h45,m,em,D⟩ | ⟨h45,m,em,D⟩
 ·rw [em] at L nd
  have R:RunS isDig s (t.p+1) m:=⟨D,by rw [show t.p+1+m=t.p+(1+m) by omega]; exact nd⟩
  refine ⟨1+m,⟨1,-(cVal s (t.p+1) (t.p+1+m):Int),[]⟩,L,fun u b g=>?_⟩
  have g1:Ag s (t.p+1) u (b+1) m:=g.part 1 m (by omega)
  unfold pConst
  rw [if_neg (by rw [g.z]; exact h1),if_neg (by rw [g.z]; exact h2),if_neg (by rw [g.z]; exact h3),if_neg (by rw [g.z]; exact h4),if_pos (by rw [g.z]; exact h45),R.ag dig256 g1,cVal_ag g1 (by omega),show b+1+m=b+(1+m) by omega]
 rw [em] at L nd
 have R:RunS isDig s t.p m:=⟨D,nd⟩
 refine ⟨m,⟨1,(cVal s t.p (t.p+m):Int),[]⟩,L,fun u b g=>?_⟩
 unfold pConst
 rw [if_neg (by rw [g.z]; exact h1),if_neg (by rw [g.z]; exact h2),if_neg (by rw [g.z]; exact h3),if_neg (by rw [g.z]; exact h4),if_neg (by rw [g.z]; exact h45),R.ag dig256 g,cVal_ag g (by omega)]
theorem w_op {s:List UInt8} (hf:FinP s) {q c n:Nat} {o:List UInt8} {t:St} (h:Live s q c 11 o n t) (hb:bt s t.p≠46∧bt s t.p≠91):∃m,∃F:List StA→Tv→Bool,Live s q c 18 o n (tP t m)∧∀u b l,Ag s t.p u b m→pOp u l b=⟨F l,b+m⟩:=by
 have e0:=h.e0
 have two:∀{m:Nat} {t':St},t'=tP t 2→tP t' m=tP t (2+m):=fun {m t'} e=>by
  rw [e]
  show St.mk (t.p+2+m) t.e t.n=St.mk (t.p+(2+m)) t.e t.n
  rw [Nat.add_assoc]
 by_cases h1:bt s t.p=61
 ·have L:=fin_live hf (ok_eq 61 (Or.inl rfl) (Or.inl h) (by rw [sees_live e0]; simpa using h1))
  obtain ⟨_,_,e⟩:=must_e L.e0
  rw [e] at L
  obtain ⟨m,kt,L2,P⟩:=w_const hf L
  refine ⟨2+m,fun l t=>sameT kt (leadT t l),by rw [← two rfl]; exact L2,fun u b l g=>?_⟩
  unfold pOp
  rw [if_pos (by rw [g.z]; exact h1),P u (b+2) (g.part 2 m (by omega)),show b+2+m=b+(2+m) by omega]
 by_cases h2:bt s t.p=33
 ·have L:=fin_live hf (ok_eq 33 (Or.inr rfl) (Or.inl h) (by rw [sees_live e0]; simpa using h2))
  obtain ⟨_,_,e⟩:=must_e L.e0
  rw [e] at L
  obtain ⟨m,kt,L2,P⟩:=w_const hf L
  refine ⟨2+m,fun l t=>!(sameT kt (leadT t l)),by rw [← two rfl]; exact L2,fun u b l g=>?_⟩
  unfold pOp
  rw [if_neg (by rw [g.z]; exact h1),if_pos (by rw [g.z]; exact h2),P u (b+2) (g.part 2 m (by omega)),show b+2+m=b+(2+m) by omega]
 by_cases h3:bt s t.p=60
 ·have L:=fin_live hf (ok_less (Or.inl h) (by rw [sees_live e0]; simpa using h3))
  have e1:must s t [60]=adv t:=by show must1 s t 60=adv t; unfold must1; rw [if_pos (by rw [sees_live e0]; simpa using h3)]
  rw [e1] at L
  unfold has at L
  rw [sees_live (show (adv t).e=0 from e0)] at L
  by_cases h4:bt s (t.p+1)=61
  ·rw [if_pos (by simpa [adv] using h4)] at L
   have L':Live s q c 17 o n (tP t 2):=L
   obtain ⟨m,kt,L2,P⟩:=w_const hf L'
   refine ⟨2+m,fun l t=>sameT kt (leadT t l) || lessT kt (leadT t l),by rw [← two rfl]; exact L2,fun u b l g=>?_⟩
   unfold pOp
   rw [if_neg (by rw [g.z]; exact h1),if_neg (by rw [g.z]; exact h2),if_pos (by rw [g.z]; exact h3),if_pos (by rw [g 1 (by omega)]; exact h4),P u (b+2) (g.part 2 m (by omega)),show b+2+m=b+(2+m) by omega]
  rw [if_neg (by simpa [adv] using h4)] at L
  have L':Live s q c 17 o n (tP t 1):=L
  obtain ⟨m,kt,L2,P⟩:=w_const hf L'
  refine ⟨1+m,fun l t=>lessT kt (leadT t l),?_,fun u b l g=>?_⟩
  ·have:tP (tP t 1) m=tP t (1+m):=by
    show St.mk (t.p+1+m) t.e t.n=St.mk (t.p+(1+m)) t.e t.n
    rw [Nat.add_assoc]
   rw [← this]; exact L2
  unfold pOp
  rw [if_neg (by rw [g.z]; exact h1),if_neg (by rw [g.z]; exact h2),if_pos (by rw [g.z]; exact h3),if_neg (by rw [g 1 (by omega)]; exact h4),P u (b+1) (g.part 1 m (by omega)),show b+1+m=b+(1+m) by omega]
 have L:=fin_live hf (ok_bare (Or.inl h) (fun _=>hb) (by rw [sees_live e0]; simpa using h1) (by rw [sees_live e0]; simpa using h2) (by rw [sees_live e0]; simpa using h3))
 refine ⟨0,fun l t=>(leadT t l).isSome,L,fun u b l g=>?_⟩
 unfold pOp
 rw [if_neg (by rw [g.z]; exact h1),if_neg (by rw [g.z]; exact h2),if_neg (by rw [g.z]; exact h3),Nat.add_zero]
theorem w_test {s:List UInt8} (hf:FinP s) {q c n:Nat} {o:List UInt8} {t:St} (h:Live s q c 10 o n t) (h1:bt s t.p≠33) (h2:bt s t.p≠40):∃m φ,0<m∧Live s q c 18 o n (tP t m)∧∀u b,Ag s t.p u b m→pTest u b=⟨φ,b+m⟩:=by
 have e0:=h.e0
 have L:=fin_live hf (ok_at (Or.inl h) (by rw [sees_live e0]; simpa using h1) (by rw [sees_live e0]; simpa using h2))
 obtain ⟨_,_,e⟩:=must_e L.e0
 rw [e] at L
 have L1:Live s q c 11 o n (tP t 1):=L
 obtain ⟨m1,l,L2,B,P1⟩:=w_steps hf (s.length - (t.p+1)) L1 (Nat.le_refl _)
 obtain ⟨m2,F,L3,P2⟩:=w_op hf L2 B
 have e3:tP (tP (tP t 1) m1) m2=tP t (1+m1+m2):=by
  show St.mk (t.p+1+m1+m2) t.e t.n=St.mk (t.p+(1+m1+m2)) t.e t.n
  congr 1; omega
 rw [e3] at L3
 refine ⟨1+m1+m2,F l,by omega,L3,fun u b g=>?_⟩
 have g1:Ag s (t.p+1) u (b+1) m1:=g.part 1 m1 (by omega)
 have g2:Ag s (t.p+1+m1) u (b+1+m1) m2:=by
  have:=g.part (1+m1) m2 (by omega)
  rw [← Nat.add_assoc,← Nat.add_assoc] at this
  exact this
 have lu:=Live.lt_u (t:=tP t 1) L2 g1 (Nat.le_refl _)
 unfold pTest
 rw [P1 u (b+1) (u.length+1) [] g1 (by omega)]
 show pOp u ([]++l) (b+1+m1)=_
 rw [P2 u (b+1+m1) ([]++l) g2,List.nil_append,show b+1+m1+m2=b+(1+m1+m2) by omega]
end Tr
namespace Tr
def P0 (s:List UInt8) (k:Nat):Prop:=∀(q c n:Nat) (o:List UInt8) (t:St),Live s q c 10 o n t→s.length - t.p≤k→∃m φ,0<m∧Live s q c 18 o n (tP t m)∧∀u b N φ0,Ag s t.p u b m→4 * m+1≤N→pC u N 0 b φ0=⟨φ,b+m⟩
theorem tP_add (t:St) (a b:Nat):tP (tP t a) b=tP t (a+b):=by
 show St.mk (t.p+a+b) t.e t.n=St.mk (t.p+(a+b)) t.e t.n
 rw [Nat.add_assoc]
theorem pC0 (u:List UInt8) (N b:Nat) (φ:Tv→Bool):pC u (N+1) 0 b φ=if bt u b=33 then ⟨fun t=>!((pC u N 0 (b+1) φ).v t),(pC u N 0 (b+1) φ).p⟩ else if bt u b=40 then ⟨(pC u N 2 (b+1) φ).v,(pC u N 2 (b+1) φ).p+1⟩ else pTest u b:=by rw [pC]
theorem pC1 (u:List UInt8) (N b:Nat) (φ:Tv→Bool):pC u (N+1) 1 b φ=pC u N 3 (pC u N 0 b φ).p (pC u N 0 b φ).v:=by rw [pC]
theorem pC2 (u:List UInt8) (N b:Nat) (φ:Tv→Bool):pC u (N+1) 2 b φ=pC u N 4 (pC u N 1 b φ).p (pC u N 1 b φ).v:=by rw [pC]
theorem pC3 (u:List UInt8) (N b:Nat) (φ:Tv→Bool):pC u (N+1) 3 b φ=if bt u b=38 then pC u N 3 (pC u N 0 (b+2) φ).p (fun t=>φ t && (pC u N 0 (b+2) φ).v t) else ⟨φ,b⟩:=by rw [pC]
theorem pC4 (u:List UInt8) (N b:Nat) (φ:Tv→Bool):pC u (N+1) 4 b φ=if bt u b=124 then pC u N 4 (pC u N 1 (b+2) φ).p (fun t=>φ t || (pC u N 1 (b+2) φ).v t) else ⟨φ,b⟩:=by rw [pC]
theorem w_and {s:List UInt8} (hf:FinP s) {k:Nat} (H:P0 s k):∀(j:Nat) (q c n:Nat) (o:List UInt8) (t:St),trimR o=o→Live s q c 18 o n t→s.length - t.p≤j→j≤k→∃m,∃F:(Tv→Bool)→Tv→Bool,Live s q c 18 o n (tP t m)∧bt s (t.p+m)≠38∧∀u b N φ0,Ag s t.p u b m→4 * m+1≤N→pC u N 3 b φ0=⟨F φ0,b+m⟩
 | j,q,c,n,o,t,ho,h,hj,hk=>by
  by_cases h38:bt s t.p=38
  ·have hlt:t.p<s.length:=bt_lt (by omega)
   have L:=fin_live hf (ok_and ho (Or.inl h) (by rw [sees_live h.e0]; simpa using h38)).1
   obtain ⟨_,_,e⟩:=must_e L.e0
   rw [e] at L
   have L1:Live s q c 10 o n (tP t 2):=L
   obtain ⟨m0,φ,hm0,L2,P⟩:=H q c n o (tP t 2) L1 (by simp only; omega)
   rw [tP_add] at L2
   have le:=L2.le
   cases j with
   | zero=>omega
   | succ j =>
    obtain ⟨m3,F,L3,B,P3⟩:=w_and hf H j q c n o (tP t (2+m0)) ho L2 (by simp only at le ⊢; omega) (by omega)
    rw [tP_add] at L3
    refine ⟨2+m0+m3,fun φ0=>F (fun t=>φ0 t && φ t),L3,?_,fun u b N φ0 g hN=>?_⟩
    ·have:(tP t (2+m0)).p+m3=t.p+(2+m0+m3):=by simp only; omega
     rw [this] at B; exact B
    obtain ⟨N,rfl⟩:∃N',N=N'+1:=⟨N - 1,by omega⟩
    have g0:Ag s (t.p+2) u (b+2) m0:=g.part 2 m0 (by omega)
    have g3:Ag s (t.p+(2+m0)) u (b+2+m0) m3:=by
     have:=g.part (2+m0) m3 (by omega)
     rw [← Nat.add_assoc b] at this
     exact this
    rw [pC3,if_pos (by rw [g.z]; exact h38),P u (b+2) N φ0 g0 (by omega)]
    show pC u N 3 (b+2+m0) (fun t=>φ0 t && φ t)=_
    rw [P3 u (b+2+m0) N _ g3 (by omega),show b+2+m0+m3=b+(2+m0+m3) by omega]
  refine ⟨0,fun φ0=>φ0,h,h38,fun u b N φ0 g hN=>?_⟩
  obtain ⟨N,rfl⟩:∃N',N=N'+1:=⟨N - 1,by omega⟩
  rw [pC3,if_neg (by rw [g.z]; exact h38),Nat.add_zero]
theorem w_p1 {s:List UInt8} (hf:FinP s) {k:Nat} (H:P0 s k) (q c n:Nat) (o:List UInt8) (t:St) (ho:trimR o=o) (h:Live s q c 10 o n t) (hk:s.length - t.p≤k):∃m φ,0<m∧Live s q c 18 o n (tP t m)∧bt s (t.p+m)≠38∧∀u b N φ0,Ag s t.p u b m→4 * m+2≤N→pC u N 1 b φ0=⟨φ,b+m⟩:=by
 obtain ⟨m0,φ,hm,L,P⟩:=H q c n o t h hk
 obtain ⟨m3,F,L3,B,P3⟩:=w_and hf H k q c n o (tP t m0) ho L (by simp only; omega) (Nat.le_refl _)
 rw [tP_add] at L3
 refine ⟨m0+m3,F φ,by omega,L3,by rw [← Nat.add_assoc]; exact B,fun u b N φ0 g hN=>?_⟩
 obtain ⟨N,rfl⟩:∃N',N=N'+1:=⟨N - 1,by omega⟩
 rw [pC1,P u b N φ0 (g.less (by omega)) (by omega)]
 show pC u N 3 (b+m0) φ=_
 rw [P3 u (b+m0) N φ (g.part m0 m3 (by omega)) (by omega),Nat.add_assoc]
theorem w_or {s:List UInt8} (hf:FinP s) {k:Nat} (H:P0 s k):∀(j:Nat) (q c n:Nat) (o:List UInt8) (t:St),trimR o=o→Live s q c 18 o n t→bt s t.p≠38→s.length - t.p≤j→j≤k→∃m,∃F:(Tv→Bool)→Tv→Bool,Live s q c 18 o n (tP t m)∧(bt s (t.p+m)≠38∧bt s (t.p+m)≠124)∧∀u b N φ0,Ag s t.p u b m→4 * m+1≤N→pC u N 4 b φ0=⟨F φ0,b+m⟩
 | j,q,c,n,o,t,ho,h,h38,hj,hk=>by
  by_cases h124:bt s t.p=124
  ·have hlt:t.p<s.length:=bt_lt (by omega)
   have L:=fin_live hf (ok_or ho (Or.inl h) (by rw [sees_live h.e0]; simpa using h124)).1
   obtain ⟨_,_,e⟩:=must_e L.e0
   rw [e] at L
   have L1:Live s q c 10 o n (tP t 2):=L
   obtain ⟨m0,φ,hm0,L2,B2,P⟩:=w_p1 hf H q c n o (tP t 2) ho L1 (by simp only; omega)
   rw [tP_add] at L2
   rw [show (tP t 2).p+m0=t.p+(2+m0) by simp only; omega] at B2
   have le:=L2.le
   cases j with
   | zero=>omega
   | succ j =>
    obtain ⟨m3,F,L3,B,P3⟩:=w_or hf H j q c n o (tP t (2+m0)) ho L2 B2 (by simp only at le ⊢; omega) (by omega)
    rw [tP_add] at L3
    refine ⟨2+m0+m3,fun φ0=>F (fun t=>φ0 t || φ t),L3,?_,fun u b N φ0 g hN=>?_⟩
    ·have:(tP t (2+m0)).p+m3=t.p+(2+m0+m3):=by simp only; omega
     rw [this] at B; exact B
    obtain ⟨N,rfl⟩:∃N',N=N'+1:=⟨N - 1,by omega⟩
    have g0:Ag s (t.p+2) u (b+2) m0:=g.part 2 m0 (by omega)
    have g3:Ag s (t.p+(2+m0)) u (b+2+m0) m3:=by
     have:=g.part (2+m0) m3 (by omega)
     rw [← Nat.add_assoc b] at this
     exact this
    rw [pC4,if_pos (by rw [g.z]; exact h124),P u (b+2) N φ0 g0 (by omega)]
    show pC u N 4 (b+2+m0) (fun t=>φ0 t || φ t)=_
    rw [P3 u (b+2+m0) N _ g3 (by omega),show b+2+m0+m3=b+(2+m0+m3) by omega]
  refine ⟨0,fun φ0=>φ0,h,⟨h38,h124⟩,fun u b N φ0 g hN=>?_⟩
  obtain ⟨N,rfl⟩:∃N',N=N'+1:=⟨N - 1,by omega⟩
  rw [pC4,if_neg (by rw [g.z]; exact h124),Nat.add_zero]
theorem w_p2 {s:List UInt8} (hf:FinP s) {k:Nat} (H:P0 s k) (q c n:Nat) (o:List UInt8) (t:St) (ho:trimR o=o) (h:Live s q c 10 o n t) (hk:s.length - t.p≤k):∃m φ,0<m∧Live s q c 18 o n (tP t m)∧(bt s (t.p+m)≠38∧bt s (t.p+m)≠124)∧∀u b N φ0,Ag s t.p u b m→4 * m+3≤N→pC u N 2 b φ0=⟨φ,b+m⟩:=by
 obtain ⟨m0,φ,hm,L,B,P⟩:=w_p1 hf H q c n o t ho h hk
 obtain ⟨m3,F,L3,B3,P3⟩:=w_or hf H k q c n o (tP t m0) ho L B (by simp only; omega) (Nat.le_refl _)
 rw [tP_add] at L3
 refine ⟨m0+m3,F φ,by omega,L3,by rw [← Nat.add_assoc]; exact B3,fun u b N φ0 g hN=>?_⟩
 obtain ⟨N,rfl⟩:∃N',N=N'+1:=⟨N - 1,by omega⟩
 rw [pC2,P u b N φ0 (g.less (by omega)) (by omega)]
 show pC u N 4 (b+m0) φ=_
 rw [P3 u (b+m0) N φ (g.part m0 m3 (by omega)) (by omega),Nat.add_assoc]
theorem w_part {s:List UInt8} (hf:FinP s):∀k,P0 s k
 | k,q,c,n,o,t,h,hk=>by
  have push:∀x:UInt8,x=33∨x=40→bt s t.p=x.toNat→Live s q c 10 (o++[x]) n (tP t 1):=fun x hx hb=>by
   have hs:sees s t x.toNat=true:=by rw [sees_live h.e0]; simpa using hb
   by_cases ho:o.length=6
   ·have:=ok_deep x.toNat (by rcases hx with rfl | rfl<;>simp) (Or.inl h) hs ho
    have L:=fin_live hf this
    have:=L.e0
    rw [wrong_of h.e0] at this
    cases this
   exact live_push x hx (Or.inl h) hs ho
  by_cases h33:bt s t.p=33
  ·have hlt:t.p<s.length:=bt_lt (by omega)
   have L:=push 33 (Or.inl rfl) h33
   cases k with
   | zero=>omega
   | succ k =>
    obtain ⟨m,φ,hm,L2,P⟩:=w_part hf k q c n (o++[33]) (tP t 1) L (by simp only; omega)
    have L3:=fin_live hf (ok_unbang (Or.inl L2))
    rw [tP_add] at L3
    refine ⟨1+m,fun t=>!(φ t),by omega,L3,fun u b N φ0 g hN=>?_⟩
    obtain ⟨N,rfl⟩:∃N',N=N'+1:=⟨N - 1,by omega⟩
    rw [pC0,if_pos (by rw [g.z]; exact h33),P u (b+1) N φ0 (g.part 1 m (by omega)) (by omega),Nat.add_assoc]
  by_cases h40:bt s t.p=40
  ·have hlt:t.p<s.length:=bt_lt (by omega)
   have L:=push 40 (Or.inr rfl) h40
   cases k with
   | zero=>omega
   | succ k =>
    obtain ⟨m,φ,hm,L2,B,P⟩:=w_p2 hf (w_part hf k) q c n (o++[40]) (tP t 1) (trimR_open o) L (by simp only; omega)
    have L3:=fin_live hf (ok_close (Or.inl L2) (fun _=>B))
    obtain ⟨_,_,e⟩:=must_e L3.e0
    rw [e] at L3
    have L4:Live s q c 18 o n (tP t (1+m+1)):=by
     have:=L3
     rw [tP_add] at this
     exact this
    refine ⟨1+m+1,φ,by omega,L4,fun u b N φ0 g hN=>?_⟩
    obtain ⟨N,rfl⟩:∃N',N=N'+1:=⟨N - 1,by omega⟩
    rw [pC0,if_neg (by rw [g.z]; exact h33),if_pos (by rw [g.z]; exact h40),P u (b+1) N φ0 (g.part 1 m (by omega)) (by omega),show b+1+m+1=b+(1+m+1) by omega]
  obtain ⟨m,φ,hm,L,P⟩:=w_test hf h h33 h40
  refine ⟨m,φ,hm,L,fun u b N φ0 g hN=>?_⟩
  obtain ⟨N,rfl⟩:∃N',N=N'+1:=⟨N - 1,by omega⟩
  rw [pC0,if_neg (by rw [g.z]; exact h33),if_neg (by rw [g.z]; exact h40),P u b g]
theorem w_sel {s:List UInt8} (hf:FinP s) {q c:Nat} {t:St} (h:Live s q c 6 [] 0 t):∃m x,0<m∧Live s q c 9 [] 0 (tP t m)∧∀u b,Ag s t.p u b m→pSel u b=⟨x,b+m⟩:=by
 have e0:=h.e0
 by_cases h42:bt s t.p=42
 ·have L:=fin_live hf (sel_star (Or.inl h) (by rw [sees_live e0]; simpa using h42))
  refine ⟨1,⟨1,[],0,0,0,fun _=>false⟩,by omega,L,fun u b g=>?_⟩
  unfold pSel
  rw [if_pos (by rw [g.z]; exact h42)]
 by_cases h39:bt s t.p=39
 ·have L:=fin_live hf (sel_quote (Or.inl h) (by rw [sees_live e0]; simpa using h39))
  obtain ⟨_,m,em,b39,R⟩:=quote_S e0 L.e0
  rw [em] at L
  refine ⟨m+2,⟨2,sub s (t.p+1) (t.p+1+m),0,0,0,fun _=>false⟩,by omega,L,fun u b g=>?_⟩
  have g1:Ag s (t.p+1) u (b+1) m:=g.part 1 m (by omega)
  unfold pSel
  rw [if_neg (by rw [g.z]; exact h42),if_pos (by rw [g.z]; exact h39),R.ag quo256 g1,sub_ag g1 (by omega) (fun j hj=>isQuo_lt (R.all j hj)),show b+1+m+1=b+(m+2) by omega]
 by_cases h45:bt s t.p=45
 ·have L:=fin_live hf (sel_minus (Or.inl h) (by rw [sees_live e0]; simpa using h45))
  have nd:=fin_nodig hf L (by omega)
  rcases countP_S L.e0 e0 with ⟨_,m,em,D⟩ | ⟨y,_⟩
  ·rw [em] at L nd
   have R:RunS isDig s (t.p+1) m:=⟨D,by rw [show t.p+1+m=t.p+(1+m) by omega]; exact nd⟩
   refine ⟨1+m,⟨3,[],-(cVal s (t.p+1) (t.p+1+m):Int),0,0,fun _=>false⟩,by omega,L,fun u b g=>?_⟩
   have g1:Ag s (t.p+1) u (b+1) m:=g.part 1 m (by omega)
   unfold pSel
   rw [if_neg (by rw [g.z]; exact h42),if_neg (by rw [g.z]; exact h39),if_pos (by rw [g.z]; exact h45),R.ag dig256 g1,cVal_ag g1 (by omega),show b+1+m=b+(1+m) by omega]
  exact absurd h45 y
 by_cases h63:bt s t.p=63
 ·have L:=fin_live hf (sel_where (Or.inl h) (by rw [sees_live e0]; simpa using h63))
  have L1:Live s q c 10 [] 0 (tP t 1):=L
  obtain ⟨m,φ,hm,L2,B,P⟩:=w_p2 hf (w_part hf (s.length - (t.p+1))) q c 0 [] (tP t 1) trimR_nil L1 (Nat.le_refl _)
  have L3:=fin_live hf (ok_where (Or.inl L2) (fun _=>B))
  rw [tP_add] at L3
  refine ⟨1+m,⟨5,[],0,0,0,φ⟩,by omega,L3,fun u b g=>?_⟩
  have g1:Ag s (t.p+1) u (b+1) m:=g.part 1 m (by omega)
  have lu:=Live.lt_u (t:=tP t 1) L2 g1 (Nat.le_refl _)
  unfold pSel
  rw [if_neg (by rw [g.z]; exact h42),if_neg (by rw [g.z]; exact h39),if_neg (by rw [g.z]; exact h45),if_pos (by rw [g.z]; exact h63),P u (b+1) (4 * u.length+9) _ g1 (by omega),show b+1+m=b+(1+m) by omega]
 have pre:∀u b,bt u b=bt s t.p→pSel u b=(if bt u (rEnd isDig u b)=58 then
  ⟨⟨4,[],0,(cVal u b (rEnd isDig u b):Int),(if rEnd isDig u (rEnd isDig u b+1)=rEnd isDig u b+1 then -1 else (cVal u (rEnd isDig u b+1) (rEnd isDig u (rEnd isDig u b+1)):Int)),fun _=>false⟩,rEnd isDig u (rEnd isDig u b+1)⟩
  else ⟨⟨3,[],(cVal u b (rEnd isDig u b):Int),0,0,fun _=>false⟩,rEnd isDig u b⟩):=fun u b e=>by
  unfold pSel
  rw [if_neg (by rw [e]; exact h42),if_neg (by rw [e]; exact h39),if_neg (by rw [e]; exact h45),if_neg (by rw [e]; exact h63)]
 have colon:∀(m1:Nat) (X:Nat),X=6∨X=7→Live s q c X [] 0 (tP t m1)→bt s (t.p+m1)=58→RunS isDig s t.p m1→∃m x,0<m∧Live s q c 9 [] 0 (tP t m)∧∀u b,Ag s t.p u b m→pSel u b=⟨x,b+m⟩:=fun m1 X hX L1 b58 R1=>by
  have L:=fin_live hf (sel_colon hX (Or.inl L1) (by rw [sees_live L1.e0]; simpa using b58))
  obtain ⟨_,_,e⟩:=must_e L.e0
  rw [e] at L
  have L2:Live s q c 8 [] 0 (tP t (m1+1)):=by
   have:=L
   rw [← tP_add]
   exact this
  by_cases hd:isDig (bt s (t.p+(m1+1)))=true
  ·have L3:=fin_live hf (sel_to (Or.inl L2) (by simp only [digit,e0]; simpa using hd))
   have nd:=fin_nodig hf L3 (by omega)
   unfold countP at L3 nd
   have e3:minusP s (tP t (m1+1)) false=tP t (m1+1):=rfl
   rw [e3] at L3 nd
   obtain ⟨_,m2,em,hm2,D⟩:=countQ_S L3.e0
   rw [em,tP_add] at L3 nd
   have R2:RunS isDig s (t.p+(m1+1)) m2:=⟨D,by rw [Nat.add_assoc]; exact nd⟩
   refine ⟨m1+1+m2,⟨4,[],0,(cVal s t.p (t.p+m1):Int),(cVal s (t.p+(m1+1)) (t.p+(m1+1)+m2):Int),fun _=>false⟩,by omega,L3,fun u b g=>?_⟩
   have g1:Ag s t.p u b m1:=g.less (by omega)
   have g2:Ag s (t.p+(m1+1)) u (b+m1+1) m2:=by
    have:=g.part (m1+1) m2 (by omega)
    rw [← Nat.add_assoc b] at this
    exact this
   rw [pre u b g.z,R1.ag dig256 g1,R2.ag dig256 g2,if_pos (by rw [g m1 (by omega)]; exact b58),if_neg (by omega),cVal_ag g1 (by omega),cVal_ag g2 (by omega),show b+m1+1+m2=b+(m1+1+m2) by omega]
  have L3:=fin_live hf (sel_noto (Or.inl L2) (by simp only [digit,e0]; simpa using hd))
  refine ⟨m1+1,⟨4,[],0,(cVal s t.p (t.p+m1):Int),-1,fun _=>false⟩,by omega,L3,fun u b g=>?_⟩
  have g1:Ag s t.p u b m1:=g.less (by omega)
  have R2:RunS isDig s (t.p+(m1+1)) 0:=⟨fun j hj=>by omega,by rw [Nat.add_zero]; simpa using hd⟩
  have g2:Ag s (t.p+(m1+1)) u (b+m1+1) 0:=by
   have:=g.part (m1+1) 0 (by omega)
   rw [← Nat.add_assoc b] at this
   exact this
  have r2:=R2.ag dig256 g2
  rw [Nat.add_zero] at r2
  rw [pre u b g.z,R1.ag dig256 g1,r2,if_pos (by rw [g m1 (by omega)]; exact b58),if_pos rfl,cVal_ag g1 (by omega),show b+m1+1=b+(m1+1) by omega]
 by_cases h58:bt s t.p=58
 ·exact colon 0 6 (Or.inl rfl) h h58 ⟨fun j hj=>by omega,by rw [Nat.add_zero,h58]; rfl⟩
 have L:=fin_live hf (sel_count (Or.inl h) (by rw [sees_live e0]; simpa using h42) (by rw [sees_live e0]; simpa using h39) (by rw [sees_live e0]; simpa using h63) (by rw [sees_live e0]; simpa using h45) (by rw [sees_live e0]; simpa using h58))
 have nd:=fin_nodig hf L (by omega)
 have hm1:∃m1,0<m1∧countP s t true=tP t m1∧∀j,j<m1→isDig (bt s (t.p+j))=true:=by
  have he:=L.e0
  unfold countP minusP has at he ⊢
  rw [if_pos rfl,sees_live e0,if_neg (by simpa using h45)] at he ⊢
  obtain ⟨_,m,a1,a2,a3⟩:=countQ_S he
  exact ⟨m,a2,a1,a3⟩
 obtain ⟨m1,hp,em,D⟩:=hm1
 rw [em] at L nd
 have R1:RunS isDig s t.p m1:=⟨D,nd⟩
 by_cases b58:bt s (t.p+m1)=58
 ·exact colon m1 7 (Or.inr rfl) L b58 R1
 have L3:=fin_live hf (sel_nocolon (Or.inl L) (by rw [sees_live L.e0]; simpa using b58))
 refine ⟨m1,⟨3,[],(cVal s t.p (t.p+m1):Int),0,0,fun _=>false⟩,hp,L3,fun u b g=>?_⟩
 rw [pre u b g.z,R1.ag dig256 g,if_neg (by rw [g m1 (by omega)]; exact b58),cVal_ag g (by omega)]
end Tr
