import Derived.Test.YtcbadebjpogmlaaGreatDoorXPp
import Derived.Test.YtcbadebjpogmlaaGreatDoorPPh
namespace Tr
theorem pSels_s (u:List UInt8) (N b:Nat) (acc:List Sel):pSels u (N+1) b acc=if bt u (pSel u b).p=44 then pSels u N ((pSel u b).p+1) (acc++[(pSel u b).v]) else ⟨acc++[(pSel u b).v],(pSel u b).p⟩:=by rw [pSels]
theorem w_sels {s:List UInt8} (hf:FinP s):∀(k q c:Nat) (t:St),Live s q c 6 [] 0 t→s.length - t.p≤k→∃m l c',0<m∧Live s q c' 9 [] 0 (tP t m)∧bt s (t.p+m)≠44∧∀u b N acc,Ag s t.p u b m→m≤N→pSels u N b acc=⟨acc++l,b+m⟩
 | k,q,c,t,h,hk=>by
  obtain ⟨m,x,hm,L,P⟩:=w_sel hf h
  have le:=L.le
  by_cases h44:bt s (t.p+m)=44
  ·have lt:t.p+m<s.length:=bt_lt (by omega)
   have L2:=fin_live hf (sel_comma (Or.inl L) (by rw [sees_live L.e0]; simpa using h44))
   have L2:Live s q (c+1) 6 [] 0 (tP t (m+1)):=L2
   cases k with
   | zero=>omega
   | succ k =>
    obtain ⟨m2,l,c',hm2,L3,B,P2⟩:=w_sels hf k q (c+1) (tP t (m+1)) L2 (by simp only; omega)
    rw [tP_add] at L3
    refine ⟨m+1+m2,[x]++l,c',by omega,L3,by rw [← Nat.add_assoc]; exact B,fun u b N acc g hN=>?_⟩
    obtain ⟨N,rfl⟩:∃N',N=N'+1:=⟨N - 1,by omega⟩
    have g2:Ag s (t.p+(m+1)) u (b+m+1) m2:=by
     have:=g.part (m+1) m2 (by omega)
     rw [← Nat.add_assoc b] at this
     exact this
    rw [pSels_s,P u b (g.less (by omega)),if_pos (by rw [g m (by omega)]; exact h44),P2 u (b+m+1) N _ g2 (by omega),List.append_assoc,show b+m+1+m2=b+(m+1+m2) by omega]
  refine ⟨m,[x],c,hm,L,h44,fun u b N acc g hN=>?_⟩
  obtain ⟨N,rfl⟩:∃N',N=N'+1:=⟨N - 1,by omega⟩
  rw [pSels_s,P u b g,if_neg (by rw [g m (by omega)]; exact h44)]
def Std (e:List UInt8) (u:List UInt8) (b:Nat):Prop:=∀j,j<e.length→bt u (b+j)=bt e j
structure BrT (e:List UInt8) (l:List Sel):Prop where
 o:bt e 0=91
 n:0<e.length
 p:∀u b,Std e u b→pBr u b=⟨l,b+e.length⟩
theorem bt_sub {s:List UInt8} {a n j:Nat} (hj:j<n):bt (sub s a (a+n)) j=bt s (a+j):=by
 unfold bt sub
 rw [List.getElem?_take,if_pos (by omega),List.getElem?_drop]
theorem sub_len {s:List UInt8} {a n:Nat} (hn:a+n≤s.length):(sub s a (a+n)).length=n:=by
 unfold sub
 rw [List.length_take,List.length_drop]; omega
theorem w_br {s:List UInt8} (hf:FinP s) {c:Nat} {t:St} (hb:bt s t.p=91) (h:Live s (t.p+1) c 6 [] 0 (tP t 1)):∃m l c',Bnd s c' (T s (t.p+1)++sub s (t.p+1) (t.p+m)) (tP t m)∧1<m∧BrT (sub s t.p (t.p+m)) l∧pBr s t.p=⟨l,t.p+m⟩:=by
 obtain ⟨m,l,c',hm,L,B,P⟩:=w_sels hf (s.length - (t.p+1)) _ _ _ h (Nat.le_refl _)
 rw [tP_add] at L
 have K:=sel_close (Or.inl L) (by rw [sees_live L.e0]; rw [show (tP t 1).p+m=t.p+(1+m) by simp only; omega] at B; simpa using B)
 have K2:Bnd s c' (T s (t.p+1)++sub s (t.p+1) (must s (tP t (1+m)) [93]).p) (must s (tP t (1+m)) [93]):=K.resolve_right (fun y=>fin_bad hf y)
 obtain ⟨_,pf,e⟩:=must_e K2.e0
 have e2:must s (tP t (1+m)) [93]=tP t (m+2):=by
  rw [e]
  show St.mk (t.p+(1+m)+1) t.e t.n=St.mk (t.p+(m+2)) t.e t.n
  congr 1; omega
 rw [e2] at K2
 have le:t.p+(m+2)≤s.length:=K2.le
 have go:∀u b,Ag s t.p u b (m+1)→m≤u.length→pBr u b=⟨l,b+(m+2)⟩:=fun u b g hu=>by
  unfold pBr
  rw [P u (b+1) (u.length+1) [] (g.part 1 m (by omega)) (by omega),List.nil_append,show b+1+m+1=b+(m+2) by omega]
 refine ⟨m+2,l,c',K2,by omega,⟨by rw [bt_sub (by omega)]; exact hb,by rw [sub_len le]; omega,fun u b hs=>?_⟩,go s t.p (Ag.self _ _ _) (by omega)⟩
 rw [sub_len le]
 have g:Ag s t.p u b (m+1):=fun j hj=>by
  rw [hs j (by rw [sub_len le]; omega),bt_sub (by omega)]
 refine go u b g ?_
 have:=Live.lt_u (t:=t) L g (by omega)
 omega
theorem br_star:BrT [91,42,93] [⟨1,[],0,0,0,fun _=>false⟩]:=by
 refine ⟨rfl,by simp,fun u b h=>?_⟩
 have h1:bt u (b+1)=42:=h 1 (by simp)
 have h2:bt u (b+2)=93:=h 2 (by simp)
 have e:pSel u (b+1)=⟨⟨1,[],0,0,0,fun _=>false⟩,b+1+1⟩:=by unfold pSel; rw [if_pos h1]
 unfold pBr
 rw [pSels_s,e,if_neg (by show bt u (b+1+1)≠44; rw [show b+1+1=b+2 by omega,h2]; omega)]
 rfl
theorem br_word {w:List UInt8} (hw:∀x ∈ w,isLet x.toNat=true):BrT ([91,39]++w++[39,93]) [⟨2,w,0,0,0,fun _=>false⟩]:=by
 have el:([91,39]++w++[39,93]).length=w.length+4:=by simp
 refine ⟨rfl,by rw [el]; omega,fun u b h=>?_⟩
 obtain ⟨d,hd⟩:∃d,d=[91,39]++w++[39,93]:=⟨_,rfl⟩
 rw [← hd] at h el ⊢
 have b1:bt d 1=39:=by rw [hd]; rfl
 have bw:∀j,(hj:j<w.length)→bt d (2+j)=w[j].toNat:=fun j hj=>by
  rw [hd]
  unfold bt
  rw [List.append_assoc,List.getElem?_append_right (by simp),List.getElem?_append_left (by simp; omega)]
  simp [hj]
 have be:bt d (2+w.length)=39∧bt d (3+w.length)=93:=by
  rw [hd]
  unfold bt
  constructor
  ·have e:2+w.length - ([91,39]++w).length=0:=by simp; omega
   rw [List.getElem?_append_right (by simp; omega),e]
   simp
  have e:3+w.length - ([91,39]++w).length=1:=by simp; omega
  rw [List.getElem?_append_right (by simp; omega),e]
  simp
 have R:RunS isQuo d 2 w.length:=⟨fun j hj=>by rw [bw j hj]; unfold isQuo; rw [hw _ (List.getElem_mem hj)]; rfl,by rw [be.1]; rfl⟩
 have g:Ag d 0 u b (w.length+3):=fun j hj=>by rw [h j (by omega),Nat.zero_add]
 have g2:Ag d 2 u (b+2) w.length:=g.part 2 w.length (by omega)
 have es:sub d 2 (2+w.length)=w:=by
  rw [hd]; unfold sub
  rw [show 2+w.length - 2=w.length by omega]
  simp
 have e:pSel u (b+1)=⟨⟨2,w,0,0,0,fun _=>false⟩,b+2+w.length+1⟩:=by
  unfold pSel
  have h1:bt u (b+1)=39:=by rw [g 1 (by omega)]; exact b1
  rw [if_neg (by omega),if_pos h1]
  show PS.mk (Sel.mk 2 (sub u (b+2) (rEnd isQuo u (b+2))) 0 0 0 fun _=>false) (rEnd isQuo u (b+2)+1)=_
  rw [R.ag quo256 g2,sub_ag g2 (by omega) (fun j hj=>isQuo_lt (R.all j hj)),es]
 unfold pBr
 rw [pSels_s,e,if_neg (by
  show bt u (b+2+w.length+1)≠44
  rw [show b+2+w.length+1=b+(w.length+3) by omega,g _ (Nat.le_refl _),Nat.zero_add,Nat.add_comm,be.2]; omega)]
 rw [el]
 show PS.mk _ (b+2+w.length+1+1)=_
 rw [show b+2+w.length+1+1=b+(w.length+4) by omega]
 rfl
theorem w_seg {s:List UInt8} (hf:FinP s) {c:Nat} {acc:List UInt8} {t:St} (h:Bnd s c acc t) (hlt:t.p<s.length):∃m x c' d,0<m∧0<d.length∧Bnd s c' (acc++d) (tP t m)∧pSeg s t.p=⟨x,t.p+m⟩∧∀u b,Std d u b→pSeg u b=⟨x,b+d.length⟩:=by
 have e0:=h.e0
 have flat:∀{e:List UInt8} {l:List Sel},BrT e l→∀u b,Std e u b→pSeg u b=⟨⟨false,l⟩,b+e.length⟩:=fun {e l} B u b hs=>by
  unfold pSeg
  rw [if_pos (by have:=hs 0 B.n; rw [Nat.add_zero] at this; rw [this]; exact B.o),B.p u b hs]
 have deep:∀{e:List UInt8} {l:List Sel},BrT e l→∀u b,Std ([46,46]++e) u b→pSeg u b=⟨⟨true,l⟩,b+([46,46]++e).length⟩:=fun {e l} B u b hs=>by
  have h0:bt u b=46:=hs 0 (by simp)
  have h1:bt u (b+1)=46:=hs 1 (by simp)
  have h2:Std e u (b+2):=fun j hj=>by
   have:=hs (2+j) (by simp; omega)
   rw [← Nat.add_assoc] at this
   rw [this]
   unfold bt
   rw [List.getElem?_append_right (by simp)]
   simp
  have h3:bt u (b+2)=91:=by have:=h2 0 B.n; rw [Nat.add_zero] at this; rw [this]; exact B.o
  unfold pSeg
  rw [if_neg (by omega),if_pos h1,if_pos h3,B.p u (b+2) h2]
  show PS.mk _ (b+2+e.length)=PS.mk _ (b+([46,46]++e).length)
  rw [List.length_append,Nat.add_assoc]
  rfl
 rcases bnd_next hf h with h46 | h91 | h256
 ·have D:=seg_dot h (by rw [sees_live e0]; simpa using h46)
  have D1:Dot s c 4 acc (tP t 1):=D
  have word:∀{X:Nat} {acc':List UInt8} {t':St},(X=4∧bt s t'.p≠46)∨(X=5∧bt s t'.p≠91)→Dot s c X acc' t'→∃m e l c',Bnd s c' (acc'++e) (tP t' m)∧BrT e l∧pWord s t'.p=⟨l,t'.p+m⟩:=fun {X acc' t'} hX D=>by
   by_cases h42:bt s t'.p=42
   ·have K:=dot_star (X:=X) (by omega) D (by rw [sees_live D.e0]; simpa using h42)
    exact ⟨1,_,_,_,K.resolve_right (fun y=>fin_bad hf y),br_star,by unfold pWord; rw [if_pos h42]⟩
   have K:=dot_word (X:=X) (by
    rcases hX with ⟨y,z⟩ | ⟨y,z⟩
    ·exact Or.inl ⟨y,by rw [sees_live D.e0]; simpa using z⟩
    exact Or.inr ⟨y,by rw [sees_live D.e0]; simpa using z⟩) D (by rw [sees_live D.e0]; simpa using h42)
   have K:=K.resolve_right (fun y=>fin_bad hf y)
   have ke:=K.e0
   have nl:=bnd_nolet hf K
   unfold wordP at K ke nl
   rw [if_pos D.e0] at K ke nl
   by_cases hr:run isLet s 8 t'.p=t'.p
   ·rw [if_pos hr] at ke; cases ke
   rw [if_neg hr] at K nl
   obtain ⟨m,em,R⟩:=run_S nl
   rw [em] at K
   have le:t'.p+m≤s.length:=K.le
   refine ⟨m,_,_,_,K,br_word (fun x hx=>?_),?_⟩
   ·obtain ⟨j,hj,ej⟩:=List.getElem_of_mem hx
    rw [sub_len le] at hj
    have b1:=bt_sub (s:=s) (a:=t'.p) hj
    have b2:=R.all j hj
    rw [← b1] at b2
    unfold bt at b2
    rw [List.getElem?_eq_getElem (by rw [sub_len le]; exact hj)] at b2
    rw [← ej]; exact b2
   unfold pWord
   rw [if_neg h42,R.ag let256 (Ag.self _ _ _)]
  by_cases hd:bt s (t.p+1)=46
  ·have D2:=dot_dot D1 (by rw [sees_live D1.e0]; simpa using hd)
   have D2:Dot s c 5 (acc++[46,46]) (tP t 2):=D2
   by_cases hb:bt s (t.p+2)=91
   ·obtain ⟨k1,k2,k3⟩:=dot_br D2 (by rw [sees_live D2.e0]; simpa using hb)
    rw [k3] at k1
    obtain ⟨m,l,c',B,hm,E,P⟩:=w_br hf (t:=tP t 2) hb (fin_live hf k1)
    have k2:T s (t.p+2+1)=acc++[46,46]++[91]:=k2
    have B:Bnd s c' (T s (t.p+2+1)++sub s (t.p+2+1) (t.p+2+m)) (tP (tP t 2) m):=B
    have ed:T s (t.p+2+1)++sub s (t.p+2+1) (t.p+2+m)=acc++([46,46]++sub s (t.p+2) (t.p+2+m)):=by
     rw [k2,sub_cons (b:=91) (p:=t.p+2) hb (by omega)]; simp
    rw [ed,tP_add] at B
    refine ⟨2+m,⟨true,l⟩,c',_,by omega,by simp,B,?_,deep E⟩
    unfold pSeg
    rw [if_neg (by omega),if_pos hd,if_pos hb,show pBr s (t.p+2)=⟨l,t.p+2+m⟩ from P,Nat.add_assoc]
   obtain ⟨m,e,l,c',B,E,P⟩:=word (Or.inr ⟨rfl,hb⟩) D2
   rw [List.append_assoc,tP_add] at B
   refine ⟨2+m,⟨true,l⟩,c',_,by omega,by simp,B,?_,deep E⟩
   unfold pSeg
   rw [if_neg (by omega),if_pos hd,if_neg hb,show pWord s (t.p+2)=⟨l,t.p+2+m⟩ from P,Nat.add_assoc]
  obtain ⟨m,e,l,c',B,E,P⟩:=word (Or.inl ⟨rfl,hd⟩) D1
  rw [tP_add] at B
  refine ⟨1+m,⟨false,l⟩,c',_,by omega,E.n,B,?_,flat E⟩
  unfold pSeg
  rw [if_neg (by omega),if_neg hd,show pWord s (t.p+1)=⟨l,t.p+1+m⟩ from P,Nat.add_assoc]
 ·obtain ⟨k1,k2⟩:=seg_br h hlt (by rw [sees_live e0,h91]; rfl)
  have ea:must s t [91]=adv t:=by show must1 s t 91=adv t; unfold must1; rw [if_pos (by rw [sees_live e0]; simpa using h91)]
  rw [ea] at k1 k2
  obtain ⟨k2,_⟩:=k2 e0
  obtain ⟨m,l,c',B,hm,E,P⟩:=w_br hf h91 (fin_live hf k1)
  have ed:T s (t.p+1)++sub s (t.p+1) (t.p+m)=acc++sub s t.p (t.p+m):=by
   rw [k2,sub_cons (b:=91) h91 (by omega)]; simp
  rw [ed] at B
  refine ⟨m,⟨false,l⟩,c',_,by omega,E.n,B,?_,flat E⟩
  unfold pSeg
  rw [if_pos h91,P]
 have:=bt_in hlt; omega
theorem w_all {s:List UInt8} (hf:FinP s):∀(k:Nat) {c:Nat} {acc:List UInt8} {t:St},Bnd s c acc t→s.length - t.p≤k→∃X D,T s (s.length+1)=acc++D∧X.length≤D.length∧(∀N L,k<N→pSegs s N t.p L=L++X)∧∀N L,X.length<N→pSegs (acc++D) N acc.length L=L++X
 | k,c,acc,t,h,hk=>by
  by_cases hlt:t.p<s.length
  ·obtain ⟨m,x,c',d,hm,hd,B,P,Q⟩:=w_seg hf h hlt
   have le:t.p+m≤s.length:=B.le
   cases k with
   | zero=>omega
   | succ k =>
    obtain ⟨X,D,e1,e2,e3,e4⟩:=w_all hf k B (by simp only; omega)
    refine ⟨x::X,d++D,by rw [e1,List.append_assoc],by rw [List.length_append,List.length_cons]; omega,fun N L hN=>?_,fun N L hN=>?_⟩
    ·obtain ⟨N,rfl⟩:∃N',N=N'+1:=⟨N - 1,by omega⟩
     rw [pSegs,if_pos hlt,P]
     show pSegs s N (t.p+m) (L++[x])=_
     rw [e3 N _ (by omega)]; simp
    obtain ⟨N,rfl⟩:∃N',N=N'+1:=⟨N - 1,by omega⟩
    have st:Std d (acc++(d++D)) acc.length:=fun j hj=>by
     unfold bt
     rw [List.getElem?_append_right (by omega),List.getElem?_append_left (by omega),show acc.length+j - acc.length=j by omega]
    rw [pSegs,if_pos (by rw [List.length_append,List.length_append]; omega),Q _ _ st]
    show pSegs (acc++(d++D)) N (acc.length+d.length) (L++[x])=_
    rw [← List.append_assoc acc,← List.length_append,e4 N _ (by simp at hN; omega)]; simp
  have et:t.p=s.length:=by have:=h.le; omega
  have eT:T s (s.length+1)=acc:=by
   rw [T,bt_end (Nat.le_refl _)]
   rcases h.ty with ⟨h1,h2⟩ | ⟨h1,h2,h3,h4⟩
   ·rw [et] at h1 h2
    rw [h2]
    simp [out,h1]
   rw [et] at h1 h2 h3 h4
   rw [bt_end (Nat.le_refl _)] at h3
   rw [← h4]
   simp [out,h1,h2,h3]
  refine ⟨[],[],by rw [eT,List.append_nil],Nat.le_refl _,fun N L hN=>?_,fun N L hN=>?_⟩
  ·obtain ⟨N,rfl⟩:∃N',N=N'+1:=⟨N - 1,by omega⟩
   rw [pSegs,if_neg hlt,List.append_nil]
  obtain ⟨N,rfl⟩:∃N',N=N'+1:=⟨N - 1,by omega⟩
  rw [pSegs,if_neg (by simp),List.append_nil]
theorem fin_36 {s:List UInt8} (hf:FinP s):bt s 0=36∧0<s.length:=by
 have h1:2≤(M s 1).st:=fin_up hf (by omega)
 have e:M s 1=nx g0 (bt s 0):=rfl
 rw [e] at h1
 by_cases h256:bt s 0=256
 ·rw [h256] at h1; exact absurd h1 (by decide)
 refine ⟨?_,bt_lt (by have:=bt_le s 0; omega)⟩
 by_cases h36:bt s 0=36
 ·exact h36
 exfalso
 unfold nx at h1
 rw [if_neg (by decide),if_neg h256] at h1
 simp [gNext,gBetween,gSegment,g0,h36,norm] at h1
theorem bnd_one {s:List UInt8} (hf:FinP s):Bnd s 0 [36] ⟨1,0,0⟩:=by
 obtain ⟨h36,hp⟩:=fin_36 hf
 have e:M s 1=cS 3 []:=by
  show nx g0 (bt s 0)=_
  rw [h36]; rfl
 refine ⟨rfl,rfl,hp,by rw [e]; decide,by rw [e],?_,Or.inl ⟨by rw [e]; rfl,?_⟩⟩
 ·show C s 1=0
  show 0+inc g0 (bt s 0)=0
  rw [h36]; decide
 show T s 1=[36]
 show []++out g0 (bt s 0)=[36]
 rw [h36]; decide
theorem w_same {s:List UInt8} (hf:FinP s):pQuery (T s (s.length+1))=pQuery s:=by
 obtain ⟨X,D,e1,e2,e3,e4⟩:=w_all hf s.length (bnd_one hf) (by simp only; omega)
 have a:pQuery s=X:=by
  unfold pQuery
  exact (e3 (s.length+1) [] (by omega)).trans (List.nil_append _)
 rw [a,e1]
 unfold pQuery
 exact (e4 (([36]++D).length+1) [] (by rw [List.length_append]; omega)).trans (List.nil_append _)
end Tr
namespace Tr
def Or':G→List UInt8→List UInt8
 | _,[]=>[]
 | m,b::l=>out m b.toNat++Or' (nx m b.toNat) l
theorem Or_app:∀(m:G) (a b:List UInt8),Or' m (a++b)=Or' m a++Or' (Mr m a) b
 | _,[],_=>by simp [Or',Mr]
 | m,x::a,b=>by rw [List.cons_append,Or',Or',Or_app]; simp [Mr]
theorem T_eq (s:List UInt8):∀{i:Nat},i≤s.length→T s i=Or' g0 (s.take i)
 | 0,_=>by simp [T,Or']
 | i+1,h=>by
  have e:s.take (i+1)=s.take i++[s[i]]:=List.take_succ_eq_append_getElem (by omega)
  rw [T,T_eq s (i:=i) (by omega),e,Or_app,(M_eq s (i:=i) (by omega)).1,bt_get (by omega)]
  simp [Or']
def KB (k:Nat):Prop:=k=7∨k=9∨k=11∨k=14∨k=18
def Gd (g:G):Prop:=g.st≤1∨(g.st≠2∧g.st≠4∧g.st≠5∧(21≤g.st→KB g.bh))
theorem gd_st {g:G} {k:Nat} (h:k≠2∧k≠4∧k≠5∧k≤20):Gd { g with st:=k }:=Or.inr ⟨h.1,h.2.1,h.2.2.1,fun y=>by simp only at y; omega⟩
theorem gd_0 {g:G}:Gd { g with st:=0 }:=Or.inl (Nat.zero_le _)
theorem gd_K {g:G} {k:Nat} (h:KB k):Gd { g with st:=k }:=gd_st (by unfold KB at h; omega)
theorem gd_word (g:G) (b:Nat):Gd (gWord g b 11):=by
 unfold gWord; split
 ·exact Or.inr ⟨by simp,by simp,by simp,fun _=>Or.inr (Or.inr (Or.inl rfl))⟩
 exact gd_0
theorem gd_quote (g:G) {k:Nat} (h:KB k):Gd (gQuote g k):=Or.inr ⟨by simp [gQuote],by simp [gQuote],by simp [gQuote],fun _=>h⟩
theorem gd_named (g:G) (l:List UInt8) {k:Nat} (h:KB k):Gd (gNamed g l k):=by
 unfold gNamed; split
 ·exact gd_K h
 exact Or.inr ⟨by simp,by simp,by simp,fun _=>h⟩
theorem gd_minus (g:G) {k:Nat} (h:KB k):Gd (gMinus g k):=Or.inr ⟨by simp [gMinus],by simp [gMinus],by simp [gMinus],fun _=>h⟩
theorem gd_count (g:G) (b:Nat) {k:Nat} (h:KB k):Gd (gCount g b k):=by
 unfold gCount; split
 ·exact gd_K h
 split
 ·exact Or.inr ⟨by simp,by simp,by simp,fun _=>h⟩
 exact gd_0
theorem gd_signed (g:G) (b:Nat) {k:Nat} (h:KB k):Gd (gSigned g b k):=by
 unfold gSigned; split
 ·exact gd_minus g h
 exact gd_count g b h
theorem kb18:KB 18:=Or.inr (Or.inr (Or.inr (Or.inr rfl)))
theorem kb14:KB 14:=Or.inr (Or.inr (Or.inr (Or.inl rfl)))
theorem kb9:KB 9:=Or.inr (Or.inl rfl)
theorem kb7:KB 7:=Or.inl rfl
theorem gd_const (g:G) (b:Nat):Gd (gConst g b):=by
 unfold gConst
 repeat' split
 all_goals first | exact gd_0 | exact gd_st (by omega) | exact gd_quote g kb18 | exact gd_named g _ kb18 | exact gd_signed g b kb18
theorem gd_within (g:G) (b:Nat):Gd (gWithin g b):=by
 unfold gWithin
 repeat' split
 all_goals first | exact gd_word g b | exact gd_signed g b kb14 | exact gd_0 | exact gd_st (by omega)
theorem gd_selEnd (g:G) (b:Nat):Gd (gSelEnd g b):=by
 unfold gSelEnd
 repeat' split
 all_goals first | exact gd_count g b kb9 | exact gd_0 | exact gd_st (by omega)
theorem gd_partEnd (g:G) (b:Nat):Gd (gPartEnd g b):=by
 rw [gPE_eq]
 unfold gPE
 repeat' split
 all_goals first | exact gd_selEnd _ b | exact gd_0 | exact Or.inr ⟨by simp,by simp,by simp,fun y=>by simp at y⟩
theorem gd_stepEnd (g:G) (b:Nat):Gd (gStepEnd g b):=by
 unfold gStepEnd
 repeat' split
 all_goals first | exact gd_partEnd g b | exact gd_st (by omega)
theorem gd_part (g:G) (b:Nat):Gd (gPart g b):=by
 unfold gPart
 repeat' split
 all_goals first | exact gd_0 | exact gd_st (by omega) | exact Or.inl (by simp) | exact Or.inr ⟨by simp,by simp,by simp,fun y=>by simp at y⟩
theorem gd_selector (g:G) (b:Nat):Gd (gSelector g b):=by
 unfold gSelector
 repeat' split
 all_goals first | exact gd_quote g kb9 | exact gd_minus g kb9 | exact gd_count g b kb7 | exact gd_st (by omega)
theorem gd_between (g:G) (b:Nat) (h:¬(g.st=2∨g.st=3∨g.st=4∨g.st=5)):Gd (gBetween g b):=by
 unfold gBetween
 rw [if_neg h]
 repeat' split
 all_goals first | exact gd_selector g b | exact gd_selEnd g b | exact gd_part g b | exact gd_partEnd g b | exact gd_stepEnd g b | exact gd_const g b | exact gd_within g b
theorem gd_inside (g:G) (b:Nat) (h21:21≤g.st) (hk:KB g.bh):Gd (gInside g b):=by
 unfold gInside
 repeat' split
 all_goals first
  | exact gd_K hk
  | exact gd_named g _ hk
  | exact gd_count g b hk
  | exact gd_between _ b (by unfold KB at hk; simp only; omega)
  | exact gd_0
  | exact Or.inr ⟨by simp only; omega,by simp only; omega,by simp only; omega,fun _=>hk⟩
theorem gd_norm {g:G} (h:Gd g):Gd (norm g):=by
 rcases h with h | ⟨h1,h2,h3,h4⟩
 ·exact Or.inl h
 refine Or.inr ⟨h1,h2,h3,fun y=>?_⟩
 have y:21≤g.st:=y
 show KB (if 21≤g.st then g.bh else 0)
 rw [if_pos y]; exact h4 y
theorem norm_norm (g:G):norm (norm g)=norm g:=by
 unfold norm
 simp only
 congr 1<;>(split<;>rfl)
structure Iv (m:G):Prop where
 n:norm m=m
 k:21≤m.st→m.st≤25→KB m.bh∨(m.st=21∧m.bh=3)
def Rl (m k:G):Prop:=(m.st=4∧k=cS 3 m.op)∨(m.st=21∧m.bh=3∧k=⟨23,9,m.sz,[],m.op⟩)∨(k=m∧m.st≠4∧¬(m.st=21∧m.bh=3))
structure Stx (m k m':G) (b:Nat) (o:List UInt8):Prop where
 r:Rl m' (Mr k o)
 tx:Or' k o=o
 ct:Cr k o=inc m b
theorem Mr1 (m:G) (a:UInt8):Mr m [a]=nx m a.toNat:=rfl
theorem Mr2 (m:G):Mr m [39,93]=nx (nx m 39) 93:=rfl
theorem Mr3 (m:G):Mr m [39,93,91]=nx (nx (nx m 39) 93) 91:=rfl
theorem of_nat {b:Nat} (hb:b<256):(UInt8.ofNat b).toNat=b:=by simp; omega
theorem nx_alive {m:G} {b:Nat} (hm:2≤m.st) (hb:b<256):nx m b=norm (gNext m b):=by
 unfold nx; rw [if_neg (by omega),if_neg (by omega)]
theorem stx_same {m:G} {b:Nat} (hb:b<256) (ho:out m b=[UInt8.ofNat b]) (h4:(nx m b).st≠4) (h21:¬((nx m b).st=21∧(nx m b).bh=3)):Stx m m (nx m b) b (out m b):=by
 rw [ho]
 have e:Mr m [UInt8.ofNat b]=nx m b:=by simp [Mr,of_nat hb]
 refine ⟨by rw [e]; exact Or.inr (Or.inr ⟨rfl,h4,h21⟩),?_,?_⟩
 ·simp only [Or',of_nat hb,ho,List.append_nil]
 simp only [Cr,of_nat hb,Nat.add_zero]
theorem iv_next {m:G} {b:Nat} (hm:2≤m.st) (hb:b<256) (h:Gd (gNext m b)):Iv (nx m b):=by
 rw [nx_alive hm hb]
 refine ⟨norm_norm _,fun y z=>?_⟩
 rcases gd_norm h with g | ⟨_,_,_,g⟩
 ·omega
 exact Or.inl (g y)
theorem cS_of {m:G} (h:norm m=m) {k:Nat} (hk:m.st=k) (h20:k≤20):m=cS k m.op:=by
 have:=norm_cS (g:=m) (by omega)
 rw [h,hk] at this
 exact this
theorem in_step {m:G} (hI:Iv m) (hm:6≤m.st) (hw:¬(m.st=21∧m.bh=3)) (b:Nat):Gd (gNext m b):=by
 unfold gNext
 split
 ·rename_i h
  exact gd_inside m b h.1 ((hI.k h.1 h.2).resolve_right hw)
 exact gd_between m b (by omega)
theorem nx_let {b:Nat} (hl:isLet b=true) (z:Nat) (hz:z<8) (op:List UInt8):nx ⟨23,9,z,[],op⟩ b=⟨23,9,z+1,[],op⟩:=by
 have hb:=isLet_lt hl
 have hq:isQuo b=true:=by unfold isQuo; rw [hl]; rfl
 rw [nx_alive (by simp) hb]
 simp [gNext,gInside,gGoes,hq,hz,norm]
theorem nx_q (z:Nat) (op:List UInt8):nx ⟨23,9,z,[],op⟩ 39=cS 9 op:=by
 rw [nx_alive (by simp) (by omega)]
 simp [gNext,gInside,gGoes,isQuo,isLet,isDig,norm,cS]
theorem nx_s (op:List UInt8):nx (cS 3 op) 91=cS 6 op∧nx (cS 5 op) 91=cS 6 op∧nx (cS 6 op) 42=cS 9 op∧nx (cS 9 op) 93=cS 3 op∧nx (cS 6 op) 39=⟨23,9,0,[],op⟩∧nx (cS 3 op) 46=cS 4 op∧nx (cS 4 op) 46=cS 5 op:=by
 refine ⟨?_,?_,?_,?_,?_,?_,?_⟩<;>(rw [nx_alive (by simp [cS]) (by omega)]; simp [gNext,gBetween,gSegment,gSelector,gSelEnd,gQuote,norm,cS])
theorem stx_star {X:Nat} (hX:X=3∨X=5) (op:List UInt8):Mr (cS X op) [91,42,93]=cS 3 op∧Or' (cS X op) [91,42,93]=[91,42,93]∧Cr (cS X op) [91,42,93]=1:=by
 obtain ⟨n1,n2,n3,n4,_⟩:=nx_s op
 have n0:nx (cS X op) 91=cS 6 op:=by rcases hX with rfl | rfl<;>assumption
 refine ⟨?_,?_,?_⟩
 ·show nx (nx (nx (cS X op) 91) 42) 93=_
  rw [n0,n3,n4]
 ·show out (cS X op) 91++(out (nx (cS X op) 91) 42++(out (nx (nx (cS X op) 91) 42) 93++[]))=_
  rw [n0,n3]
  rcases hX with rfl | rfl<;>simp [out,cS]
 show inc (cS X op) 91+(inc (nx (cS X op) 91) 42+(inc (nx (nx (cS X op) 91) 42) 93+0))=_
 rw [n0,n3]
 unfold inc
 rw [n0,n3,n4]
 simp [cS]
theorem stx_word {X:Nat} (hX:X=3∨X=5) (op:List UInt8) {b:Nat} (hl:isLet b=true):Mr (cS X op) [91,39,UInt8.ofNat b]=⟨23,9,1,[],op⟩∧Or' (cS X op) [91,39,UInt8.ofNat b]=[91,39,UInt8.ofNat b]∧Cr (cS X op) [91,39,UInt8.ofNat b]=1:=by
 obtain ⟨n1,n2,n3,n4,n5,_⟩:=nx_s op
 have hb:=isLet_lt hl
 have n6:=nx_let hl 0 (by omega) op
 have n0:nx (cS X op) 91=cS 6 op:=by rcases hX with rfl | rfl<;>assumption
 refine ⟨?_,?_,?_⟩
 ·show nx (nx (nx (cS X op) 91) 39) (UInt8.ofNat b).toNat=_
  rw [n0,n5,of_nat hb,n6]
 ·show out (cS X op) 91++(out (nx (cS X op) 91) 39++(out (nx (nx (cS X op) 91) 39) (UInt8.ofNat b).toNat++[]))=_
  rw [n0,n5,of_nat hb]
  rcases hX with rfl | rfl<;>simp [out,cS]
 show inc (cS X op) 91+(inc (nx (cS X op) 91) 39+(inc (nx (nx (cS X op) 91) 39) (UInt8.ofNat b).toNat+0))=_
 rw [n0,n5,of_nat hb]
 unfold inc
 rw [n0,n5,n6]
 simp [cS]
theorem sim_txt {m k:G} {b:Nat} (hI:Iv m) (hR:Rl m k) (hm:2≤m.st) (hb:b<256) (ha:2≤(nx m b).st):Iv (nx m b)∧Stx m k (nx m b) b (out m b):=by
 have star:∀X,m.st=X→X=4∨X=5→b=42→nx m b=cS 3 m.op:=fun X hX h45 h42=>by
  have e:=cS_of hI.n hX (by omega)
  rw [e,nx_alive (by simp [cS]; omega) hb,h42]
  rcases h45 with rfl | rfl<;>simp [gNext,gBetween,gSegment,gStar,norm,cS]
 have word:∀X,m.st=X→X=4∨X=5→isLet b=true→nx m b=⟨21,3,1,[],m.op⟩:=fun X hX h45 hl=>by
  have e:=cS_of hI.n hX (by omega)
  have h46:b≠46:=fun y=>by rw [y] at hl; cases hl
  have h91:b≠91:=fun y=>by rw [y] at hl; cases hl
  have h42:b≠42:=fun y=>by rw [y] at hl; cases hl
  rw [e,nx_alive (by simp [cS]; omega) hb]
  rcases h45 with rfl | rfl<;>simp [gNext,gBetween,gSegment,gStar,gWord,norm,cS,h46,h91,h42,hl]
 have iv21:∀z op,Iv ⟨21,3,z,[],op⟩:=fun z op=>⟨by simp [norm],fun _ _=>Or.inr ⟨rfl,rfl⟩⟩
 have ivS:∀X op,X≤20→Iv (cS X op):=fun X op h=>⟨by rw [norm_cS (by simpa [cS] using h)]; rfl,fun y=>by simp [cS] at y; omega⟩
 have dead:∀X,m.st=X→X=4∨X=5→b≠42→isLet b=false→(X=4→b≠46)→(X=5→b≠91)→False:=fun X hX h45 h42 hl h46 h91=>by
  have e:=cS_of hI.n hX (by omega)
  rw [e,nx_alive (by simp [cS]; omega) hb] at ha
  rcases h45 with rfl | rfl
  ·simp [gNext,gBetween,gSegment,gStar,gWord,norm,cS,h46 rfl,h42,hl] at ha
  simp [gNext,gBetween,gSegment,gStar,gWord,norm,cS,h91 rfl,h42,hl] at ha
 have rl3:∀op,Rl (cS 3 op) (cS 3 op):=fun op=>Or.inr (Or.inr ⟨rfl,by simp [cS],by simp [cS]⟩)
 have rlw:∀op,Rl ⟨21,3,1,[],op⟩ ⟨23,9,1,[],op⟩:=fun op=>Or.inr (Or.inl ⟨rfl,rfl,rfl⟩)
 have incs:m.st=4∨m.st=5→(nx m b).st=3∨(nx m b).st=21→inc m b=1:=fun h1 h2=>by
  unfold inc
  rw [if_neg (by omega),if_pos ⟨h1,h2⟩]
 rcases hR with ⟨h4,rfl⟩ | ⟨h21,hbh,rfl⟩ | ⟨hk,h4,hw⟩
 ·by_cases h46:b=46
  ·have e:=cS_of hI.n h4 (by omega)
   obtain ⟨_,_,_,_,_,n6,n7⟩:=nx_s m.op
   have en:nx m b=cS 5 m.op:=by rw [e,h46]; exact n7
   have eo:out m b=[46,46]:=by unfold out; rw [if_pos (Or.inl h4),if_pos h46]
   rw [en,eo]
   refine ⟨ivS 5 _ (by omega),?_,?_,?_⟩
   ·have:Mr (cS 3 m.op) [46,46]=cS 5 m.op:=by show nx (nx (cS 3 m.op) 46) 46=_; rw [n6,n7]
    rw [this]
    exact Or.inr (Or.inr ⟨rfl,by simp [cS],by simp [cS]⟩)
   ·show out (cS 3 m.op) 46++(out (nx (cS 3 m.op) 46) 46++[])=_
    rw [n6]; simp [out,cS]
   show inc (cS 3 m.op) 46+(inc (nx (cS 3 m.op) 46) 46+0)=inc m b
   rw [n6]
   have:inc m b=0:=by unfold inc; rw [en]; simp [cS]
   rw [this]
   unfold inc
   rw [n6,n7]; simp [cS]
  by_cases h42:b=42
  ·have en:=star 4 h4 (Or.inl rfl) h42
   have eo:out m b=[91,42,93]:=by unfold out; rw [if_pos (Or.inl h4),if_neg h46,if_pos h42]
   obtain ⟨s1,s2,s3⟩:=stx_star (Or.inl rfl) m.op
   have i1:=incs (Or.inl h4) (Or.inl (by rw [en]; rfl))
   rw [en,eo]
   exact ⟨ivS 3 _ (by omega),by rw [s1]; exact rl3 _,s2,by rw [s3,i1]⟩
  by_cases hl:isLet b=true
  ·have en:=word 4 h4 (Or.inl rfl) hl
   have h91:b≠91:=fun y=>by rw [y] at hl; cases hl
   have eo:out m b=[91,39,UInt8.ofNat b]:=by unfold out; rw [if_pos (Or.inl h4),if_neg h46,if_neg h42,if_neg h91]
   obtain ⟨s1,s2,s3⟩:=stx_word (Or.inl rfl) m.op hl
   have i1:=incs (Or.inl h4) (Or.inr (by rw [en]))
   rw [en,eo]
   exact ⟨iv21 _ _,by rw [s1]; exact rlw _,s2,by rw [s3,i1]⟩
  exact (dead 4 h4 (Or.inl rfl) h42 (by simpa using hl) (fun _=>h46) (fun y=>by omega)).elim
 ·have e:m=⟨21,3,m.sz,[],m.op⟩:=by
   have:=hI.n
   unfold norm at this
   rw [if_pos (by omega),if_pos (by omega),if_neg (by omega)] at this
   rw [← this]
   simp [h21,hbh]
  by_cases hg:gGoes m b=true
  ·have hg2:isLet b=true∧m.sz<8:=by
    unfold gGoes at hg
    rw [if_pos h21] at hg
    simpa using hg
   have en:nx m b=⟨21,3,m.sz+1,[],m.op⟩:=by
    rw [nx_alive hm hb]
    unfold gNext gInside
    rw [if_pos (by omega),if_pos hg]
    rw [e]; simp [norm]
   have eo:out m b=[UInt8.ofNat b]:=by unfold out; rw [if_neg (by omega),if_neg (by omega),if_pos ⟨h21,hbh⟩,if_pos hg]
   have n1:=nx_let hg2.1 m.sz hg2.2 m.op
   rw [en,eo]
   refine ⟨iv21 _ _,?_,?_,?_⟩
   ·have:Mr ⟨23,9,m.sz,[],m.op⟩ [UInt8.ofNat b]=⟨23,9,m.sz+1,[],m.op⟩:=by
     rw [Mr1,of_nat hb,n1]
    rw [this]
    exact Or.inr (Or.inl ⟨rfl,rfl,rfl⟩)
   ·show out ⟨23,9,m.sz,[],m.op⟩ (UInt8.ofNat b).toNat++[]=_
    rw [of_nat hb]; simp [out]
   show inc ⟨23,9,m.sz,[],m.op⟩ (UInt8.ofNat b).toNat+0=inc m b
   rw [of_nat hb]
   unfold inc
   rw [n1,en]
   simp [h21]
  have hgf:gGoes m b=false:=by simpa using hg
  have en0:nx m b=norm (gBetween { m with st:=3 } b):=by
   rw [nx_alive hm hb]
   unfold gNext gInside
   rw [if_pos (by omega),if_neg hg,if_neg (by omega),if_neg (by omega),if_neg (by omega),if_pos (Or.inl h21),hbh]
  obtain ⟨n1,_,_,n4,_⟩:=nx_s m.op
  have nq:=nx_q m.sz m.op
  by_cases h46:b=46
  ·have en:nx m b=cS 4 m.op:=by rw [en0,h46]; simp [gBetween,gSegment,norm,cS]
   have eo:out m b=[39,93]:=by unfold out; rw [if_neg (by omega),if_neg (by omega),if_pos ⟨h21,hbh⟩,if_neg hg,if_pos (Or.inl h46)]
   rw [en,eo]
   refine ⟨ivS 4 _ (by omega),?_,?_,?_⟩
   ·have:Mr ⟨23,9,m.sz,[],m.op⟩ [39,93]=cS 3 m.op:=by rw [Mr2,nq,n4]
    rw [this]
    exact Or.inl ⟨rfl,rfl⟩
   ·show out ⟨23,9,m.sz,[],m.op⟩ 39++(out (nx ⟨23,9,m.sz,[],m.op⟩ 39) 93++[])=_
    rw [nq]; simp [out,cS]
   show inc ⟨23,9,m.sz,[],m.op⟩ 39+(inc (nx ⟨23,9,m.sz,[],m.op⟩ 39) 93+0)=inc m b
   rw [nq]
   unfold inc
   rw [nq,n4,en]
   simp [cS,h21]
  by_cases h91:b=91
  ·have en:nx m b=cS 6 m.op:=by rw [en0,h91]; simp [gBetween,gSegment,norm,cS]
   have eo:out m b=[39,93,91]:=by unfold out; rw [if_neg (by omega),if_neg (by omega),if_pos ⟨h21,hbh⟩,if_neg hg,if_neg (by omega),h91]; rfl
   rw [en,eo]
   refine ⟨ivS 6 _ (by omega),?_,?_,?_⟩
   ·have:Mr ⟨23,9,m.sz,[],m.op⟩ [39,93,91]=cS 6 m.op:=by rw [Mr3,nq,n4,n1]
    rw [this]
    exact Or.inr (Or.inr ⟨rfl,by simp [cS],by simp [cS]⟩)
   ·show out ⟨23,9,m.sz,[],m.op⟩ 39++(out (nx ⟨23,9,m.sz,[],m.op⟩ 39) 93++(out (nx (nx ⟨23,9,m.sz,[],m.op⟩ 39) 93) 91++[]))=_
    rw [nq,n4]; simp [out,cS]
   show inc ⟨23,9,m.sz,[],m.op⟩ 39+(inc (nx ⟨23,9,m.sz,[],m.op⟩ 39) 93+(inc (nx (nx ⟨23,9,m.sz,[],m.op⟩ 39) 93) 91+0))=inc m b
   rw [nq,n4]
   unfold inc
   rw [nq,n4,n1,en]
   simp [cS]
  exfalso
  rw [en0] at ha
  simp [gBetween,gSegment,norm,h46,h91] at ha
 rw [hk]
 clear hk
 by_cases h3:m.st=3
 ·have e:=cS_of hI.n h3 (by omega)
  obtain ⟨n1,_,_,_,_,n6,_⟩:=nx_s m.op
  by_cases h46:b=46
  ·have en:nx m b=cS 4 m.op:=by rw [e,h46]; exact n6
   have eo:out m b=[]:=by unfold out; rw [if_neg (by omega),if_pos h3,if_pos (Or.inl h46)]
   rw [eo]
   have ei:inc m b=0:=by unfold inc; rw [en]; simp [cS,h3]
   rw [en]
   exact ⟨ivS 4 _ (by omega),Or.inl ⟨rfl,e⟩,rfl,by rw [ei]; rfl⟩
  by_cases h91:b=91
  ·have en:nx m b=cS 6 m.op:=by rw [e,h91]; exact n1
   refine ⟨by rw [en]; exact ivS 6 _ (by omega),stx_same hb ?_ (by rw [en]; simp [cS]) (by rw [en]; simp [cS])⟩
   unfold out; rw [if_neg (by omega),if_pos h3,if_neg (by omega)]
  exfalso
  rw [e,nx_alive (by simp [cS]) hb] at ha
  simp [gNext,gBetween,gSegment,norm,cS,h46,h91] at ha
 by_cases h5:m.st=5
 ·have e:=cS_of hI.n h5 (by omega)
  by_cases h42:b=42
  ·have en:=star 5 h5 (Or.inr rfl) h42
   have eo:out m b=[91,42,93]:=by unfold out; rw [if_pos (Or.inr h5),if_neg (by omega),if_pos h42]
   obtain ⟨s1,s2,s3⟩:=stx_star (Or.inr rfl) m.op
   rw [← e] at s1 s2 s3
   have i1:=incs (Or.inr h5) (Or.inl (by rw [en]; rfl))
   rw [en,eo]
   exact ⟨ivS 3 _ (by omega),by rw [s1]; exact rl3 _,s2,by rw [s3,i1]⟩
  by_cases h91:b=91
  ·obtain ⟨_,n2,_⟩:=nx_s m.op
   have en:nx m b=cS 6 m.op:=by rw [e,h91]; exact n2
   refine ⟨by rw [en]; exact ivS 6 _ (by omega),stx_same hb ?_ (by rw [en]; simp [cS]) (by rw [en]; simp [cS])⟩
   unfold out; rw [if_pos (Or.inr h5),if_neg (by omega),if_neg h42,if_pos h91,h91]; rfl
  by_cases hl:isLet b=true
  ·have en:=word 5 h5 (Or.inr rfl) hl
   have h46:b≠46:=fun y=>by rw [y] at hl; cases hl
   have eo:out m b=[91,39,UInt8.ofNat b]:=by unfold out; rw [if_pos (Or.inr h5),if_neg h46,if_neg h42,if_neg h91]
   obtain ⟨s1,s2,s3⟩:=stx_word (Or.inr rfl) m.op hl
   rw [← e] at s1 s2 s3
   have i1:=incs (Or.inr h5) (Or.inr (by rw [en]))
   rw [en,eo]
   exact ⟨iv21 _ _,by rw [s1]; exact rlw _,s2,by rw [s3,i1]⟩
  exact (dead 5 h5 (Or.inr rfl) h42 (by simpa using hl) (fun y=>by omega) (fun _=>h91)).elim
 have eo:out m b=[UInt8.ofNat b]:=by unfold out; rw [if_neg (by omega),if_neg h3,if_neg hw]
 by_cases h2:m.st=2
 ·have e:=cS_of hI.n h2 (by omega)
  have en:nx m b=cS 3 m.op:=by
   by_cases h36:b=36
   ·rw [e,nx_alive (by simp [cS]) hb,h36]
    simp [gNext,gBetween,gSegment,norm,cS]
   exfalso
   rw [e,nx_alive (by simp [cS]) hb] at ha
   simp [gNext,gBetween,gSegment,norm,cS,h36] at ha
  exact ⟨by rw [en]; exact ivS 3 _ (by omega),stx_same hb eo (by rw [en]; simp [cS]) (by rw [en]; simp [cS])⟩
 have G:=in_step hI (by omega) hw b
 have G2:=gd_norm G
 rw [← nx_alive hm hb] at G2
 refine ⟨iv_next hm hb G,stx_same hb eo ?_ ?_⟩
 ·rcases G2 with y | ⟨_,y,_⟩
  ·omega
  exact y
 rcases G2 with y | ⟨_,_,_,y⟩
 ·omega
 intro z
 have:=y (by omega)
 unfold KB at this
 omega
theorem txt_run {s:List UInt8} (hf:FinP s):∀{i:Nat},i≤s.length→Iv (M s i)∧Rl (M s i) (Mr g0 (T s i))∧Or' g0 (T s i)=T s i∧Cr g0 (T s i)=C s i
 | 0,_=>⟨⟨rfl,fun y=>absurd (show 21≤g0.st from y) (by decide)⟩,Or.inr (Or.inr ⟨rfl,show g0.st≠4 by decide,show ¬(g0.st=21∧g0.bh=3) by decide⟩),rfl,rfl⟩
 | i+1,h=>by
  obtain ⟨h1,h2,h3,h4⟩:=txt_run hf (i:=i) (by omega)
  have hb:bt s i<256:=bt_in (by omega)
  obtain ⟨j1,j2⟩:=sim_txt h1 h2 (fin_up hf (by omega)) hb (fin_up hf (i:=i+1) (by omega))
  refine ⟨j1,?_,?_,?_⟩
  ·rw [T,Mr_app]; exact j2.r
  ·rw [T,Or_app,h3,j2.tx]
  rw [T,Cr_app,h4,j2.ct]; rfl
theorem w_text {s:List UInt8} (hf:FinP s):FinP (T s (s.length+1))∧C (T s (s.length+1)) ((T s (s.length+1)).length+1)=C s (s.length+1)∧T (T s (s.length+1)) ((T s (s.length+1)).length+1)=T s (s.length+1):=by
 obtain ⟨h1,h2,h3,h4⟩:=txt_run hf (i:=s.length) (Nat.le_refl _)
 obtain ⟨m,em⟩:∃m,m=M s s.length:=⟨_,rfl⟩
 have ef:(nx m 256).st=26:=by
  have:(M s (s.length+1)).st=26:=hf
  rw [M,bt_end (Nat.le_refl _)] at this
  rw [em]; exact this
 have hm:2≤m.st:=by rw [em]; exact fin_up hf (by omega)
 have me:m.st=3∨(m.st=21∧m.bh=3):=by
  unfold nx at ef
  rw [if_neg (by omega),if_pos rfl] at ef
  by_cases y:mayEnd m=true
  ·simpa [mayEnd] using y
  rw [if_neg y] at ef; cases ef
 have eC:C s (s.length+1)=C s s.length:=by
  rw [C,bt_end (Nat.le_refl _),← em]
  unfold inc
  rw [ef]
  rcases me with y | ⟨y,_⟩<;>simp [y]
 have eT:T s (s.length+1)=T s s.length++out m 256:=by rw [T,bt_end (Nat.le_refl _),← em]
 rw [← em] at h2
 have fin:∀k u,Mr g0 u=k→k.st=3→Or' g0 u=u→Cr g0 u=C s s.length→FinP u∧C u (u.length+1)=C s (s.length+1)∧T u (u.length+1)=u:=fun k u q1 q2 q3 q4=>by
  obtain ⟨m1,m2⟩:=M_eq u (Nat.le_refl u.length)
  have m3:=T_eq u (Nat.le_refl u.length)
  rw [List.take_length] at m1 m2 m3
  rw [q1] at m1
  have hn:nx k 256=⟨26,0,0,[],[]⟩:=by
   unfold nx
   rw [if_neg (by omega),if_pos rfl,if_pos (by simp [mayEnd,q2])]
  refine ⟨?_,?_,?_⟩
  ·unfold FinP
   rw [M,bt_end (Nat.le_refl _),m1,hn]
  ·rw [C,bt_end (Nat.le_refl _),m1,m2,q4,eC]
   unfold inc
   rw [hn]
   simp [q2]
  rw [T,bt_end (Nat.le_refl _),m1,m3,q3]
  simp [out,q2]
 rw [eT]
 rcases me with y | ⟨y,z⟩
 ·have eo:out m 256=[]:=by unfold out; rw [if_neg (by omega),if_pos y,if_pos (Or.inr rfl)]
  rw [eo,List.append_nil]
  have hk:Mr g0 (T s s.length)=m:=by
   rcases h2 with ⟨q,_⟩ | ⟨q,_⟩ | ⟨q,_⟩
   ·omega
   ·omega
   exact q
  exact fin m _ hk y h3 h4
 have hg:¬gGoes m 256=true:=by unfold gGoes; rw [if_pos y]; simp [isLet]
 have eo:out m 256=[39,93]:=by unfold out; rw [if_neg (by omega),if_neg (by omega),if_pos ⟨y,z⟩,if_neg hg,if_pos (Or.inr rfl)]
 rw [eo]
 have hk:Mr g0 (T s s.length)=⟨23,9,m.sz,[],m.op⟩:=by
  rcases h2 with ⟨q,_⟩ | ⟨_,_,q⟩ | ⟨_,_,q⟩
  ·omega
  ·exact q
  exact absurd ⟨y,z⟩ q
 have nq:=nx_q m.sz m.op
 obtain ⟨_,_,_,n4,_⟩:=nx_s m.op
 refine fin (cS 3 m.op) _ ?_ rfl ?_ ?_
 ·rw [Mr_app,hk,Mr2,nq,n4]
 ·rw [Or_app,h3,hk]
  congr 1
 rw [Cr_app,h4,hk]
 show _+(inc ⟨23,9,m.sz,[],m.op⟩ 39+(inc (nx ⟨23,9,m.sz,[],m.op⟩ 39) 93+0))=_
 rw [nq]
 unfold inc
 rw [nq,n4]
 rfl
end Tr
