import Derived.Test.YtcbadebjpogmlaaGreatDoorAHc
namespace Tr
def heldB (hd:Option Nat) (n:Nat):Bool:=match hd with
 | none=>false
 | some h=>decide (h<n)
def heldI (hd:Option Nat) (n:Nat):Bool:=match hd with
 | none=>false
 | some h=>decide (h≤n)
theorem held_in {hd:Option Nat} {n:Nat} (h:heldI hd n=false):heldB hd n=false:=by
 cases hd with
 | none=>rfl
 | some k=>simp [heldI,heldB] at *; omega
def FrI (hd:Option Nat):List Fm→Nat→Prop
 | [],_=>True
 | f::r,ix=>f.kp=heldB hd r.length∧(heldI hd r.length=true→ix=f.ws.length)∧(heldI hd r.length=false→f.ws=[])∧FrI hd r f.ix
theorem FrI.out {hd hd':Option Nat}:∀{l:List Fm} {ix ix':Nat},(∀m,m<l.length→heldI hd m=false)→(∀m,m<l.length→heldI hd' m=false)→FrI hd l ix→FrI hd' l ix'
 | [],_,_,_,_,_=>trivial
 | f::r,_,_,a,b,⟨h1,_,h3,h4⟩=>by
  have a0:=a r.length (by simp)
  have b0:=b r.length (by simp)
  refine ⟨?_,fun e=>?_,fun _=>h3 a0,FrI.out (fun m hm=>a m (by simp; omega)) (fun m hm=>b m (by simp; omega)) h4⟩
  ·rw [h1,held_in a0,held_in b0]
  rw [b0] at e; cases e
def szF (f:Fm):Nat:=1+(f.ws.flatMap (allT 10)).length
def szS (st:List Fm):Nat:=(st.map szF).sum
theorem all_up (n:Nat) (t:Tv):(allT n t).length≤(allT (n+1) t).length:=by
 induction n generalizing t with
 | zero=>simp [allT]
 | succ n ih =>
  show (t::t.ws.flatMap (allT n)).length≤(t::t.ws.flatMap (allT (n+1))).length
  have:∀l:List Tv,(l.flatMap (allT n)).length≤(l.flatMap (allT (n+1))).length:=by
   intro l
   induction l with
   | nil=>simp
   | cons a l h2=>simp only [List.flatMap_cons,List.length_append]; have:=ih a; omega
  have:=this t.ws
  simp only [List.length_cons]; omega
theorem all_szF (f:Fm) (to:Nat):(allT 10 (f.tv to)).length≤szF f:=by
 show (f.tv to::f.ws.flatMap (allT 9)).length≤1+(f.ws.flatMap (allT 10)).length
 have:∀l:List Tv,(l.flatMap (allT 9)).length≤(l.flatMap (allT 10)).length:=by
  intro l
  induction l with
  | nil=>simp
  | cons a l h2=>simp only [List.flatMap_cons,List.length_append]; have:=all_up 9 a; simp only [Nat.reduceAdd] at this; omega
 have:=this f.ws
 simp only [List.length_cons]; omega
theorem cntT_le (xs:List Sg):∀(n:Nat) (t:Tv) (tl:List Ct),(cntT xs n t tl).length≤(allT n t).length
 | 0,_,_=>Nat.le_refl _
 | n+1,t,tl=>by
  show ((t.ws.zipIdx.flatMap (fun p=>cntT xs n p.1 (tlOf xs t.d.kind t.ws.length p.2 p.1 tl)))++(if 0<(ctAt tl xs.length).its then [(t,(ctAt tl xs.length).its)] else [])).length≤(t::t.ws.flatMap (allT n)).length
  have key:∀(l:List Tv) (i m:Nat),((l.zipIdx i).flatMap (fun p=>cntT xs n p.1 (tlOf xs t.d.kind m p.2 p.1 tl))).length≤(l.flatMap (allT n)).length:=by
   intro l
   induction l with
   | nil=>intro _ _; simp
   | cons a l ih =>
    intro i m
    have h1:=ih (i+1) m
    have h2:=cntT_le xs n a (tlOf xs t.d.kind m i a tl)
    simp only [List.zipIdx_cons,List.flatMap_cons,List.length_append]
    omega
  have h1:=key t.ws 0 t.ws.length
  rw [List.length_append,List.length_cons]
  split<;>simp only [List.length_cons,List.length_nil]<;>omega
def Zh (xs:List Sg) (tl:List Ct):Prop:=headS xs<xs.length→∀k,headS xs≤k→ctAt tl k=⟨0,0⟩
theorem ct_far {tl:List Ct} {k:Nat} (h:tl.length≤k):ctAt tl k=⟨0,0⟩:=by
 unfold ctAt; rw [List.getD_eq_getElem?_getD,List.getElem?_eq_none h]; rfl
theorem ct_succ (a:Ct) (l:List Ct) (k:Nat):ctAt (a::l) (k+1)=ctAt l k:=by
 unfold ctAt; rw [List.getD_cons_succ]
theorem ct_zero (a:Ct) (l:List Ct):ctAt (a::l) 0=a:=rfl
theorem zh_kid {xs:List Sg} {tl:List Ct} (hl:tl.length=xs.length+1) (h:Zh xs tl) (pk L i:Nat) (c:Tv) (h0:¬0<(ctAt (tlOf xs pk L i c tl) (headS xs)).its):Zh xs (tlOf xs pk L i c tl):=fun hlt k hk=>by
 have Z:=h hlt
 have hgl:=tlGo_len pk L i c xs tl hl
 cases k with
 | zero =>
  have e0:headS xs=0:=by omega
  have z0:=Z 0 (by omega)
  cases tl with
  | nil=>simp at hl
  | cons p ps =>
   rw [ct_zero] at z0
   show (⟨0,p.al⟩:Ct)=⟨0,0⟩
   rw [z0]
 | succ k =>
  unfold tlOf at h0 ⊢
  rw [ct_succ]
  by_cases hkl:k<xs.length
  ·have e:=tlGo_at pk L i c xs tl hl k hkl
   rw [e]
   have z1:=Z (k+1) hk
   by_cases hh:headS xs≤k
   ·have z2:=Z k hh
    rw [z1,z2]; simp
   have ek:headS xs=k+1:=by omega
   rw [ek,ct_succ,e] at h0
   simp only at h0
   have h0:((if xs[k].deep=true then (ctAt tl k).al else (ctAt tl k).its) * cntS xs[k].l pk L i c)=0:=by omega
   rw [h0,z1]
  exact ct_far (by rw [hgl]; omega)
theorem zh_out {xs:List Sg} (h0:¬0<(ctAt (tlOut xs.length) (headS xs)).its):Zh xs (tlOut xs.length):=fun hlt k hk=>by
 cases k with
 | zero =>
  have e0:headS xs=0:=by omega
  rw [e0] at h0
  exact absurd (by decide:0<1) h0
 | succ k =>
  unfold tlOut
  rw [ct_succ]
  unfold ctAt
  rw [List.getD_eq_getElem?_getD]
  by_cases q:k<xs.length
  ·simp [q]
  rw [List.getElem?_eq_none (by simp; omega)]; rfl
structure FOk (xs:List Sg) (s:Fw):Prop where
 n:s.told.length+szS s.g.st≤s.g.bd
 fr:FrI s.hd s.g.st s.g.ix
 tl:s.tl.length=(match s.hd with | none=>s.g.st.length | some h=>h+1)
 hd:∀h,s.hd=some h→h<s.g.st.length
 ct:∀i (h:i<s.tl.length),CtB xs i s.tl[i]
 z:∀i (h:i<s.tl.length),(s.hd=none∨i+1<s.tl.length)→Zh xs s.tl[i]
theorem fInit_ok (xs:List Sg):FOk xs fInit:=⟨by simp [fInit,gInit,szS],trivial,rfl,fun h e=>(by cases e),fun i h=>(by cases h),fun i h=>(by cases h)⟩
theorem FOk.may {xs:List Sg} {s:Fw} (h:FOk xs s):mayKeep s.g s.hd.isSome:=fun hs p q e=>by
 have hf:=h.fr
 rw [e] at hf
 cases hh:s.hd with
 | none=>rw [hh] at hs; cases hs
 | some k =>
  have:=h.hd k hh
  rw [e] at this
  refine hf.2.1 ?_
  rw [hh]; simp [heldI]; simp at this; omega
def fPush (xs:List Sg) (s:Fw) (d:Dat) (b:Nat):Fw:={ fBeg xs s d with g:=⟨⟨d,s.g.ix,s.hd.isSome,[]⟩::s.g.st,[],0,b+1,s.g.last⟩ }
theorem last_at {α:Type} (l:List α) (a:α) (h:l≠[]):l.getLastD a=l[l.length - 1]'(by cases l with | nil=>exact absurd rfl h | cons x y=>simp):=by
 cases l with
 | nil=>exact absurd rfl h
 | cons x y=>simp [List.getLastD,List.getLast_eq_getElem]
theorem fOk_push {xs:List Sg} (hx:∀g ∈ xs,0<g.l.length) {s:Fw} (h:FOk xs s) (d:Dat) {b:Nat} (hb:s.g.bd≤b):FOk xs (fPush xs s d b):=by
 have hn:=h.n
 cases hh:s.hd with
 | some k =>
  have hk:=h.hd k hh
  have e:fPush xs s d b={ s with g:=⟨⟨d,s.g.ix,true,[]⟩::s.g.st,[],0,b+1,s.g.last⟩ }:=by unfold fPush fBeg; rw [hh]; simp [hh]
  rw [e]
  have htl:=h.tl
  rw [hh] at htl
  refine ⟨?_,?_,?_,fun j hj=>?_,h.ct,fun i hi hz=>h.z i hi hz⟩
  ·show s.told.length+szS (⟨d,s.g.ix,true,[]⟩::s.g.st)≤b+1
   have:szS (⟨d,s.g.ix,true,[]⟩::s.g.st)=1+szS s.g.st:=by simp [szS,szF]
   omega
  ·show FrI s.hd (⟨d,s.g.ix,true,[]⟩::s.g.st) 0
   refine ⟨?_,fun _=>rfl,fun _=>rfl,h.fr⟩
   rw [hh]; simp [heldB,hk]
  ·show s.tl.length=_
   rw [hh]; exact htl
  show j<(⟨d,s.g.ix,true,[]⟩::s.g.st:List Fm).length
  have hj:s.hd=some j:=hj
  have:=h.hd j hj
  simp; omega
 | none =>
  have htl:=h.tl
  rw [hh] at htl
  simp only at htl
  -- the new tally
  have hT:CtB xs s.g.st.length (fTly xs s d)∧(¬0<(ctAt (fTly xs s d) (headS xs)).its→Zh xs (fTly xs s d)):=by
   unfold fTly
   cases hs:s.g.st with
   | nil=>exact ⟨ctb_out xs hx,zh_out⟩
   | cons p q =>
    have hne:s.tl≠[]:=fun e=>by rw [e,hs] at htl; simp at htl
    have hlt:s.tl.length - 1<s.tl.length:=by rw [htl,hs]; simp
    have hc:=h.ct (s.tl.length - 1) hlt
    have e1:s.tl.length - 1=q.length:=by rw [htl,hs]; simp
    simp only
    rw [last_at s.tl [] hne]
    refine ⟨?_,fun h0=>zh_kid hc.len (h.z _ hlt (Or.inl hh)) _ _ _ _ h0⟩
    have:=ctb_kid hc p.d.kind p.ws.length s.g.ix ⟨d,[]⟩
    have e2:(p::q).length=s.tl.length - 1+1:=by rw [e1]; simp
    rw [e2]; exact this
  obtain ⟨hd',hhd⟩:∃hd',hd'=if headS xs<xs.length∧0<(ctAt (fTly xs s d) (headS xs)).its then some s.g.st.length else none:=⟨_,rfl⟩
  have e:fPush xs s d b=⟨⟨⟨d,s.g.ix,false,[]⟩::s.g.st,[],0,b+1,s.g.last⟩,s.tl++[fTly xs s d],hd',s.told⟩:=by unfold fPush fBeg; rw [hh,hhd]; simp
  have h01:hd'=some s.g.st.length∨(hd'=none∧Zh xs (fTly xs s d)):=by
   rw [hhd]
   split
   ·exact Or.inl rfl
   rename_i hneg
   refine Or.inr ⟨rfl,fun hlt=>?_⟩
   exact hT.2 (fun y=>hneg ⟨hlt,y⟩) hlt
  clear hhd
  rw [e]
  have hin:∀m,m<s.g.st.length→heldI hd' m=false:=fun m hm=>by
   rcases h01 with y | ⟨y,_⟩
   ·rw [y]; simp [heldI]; omega
   rw [y]; rfl
  refine ⟨?_,?_,?_,fun j hj=>?_,fun i hi=>?_,fun i hi hz=>?_⟩
  ·show s.told.length+szS (⟨d,s.g.ix,false,[]⟩::s.g.st)≤b+1
   have:szS (⟨d,s.g.ix,false,[]⟩::s.g.st)=1+szS s.g.st:=by simp [szS,szF]
   omega
  ·show FrI hd' (⟨d,s.g.ix,false,[]⟩::s.g.st) 0
   refine ⟨?_,fun _=>rfl,fun _=>rfl,?_⟩
   ·rcases h01 with y | ⟨y,_⟩<;>rw [y]<;>simp [heldB]
   have:=h.fr
   rw [hh] at this
   exact FrI.out (fun _ _=>rfl) hin this
  ·show (s.tl++[fTly xs s d]).length=_
   rcases h01 with y | ⟨y,_⟩<;>simp [y,htl]
  ·have hj:hd'=some j:=hj
   show j<(⟨d,s.g.ix,false,[]⟩::s.g.st:List Fm).length
   rcases h01 with y | ⟨y,_⟩
   ·rw [y] at hj
    have:=Option.some.inj hj
    simp; omega
   rw [y] at hj; cases hj
  ·have hi:i<(s.tl++[fTly xs s d]).length:=hi
   show CtB xs i (s.tl++[fTly xs s d])[i]
   by_cases hlt:i<s.tl.length
   ·rw [List.getElem_append_left hlt]; exact h.ct i hlt
   have ei:i=s.tl.length:=by simp at hi; omega
   subst ei
   simp only [List.getElem_concat_length]
   rw [htl]; exact hT.1
  have hi:i<(s.tl++[fTly xs s d]).length:=hi
  show Zh xs (s.tl++[fTly xs s d])[i]
  by_cases hlt:i<s.tl.length
  ·rw [List.getElem_append_left hlt]; exact h.z i hlt (Or.inl hh)
  have ei:i=s.tl.length:=by simp at hi; omega
  subst ei
  simp only [List.getElem_concat_length]
  rcases h01 with y | ⟨y,z⟩
  ·rcases hz with k | k
   ·have k:hd'=none:=k
    rw [y] at k; cases k
   simp at k
  exact z
theorem gOn_false (r:List Fm) (t:Tv):gOn r false t=r:=by cases r<;>simp [gOn,gKeep]
theorem fOk_cls {xs:List Sg} {s:Fw} (h:FOk xs s) {f:Fm} {r:List Fm} (hs:s.g.st=f::r) (to:Nat):FOk xs { fCls xs s (f.tv to) r.length with g:=gClose s.g f r to }:=by
 have hn:=h.n
 have hf:=h.fr
 rw [hs] at hn hf
 have hsz:szS (f::r)=szF f+szS r:=by simp [szS]
 have hall:=all_szF f to
 obtain ⟨f1,f2,f3,f4⟩:=hf
 by_cases hc:s.hd.isSome=true∧s.hd≠some r.length
 ·obtain ⟨k,hk⟩:∃k,s.hd=some k:=Option.isSome_iff_exists.1 hc.1
  have hk1:=h.hd k hk
  rw [hs] at hk1
  have hk2:k<r.length:=by
   have:k≠r.length:=fun e=>hc.2 (by rw [hk,e])
   simp at hk1; omega
  have ekp:f.kp=true:=by rw [f1,hk]; simp [heldB,hk2]
  have e:{ fCls xs s (f.tv to) r.length with g:=gClose s.g f r to }={ s with g:=gClose s.g f r to }:=by unfold fCls; rw [if_pos hc]
  rw [e]
  cases r with
  | nil=>simp at hk2
  | cons p q =>
   obtain ⟨p1,p2,p3,p4⟩:=f4
   have hin:heldI s.hd q.length=true:=by rw [hk]; simp [heldI]; simp at hk2; omega
   have eg:(gClose s.g f (p::q) to).st={ p with ws:=p.ws++[f.tv to] }::q:=by simp [gClose,gOn,gKeep,ekp]
   refine ⟨?_,?_,?_,fun j hj=>?_,h.ct,h.z⟩
   ·show s.told.length+szS (gClose s.g f (p::q) to).st≤s.g.bd
    rw [eg]
    have e1:szS ({ p with ws:=p.ws++[f.tv to] }::q)=szF p+(allT 10 (f.tv to)).length+szS q:=by simp [szS,szF]; omega
    have e2:szS (p::q)=szF p+szS q:=by simp [szS]
    omega
   ·show FrI s.hd (gClose s.g f (p::q) to).st (f.ix+1)
    rw [eg]
    refine ⟨p1,fun _=>?_,fun y=>?_,p4⟩
    ·have:=p2 hin
     simp; omega
    rw [hin] at y; cases y
   ·show s.tl.length=match s.hd with | none=>(gClose s.g f (p::q) to).st.length | some h=>h+1
    have:=h.tl
    rw [hk] at this ⊢; exact this
   show j<(gClose s.g f (p::q) to).st.length
   have hj:s.hd=some j:=hj
   rw [hk] at hj
   have:=Option.some.inj hj
   rw [eg]; simp at hk2 ⊢; omega
 have hkp:f.kp=false:=by
  rw [f1]
  cases hh:s.hd with
  | none=>rfl
  | some k =>
   have:k=r.length:=Decidable.byContradiction fun y=>hc ⟨by rw [hh]; rfl,fun z=>y (by rw [hh] at z; exact Option.some.inj z)⟩
   simp [heldB,this]
 have hin:∀m,m<r.length→heldI s.hd m=false:=fun m hm=>by
  cases hh:s.hd with
  | none=>rfl
  | some k =>
   have:k=r.length:=Decidable.byContradiction fun y=>hc ⟨by rw [hh]; rfl,fun z=>y (by rw [hh] at z; exact Option.some.inj z)⟩
   simp [heldI,this]; omega
 have htl:s.tl.length=r.length+1:=by
  have:=h.tl
  cases hh:s.hd with
  | none=>rw [hh,hs] at this; simpa using this
  | some k =>
   have e:k=r.length:=Decidable.byContradiction fun y=>hc ⟨by rw [hh]; rfl,fun z=>y (by rw [hh] at z; exact Option.some.inj z)⟩
   rw [hh] at this
   simp only at this
   omega
 have e:{ fCls xs s (f.tv to) r.length with g:=gClose s.g f r to }=⟨gClose s.g f r to,s.tl.dropLast,none,s.told++cntT xs 10 (f.tv to) (s.tl.getLastD [])⟩:=by unfold fCls; rw [if_neg hc]
 rw [e]
 have eg:(gClose s.g f r to).st=r:=by simp [gClose,hkp,gOn_false]
 refine ⟨?_,?_,?_,fun j hj=>(by cases hj),fun i hi=>?_,fun i hi _=>?_⟩
 ·show (s.told++cntT xs 10 (f.tv to) (s.tl.getLastD [])).length+szS (gClose s.g f r to).st≤s.g.bd
  rw [eg,List.length_append]
  have:=cntT_le xs 10 (f.tv to) (s.tl.getLastD [])
  omega
 ·show FrI none (gClose s.g f r to).st (f.ix+1)
  rw [eg]
  exact FrI.out hin (fun _ _=>rfl) f4
 ·show s.tl.dropLast.length=(gClose s.g f r to).st.length
  rw [eg,List.length_dropLast]; omega
 ·have hi:i<s.tl.dropLast.length:=hi
  show CtB xs i s.tl.dropLast[i]
  rw [List.getElem_dropLast]
  exact h.ct i (by rw [List.length_dropLast] at hi; omega)
 have hi:i<s.tl.dropLast.length:=hi
 show Zh xs s.tl.dropLast[i]
 rw [List.getElem_dropLast]
 rw [List.length_dropLast] at hi
 exact h.z i (by omega) (Or.inr (by omega))
theorem fOk_take {xs:List Sg} (hx:∀g ∈ xs,0<g.l.length) {s:Fw} (h:FOk xs s) {t:Tok} (ht:TokOk s.g.sh t):FOk xs (fTake xs s t):=by
 unfold fTake
 by_cases h0:t.k=0
 ·rw [if_pos h0]
  have:=fOk_push hx h (gDat s.g t) (b:=t.frm) (ht.k0 h0).2.2.2.2
  unfold fPush at this
  unfold gTake
  rw [if_pos h0]
  exact this
 rw [if_neg h0]
 by_cases h1:t.k=1
 ·rw [if_pos h1]
  cases hs:s.g.st with
  | nil=>exact h
  | cons f r =>
   have:=fOk_cls h hs t.to
   simp only
   have e:gTake s.g t true=gClose s.g f r t.to:=by unfold gTake; rw [if_neg h0,if_pos h1,hs]
   rw [e]; exact this
 rw [if_neg h1]
 by_cases h2:t.k=2
 ·rw [if_pos h2]
  have e:gTake s.g t true={ s.g with nm:=t.t }:=by unfold gTake; rw [if_neg h0,if_neg h1,if_pos h2]
  rw [e]
  exact ⟨h.n,h.fr,h.tl,h.hd,h.ct,h.z⟩
 rw [if_neg h2]
 have P:=fOk_push hx h (gDat s.g t) (b:=t.frm) (ht.k3 (by have:=ht.k; omega)).2.2.2.2
 have Q:=fOk_cls P (f:=⟨gDat s.g t,s.g.ix,s.hd.isSome,[]⟩) (r:=s.g.st) rfl t.to
 have e:gTake s.g t s.hd.isSome=gClose { s.g with nm:=[],bd:=t.frm+1 } (gBegin s.g t s.hd.isSome) s.g.st t.to:=by unfold gTake; rw [if_neg h0,if_neg h1,if_neg h2]
 rw [e]
 have e2:({ fCls xs (fBeg xs s (gDat s.g t)) ((gBegin s.g t true).tv t.to) s.g.st.length with g:=gClose { s.g with nm:=[],bd:=t.frm+1 } (gBegin s.g t s.hd.isSome) s.g.st t.to }:Fw)={ fCls xs (fPush xs s (gDat s.g t) t.frm) ((⟨gDat s.g t,s.g.ix,s.hd.isSome,[]⟩:Fm).tv t.to) s.g.st.length with g:=gClose (fPush xs s (gDat s.g t) t.frm).g ⟨gDat s.g t,s.g.ix,s.hd.isSome,[]⟩ s.g.st t.to }:=by
  unfold fPush fCls
  simp only
  split
  ·rfl
  rfl
 rw [e2]; exact Q
end Tr
namespace Tr
def SrtOk (xs:List Sg):Prop:=∀g ∈ xs,∀x ∈ g.l,0<x.sort∧x.sort≤5
theorem sel_srt (s:List UInt8) (a:Nat):0<(pSel s a).v.sort∧(pSel s a).v.sort≤5:=by
 unfold pSel
 repeat' split
 all_goals simp
theorem sels_srt (s:List UInt8):∀(n a:Nat) (l:List Sel),(∀x ∈ l,0<x.sort∧x.sort≤5)→∀x ∈ (pSels s n a l).v,0<x.sort∧x.sort≤5
 | 0,_,_,h=>h
 | n+1,a,l,h=>by
  have h2:∀x ∈ l++[(pSel s a).v],0<x.sort∧x.sort≤5:=fun x hx=>by
   rcases List.mem_append.1 hx with e | e
   ·exact h x e
   rw [List.mem_singleton.1 e]; exact sel_srt s a
  rw [pSels]
  split
  ·exact sels_srt s n _ _ h2
  exact h2
theorem word_srt (s:List UInt8) (a:Nat):∀x ∈ (pWord s a).v,0<x.sort∧x.sort≤5:=by
 unfold pWord; split<;>simp
theorem seg_srt (s:List UInt8) (a:Nat):∀x ∈ (pSeg s a).v.l,0<x.sort∧x.sort≤5:=by
 have h:∀a,∀x ∈ (pBr s a).v,0<x.sort∧x.sort≤5:=fun a=>sels_srt s _ _ _ (by simp)
 unfold pSeg
 split
 ·exact h a
 split
 ·split
  ·exact h _
  exact word_srt s _
 exact word_srt s _
theorem segs_srt (s:List UInt8):∀(n a:Nat) (l:List Sg),SrtOk l→SrtOk (pSegs s n a l)
 | 0,_,_,h=>h
 | n+1,a,l,h=>by
  rw [pSegs]
  split
  ·refine segs_srt s n _ _ (fun g hg=>?_)
   rcases List.mem_append.1 hg with x | x
   ·exact h g x
   rw [List.mem_singleton.1 x]; exact seg_srt s a
  exact h
theorem query_srt (s:List UInt8):SrtOk (pQuery s):=segs_srt s _ _ _ (fun g hg=>by cases hg)
theorem takes_swap {x:Sel} (hs:0<x.sort∧x.sort≤5) (hl:x.late=false) (pk L L' i:Nat) {c c':Tv} (hn:c.d.name=c'.d.name):takes1 x pk L i c=takes1 x pk L' i c':=by
 unfold Sel.late at hl
 simp only [Bool.or_eq_false_iff,beq_eq_false_iff_ne,Bool.and_eq_false_iff,decide_eq_false_iff_not] at hl
 unfold takes1
 rw [hn]
 by_cases h1:x.sort=1
 ·simp [h1]
 by_cases h2:x.sort=2
 ·simp [h2]
 by_cases h3:x.sort=3
 ·have:¬x.n<0:=by
   rcases hl.2 with y | y
   ·exact absurd h3 y
   exact y
  simp [h3,this]
 by_cases h4:x.sort=4
 ·simp [h4]
 exact absurd (by omega:x.sort=5) hl.1
theorem cnt_swap {l:List Sel} (hs:∀x ∈ l,0<x.sort∧x.sort≤5) (hl:l.any Sel.late=false) (pk L L' i:Nat) {c c':Tv} (hn:c.d.name=c'.d.name):cntS l pk L i c=cntS l pk L' i c':=by
 unfold cntS
 congr 1
 apply List.map_congr_left
 intro x hx
 have:x.late=false:=by
  rw [List.any_eq_false] at hl
  simpa using hl x hx
 rw [takes_swap (hs x hx) this pk L L' i hn]
theorem not_late {xs:List Sg} {k:Nat} (hk:k<xs.length) (h:k<headS xs):xs[k].l.any Sel.late=false:=by
 have:=List.not_of_lt_findIdx (p:=Sg.late) (xs:=xs) h
 unfold Sg.late at this
 simpa using this
theorem tl_swap {xs:List Sg} (hs:SrtOk xs) {tl:List Ct} (hl:tl.length=xs.length+1) (hz:Zh xs tl) (pk L L' i:Nat) {c c':Tv} (hn:c.d.name=c'.d.name):tlOf xs pk L i c tl=tlOf xs pk L' i c' tl:=by
 unfold tlOf
 congr 1
 have l1:=tlGo_len pk L i c xs tl hl
 have l2:=tlGo_len pk L' i c' xs tl hl
 apply List.ext_getElem (by rw [l1,l2])
 intro k h1 h2
 have hk:k<xs.length:=by omega
 have a1:=tlGo_at pk L i c xs tl hl k hk
 have a2:=tlGo_at pk L' i c' xs tl hl k hk
 have e1:ctAt (tlGo pk L i c xs tl) k=(tlGo pk L i c xs tl)[k]:=by unfold ctAt; rw [List.getD_eq_getElem?_getD,List.getElem?_eq_getElem h1]; rfl
 have e2:ctAt (tlGo pk L' i c' xs tl) k=(tlGo pk L' i c' xs tl)[k]:=by unfold ctAt; rw [List.getD_eq_getElem?_getD,List.getElem?_eq_getElem h2]; rfl
 rw [← e1,← e2,a1,a2]
 by_cases hh:k<headS xs
 ·rw [cnt_swap (hs _ (List.getElem_mem hk)) (not_late hk hh) pk L L' i hn]
 have z:=hz (by omega) k (by omega)
 rw [z]
 simp
def tp (p:Tv×Nat):Dat×Nat:=(p.1.d,p.2)
def kidsT (xs:List Sg) (n kind:Nat) (ws:List Tv) (tl:List Ct):List (Tv×Nat):=ws.zipIdx.flatMap (fun p=>cntT xs n p.1 (tlOf xs kind ws.length p.2 p.1 tl))
def ownT (xs:List Sg) (t:Tv) (tl:List Ct):List (Tv×Nat):=if 0<(ctAt tl xs.length).its then [(t,(ctAt tl xs.length).its)] else []
theorem cntT_succ (xs:List Sg) (n:Nat) (t:Tv) (tl:List Ct):cntT xs (n+1) t tl=kidsT xs n t.d.kind t.ws tl++ownT xs t tl:=rfl
theorem own_tp (xs:List Sg) {t t':Tv} (h:t.d=t'.d) (tl:List Ct):(ownT xs t tl).map tp=(ownT xs t' tl).map tp:=by
 unfold ownT; split
 ·simp [tp,h]
 rfl
theorem cntT_deep (xs:List Sg):∀{n m:Nat} {t:Tv} (tl:List Ct),Deep n t→n≤m→cntT xs m t tl=cntT xs n t tl
 | 0,_,_,_,h,_=>h.elim
 | n+1,0,_,_,_,h=>absurd h (by omega)
 | n+1,m+1,t,tl,h,hm=>by
  rw [cntT_succ,cntT_succ]
  congr 1
  unfold kidsT
  apply fm_congr
  intro p hp
  have:p.1 ∈ t.ws:=by
   have:=List.mem_zipIdx hp
   rw [this.2.2]; exact List.getElem_mem _
  exact cntT_deep xs _ (h _ this) (by omega)
theorem kids_app {xs:List Sg} (hs:SrtOk xs) {tl:List Ct} (hl:tl.length=xs.length+1) (hz:Zh xs tl) (n kind:Nat) (ws:List Tv) (c:Tv):kidsT xs n kind (ws++[c]) tl=kidsT xs n kind ws tl++cntT xs n c (tlOf xs kind 0 ws.length ⟨c.d,[]⟩ tl):=by
 unfold kidsT
 rw [List.zipIdx_append,List.flatMap_append]
 congr 1
 ·apply fm_congr
  intro p _
  rw [tl_swap hs hl hz kind (ws++[c]).length ws.length p.2 (c:=p.1) (c':=p.1) rfl]
 simp only [List.zipIdx_cons,List.zipIdx_nil,List.flatMap_cons,List.flatMap_nil,List.append_nil,Nat.zero_add]
 rw [tl_swap hs hl hz kind (ws++[c]).length 0 ws.length (c:=c) (c':=⟨c.d,[]⟩) rfl]
def toldS (xs:List Sg) (tl:List (List Ct)) (m:Nat):List Fm→List (Dat×Nat)
 | []=>[]
 | f::r=>toldS xs tl m r++(if r.length<m then (kidsT xs (9 - r.length) f.d.kind f.ws (tl.getD r.length [])).map tp else [])
theorem toldS_congr {xs:List Sg} {tl tl':List (List Ct)} {m m':Nat}:∀{l:List Fm},(∀i,i<l.length→(i<m↔i<m')∧(i<m→tl.getD i []=tl'.getD i []))→toldS xs tl m l=toldS xs tl' m' l
 | [],_=>rfl
 | f::r,h=>by
  have h0:=h r.length (by simp)
  rw [toldS,toldS,toldS_congr (l:=r) (fun i hi=>h i (by simp; omega))]
  by_cases q:r.length<m
  ·rw [if_pos q,if_pos (h0.1.1 q),h0.2 q]
  rw [if_neg q,if_neg (fun y=>q (h0.1.2 y))]
def FrR (hd:Option Nat):List Fm→List Fm→Prop
 | [],[]=>True
 | f::r,F::R=>f.d=F.d∧f.ix=F.ix∧(heldI hd r.length=true→f.ws=F.ws)∧FrR hd r R
 | _,_=>False
theorem FrR.len {hd:Option Nat}:∀{a b:List Fm},FrR hd a b→a.length=b.length
 | [],[],_=>rfl
 | _::_,_::_,h=>by simp [FrR.len h.2.2.2]
 | [],_::_,h=>h.elim
 | _::_,[],h=>h.elim
theorem FrR.out {hd hd':Option Nat}:∀{a b:List Fm},(∀m,m<a.length→heldI hd' m=false)→FrR hd a b→FrR hd' a b
 | [],[],_,_=>trivial
 | f::r,F::R,h,⟨h1,h2,_,h4⟩=>⟨h1,h2,fun e=>(by rw [h r.length (by simp)] at e; cases e),FrR.out (fun m hm=>h m (by simp; omega)) h4⟩
 | [],_::_,_,h=>h.elim
 | _::_,[],_,h=>h.elim
def TlR (xs:List Sg) (tl:List (List Ct)):List Fm→Prop
 | []=>True
 | f::r=>(r.length<tl.length→tl.getD r.length []=(match r with | []=>tlOut xs.length | p::q=>tlOf xs p.d.kind 0 f.ix ⟨f.d,[]⟩ (tl.getD q.length [])))∧TlR xs tl r
theorem TlR.congr {xs:List Sg} {tl tl':List (List Ct)} (hl:tl'.length≤tl.length):∀{l:List Fm},(∀i,i<l.length→i<tl'.length→tl'.getD i []=tl.getD i [])→TlR xs tl l→TlR xs tl' l
 | [],_,_=>trivial
 | f::r,h,⟨h1,h2⟩=>by
  refine ⟨fun hr=>?_,TlR.congr hl (fun i hi=>h i (by simp; omega)) h2⟩
  rw [h r.length (by simp) hr,h1 (by omega)]
  cases r with
  | nil=>rfl
  | cons p q=>simp only; rw [h q.length (by simp; omega) (by simp at hr; omega)]
def lvl (s:Fw):Nat:=match s.hd with
 | none=>s.g.st.length
 | some h=>h
theorem TlR.app {xs:List Sg} {tl:List (List Ct)} (T:List Ct):∀{l:List Fm},l.length≤tl.length→TlR xs tl l→TlR xs (tl++[T]) l
 | [],_,_=>trivial
 | f::r,hl,⟨h1,h2⟩=>by
  have g:∀i,i<tl.length→(tl++[T]).getD i []=tl.getD i []:=fun i hi=>by
   rw [List.getD_eq_getElem?_getD,List.getD_eq_getElem?_getD,List.getElem?_append_left hi]
  have hl:r.length<tl.length:=by simp only [List.length_cons] at hl; omega
  refine ⟨fun _=>?_,TlR.app T (by omega) h2⟩
  rw [g _ hl,h1 hl]
  cases r with
  | nil=>rfl
  | cons p q=>simp only; rw [g q.length (by simp at hl; omega)]
structure TW (xs:List Sg) (s:Fw) (G:Gs):Prop where
 ok:FOk xs s
 nm:s.g.nm=G.nm
 ix:s.g.ix=G.ix
 bd:s.g.bd=G.bd
 st:FrR s.hd s.g.st G.st
 tl:TlR xs s.tl G.st
 told:s.told.map tp=if G.st=[] then (match G.last with | none=>[] | some t=>(cntT xs 10 t (tlOut xs.length)).map tp) else toldS xs s.tl (lvl s) G.st
theorem kids_nil (xs:List Sg) (n kind:Nat) (tl:List Ct):kidsT xs n kind [] tl=[]:=rfl
theorem tw_push {xs:List Sg} (hx:∀g ∈ xs,0<g.l.length) {s:Fw} {G:Gs} (h:TW xs s G) (d:Dat) {b:Nat} (hb:s.g.bd≤b) (h1:G.st=[]→G.last=none):TW xs (fPush xs s d b) ⟨⟨d,G.ix,true,[]⟩::G.st,[],0,b+1,G.last⟩:=by
 have OK:=fOk_push hx h.ok d hb
 have hlen:=h.st.len
 have htl:=h.ok.tl
 have T0:s.told.map tp=toldS xs s.tl (lvl s) G.st:=by
  rw [h.told]
  by_cases e:G.st=[]
  ·rw [if_pos e,h1 e,e]; rfl
  rw [if_neg e]
 cases hh:s.hd with
 | some k =>
  have hk:=h.ok.hd k hh
  have e:fPush xs s d b={ s with g:=⟨⟨d,s.g.ix,true,[]⟩::s.g.st,[],0,b+1,s.g.last⟩ }:=by unfold fPush fBeg; rw [hh]; simp [hh]
  rw [e] at OK ⊢
  rw [hh] at htl
  simp only at htl
  refine ⟨OK,rfl,rfl,rfl,⟨rfl,h.ix,fun _=>rfl,h.st⟩,⟨fun y=>absurd y (by rw [← hlen]; simp only; omega),h.tl⟩,?_⟩
  show s.told.map tp=if (⟨d,G.ix,true,[]⟩::G.st:List Fm)=[] then _ else toldS xs s.tl (lvl { s with g:=⟨⟨d,s.g.ix,true,[]⟩::s.g.st,[],0,b+1,s.g.last⟩ }) (⟨d,G.ix,true,[]⟩::G.st)
  rw [if_neg (by simp),T0,toldS,kids_nil]
  have e2:lvl { s with g:=⟨⟨d,s.g.ix,true,[]⟩::s.g.st,[],0,b+1,s.g.last⟩ }=lvl s:=by unfold lvl; simp only [hh]
  rw [e2]
  simp
 | none =>
  rw [hh] at htl
  simp only at htl
  obtain ⟨hd',hhd⟩:∃hd',hd'=if headS xs<xs.length∧0<(ctAt (fTly xs s d) (headS xs)).its then some s.g.st.length else none:=⟨_,rfl⟩
  have e:fPush xs s d b=⟨⟨⟨d,s.g.ix,false,[]⟩::s.g.st,[],0,b+1,s.g.last⟩,s.tl++[fTly xs s d],hd',s.told⟩:=by unfold fPush fBeg; rw [hh,hhd]; simp
  have h01:hd'=some s.g.st.length∨hd'=none:=by
   rw [hhd]; split
   ·exact Or.inl rfl
   exact Or.inr rfl
  clear hhd
  rw [e] at OK ⊢
  have hin:∀m,m<s.g.st.length→heldI hd' m=false:=fun m hm=>by
   rcases h01 with y | y
   ·rw [y]; simp [heldI]; omega
   rw [y]; rfl
  have gd:∀i,i<s.tl.length→s.tl.getD i []=(s.tl++[fTly xs s d]).getD i []:=fun i hi=>by
   rw [List.getD_eq_getElem?_getD,List.getD_eq_getElem?_getD,List.getElem?_append_left hi]
  refine ⟨OK,rfl,rfl,rfl,⟨rfl,h.ix,fun _=>rfl,h.st.out hin⟩,⟨fun _=>?_,TlR.app _ (by omega) h.tl⟩,?_⟩
  ·simp only
   rw [← hlen,← htl]
   have:(s.tl++[fTly xs s d]).getD s.tl.length []=fTly xs s d:=by rw [List.getD_eq_getElem?_getD]; simp
   rw [this]
   have hst:=h.st
   cases hs:s.g.st with
   | nil =>
    rw [hs] at hst
    cases hG:G.st with
    | nil=>unfold fTly; rw [hs]
    | cons P Q=>rw [hG] at hst; exact hst.elim
   | cons p q =>
    rw [hs] at hst
    cases hG:G.st with
    | nil=>rw [hG] at hst; exact hst.elim
    | cons P Q =>
     rw [hG] at hst
     obtain ⟨q1,q2,q3,q4⟩:=hst
     have hfr:=h.ok.fr
     rw [hs,hh] at hfr
     have hw:p.ws=[]:=hfr.2.2.1 rfl
     simp only
     have hne:s.tl≠[]:=fun y=>by rw [y,hs] at htl; simp at htl
     have hq:Q.length<s.tl.length:=by rw [htl,hs,← q4.len]; simp
     rw [← gd _ hq]
     unfold fTly
     rw [hs]
     simp only
     rw [hw,last_at s.tl [] hne,q1,h.ix]
     have e3:s.tl.getD Q.length []=s.tl[s.tl.length - 1]'(by omega):=by
      rw [List.getD_eq_getElem?_getD,List.getElem?_eq_getElem hq]
      have:Q.length=s.tl.length - 1:=by rw [htl,hs,← q4.len]; simp
      simp [this]
     rw [e3]
     rfl
  show s.told.map tp=if (⟨d,G.ix,true,[]⟩::G.st:List Fm)=[] then _ else toldS xs (s.tl++[fTly xs s d]) (lvl ⟨⟨⟨d,s.g.ix,false,[]⟩::s.g.st,[],0,b+1,s.g.last⟩,s.tl++[fTly xs s d],hd',s.told⟩) (⟨d,G.ix,true,[]⟩::G.st)
  rw [if_neg (by simp),T0,toldS,kids_nil]
  have e3:∀{b:Prop} [Decidable b],(if b then List.map tp [] else [])=([]:List (Dat×Nat)):=by intro b _; split<;>rfl
  rw [e3,List.append_nil]
  apply toldS_congr
  intro i hi
  refine ⟨?_,fun _=>gd i (by omega)⟩
  have:lvl s=s.g.st.length:=by unfold lvl; rw [hh]
  rw [this]
  rcases h01 with y | y
  ·unfold lvl; simp only [y]
  unfold lvl; simp only [y,List.length_cons]; omega
theorem tw_cls {xs:List Sg} (hs:SrtOk xs) {s:Fw} {G:Gs} (h:TW xs s G) {f F:Fm} {r R:List Fm} (es:s.g.st=f::r) (eG:G.st=F::R) (hi:ixOk G.st G.ix) (hl:R.length≤8) (hdp:DeepS G.st) (to:Nat):TW xs { fCls xs s (f.tv to) r.length with g:=gClose s.g f r to } (gClose G F R to):=by
 have OK:=fOk_cls h.ok es to
 have hst:=h.st
 rw [es,eG] at hst
 rw [eG] at hi hdp
 obtain ⟨d1,d2,d3,d4⟩:=hst
 obtain ⟨i1,i2,i3⟩:=hi
 have hlen:=d4.len
 have T0:s.told.map tp=toldS xs s.tl (lvl s) (F::R):=by rw [h.told,eG,if_neg (by simp)]
 have htR:TlR xs s.tl (F::R):=by have:=h.tl; rw [eG] at this; exact this
 have hfr:=h.ok.fr
 rw [es] at hfr
 obtain ⟨f1,f2,f3,f4⟩:=hfr
 by_cases hc:s.hd.isSome=true∧s.hd≠some r.length
 ·obtain ⟨k,hk⟩:∃k,s.hd=some k:=Option.isSome_iff_exists.1 hc.1
  have hk1:=h.ok.hd k hk
  rw [es] at hk1
  have hk2:k<r.length:=by
   have:k≠r.length:=fun e=>hc.2 (by rw [hk,e])
   simp at hk1; omega
  have ekp:f.kp=true:=by rw [f1,hk]; simp [heldB,hk2]
  have e:{ fCls xs s (f.tv to) r.length with g:=gClose s.g f r to }={ s with g:=gClose s.g f r to }:=by unfold fCls; rw [if_pos hc]
  rw [e] at OK ⊢
  have ew:f.ws=F.ws:=d3 (by rw [hk]; simp [heldI]; omega)
  have et:f.tv to=F.tv to:=by unfold Fm.tv; rw [d1,ew]
  cases r with
  | nil=>simp at hk2
  | cons p q =>
   cases R with
   | nil=>exact d4.elim
   | cons P Q =>
    obtain ⟨p1,p2,p3,p4⟩:=d4
    have hql:=p4.len
    have hkq:k≤q.length:=by simp at hk2; omega
    have pw:p.ws=P.ws:=p3 (by rw [hk]; simp [heldI]; omega)
    have eg:(gClose s.g f (p::q) to).st={ p with ws:=p.ws++[f.tv to] }::q:=by simp [gClose,gOn,gKeep,ekp]
    have eG2:(gClose G F (P::Q) to).st={ P with ws:=P.ws++[F.tv to] }::Q:=by simp [gClose,gOn,gKeep,i2]
    refine ⟨OK,h.nm,?_,h.bd,?_,?_,?_⟩
    ·show f.ix+1=F.ix+1
     rw [d2]
    ·show FrR s.hd (gClose s.g f (p::q) to).st (gClose G F (P::Q) to).st
     rw [eg,eG2]
     exact ⟨p1,p2,fun _=>(by rw [et]; simp [pw]),p4⟩
    ·show TlR xs s.tl (gClose G F (P::Q) to).st
     rw [eG2]
     exact htR.2
    show s.told.map tp=if (gClose G F (P::Q) to).st=[] then _ else toldS xs s.tl (lvl { s with g:=gClose s.g f (p::q) to }) (gClose G F (P::Q) to).st
    have e2:lvl { s with g:=gClose s.g f (p::q) to }=k:=by unfold lvl; simp only [hk]
    have e3:lvl s=k:=by unfold lvl; simp only [hk]
    rw [eG2,if_neg (by simp),T0,e2,e3,toldS,toldS,toldS,if_neg (by simp; omega),if_neg (by omega),if_neg (by omega)]
    simp
 have hk:s.hd=none∨s.hd=some r.length:=by
  cases hh:s.hd with
  | none=>exact Or.inl rfl
  | some k =>
   have:k=r.length:=Decidable.byContradiction fun y=>hc ⟨by rw [hh]; rfl,fun z=>y (by rw [hh] at z; exact Option.some.inj z)⟩
   exact Or.inr (by rw [this])
 have hkp:f.kp=false:=by rcases hk with y | y<;>rw [f1,y]<;>simp [heldB]
 have htl:s.tl.length=r.length+1:=by
  have:=h.ok.tl
  rcases hk with y | y
  ·rw [y,es] at this; simpa using this
  rw [y] at this; exact this
 have e:{ fCls xs s (f.tv to) r.length with g:=gClose s.g f r to }=⟨gClose s.g f r to,s.tl.dropLast,none,s.told++cntT xs 10 (f.tv to) (s.tl.getLastD [])⟩:=by unfold fCls; rw [if_neg hc]
 rw [e] at OK ⊢
 have hne:s.tl≠[]:=fun y=>by rw [y] at htl; simp at htl
 obtain ⟨T,hT⟩:∃T,T=s.tl.getLastD []:=⟨_,rfl⟩
 have hT2:s.tl.getD R.length []=T:=by
  rw [hT,last_at s.tl [] hne,List.getD_eq_getElem?_getD,List.getElem?_eq_getElem (by omega)]
  have:R.length=s.tl.length - 1:=by omega
  simp [this]
 rw [← hT] at OK ⊢
 have hD:Deep (9 - R.length+1) (F.tv to):=hdp.1
 have TT:(s.told++cntT xs 10 (f.tv to) T).map tp=toldS xs s.tl R.length R++(cntT xs (9 - R.length+1) (F.tv to) T).map tp:=by
  rw [List.map_append,T0,toldS,hT2]
  rcases hk with y | y
  ·have fw:f.ws=[]:=f3 (by rw [y]; rfl)
   have lv:lvl s=R.length+1:=by unfold lvl; simp only [y,es,List.length_cons]; omega
   rw [lv,if_pos (by omega),cntT_succ xs 9,cntT_succ]
   have k0:kidsT xs 9 (f.tv to).d.kind (f.tv to).ws T=[]:=by show kidsT xs 9 _ f.ws T=[]; rw [fw]; rfl
   rw [k0,List.nil_append,List.map_append,own_tp xs (t:=f.tv to) (t':=F.tv to) (by unfold Fm.tv; rw [d1]),List.append_assoc,toldS_congr (m':=R.length) (tl':=s.tl) (fun i hi=>⟨by omega,fun _=>rfl⟩)]
   rfl
  have fw:f.ws=F.ws:=d3 (by rw [y]; simp [heldI])
  have lv:lvl s=R.length:=by unfold lvl; simp only [y]; omega
  rw [lv,if_neg (by omega),List.append_nil]
  have et:f.tv to=F.tv to:=by unfold Fm.tv; rw [d1,fw]
  rw [et,cntT_deep xs T hD (by omega)]
 have eg:(gClose s.g f r to).st=r:=by simp [gClose,hkp,gOn_false]
 have gd:∀i,i<s.tl.dropLast.length→s.tl.dropLast.getD i []=s.tl.getD i []:=fun i hi=>by
  rw [List.length_dropLast] at hi
  rw [List.getD_eq_getElem?_getD,List.getD_eq_getElem?_getD,List.getElem?_dropLast,if_pos hi]
 have hdl:s.tl.dropLast.length=R.length:=by rw [List.length_dropLast]; omega
 have d5:FrR none r R:=d4.out (fun _ _=>rfl)
 have eix:(gClose s.g f r to).ix=(gClose G F R to).ix:=by
  show f.ix+1=F.ix+1
  rw [d2]
 cases R with
 | nil =>
  have r0:r=[]:=List.eq_nil_of_length_eq_zero (by simpa using hlen)
  refine ⟨OK,h.nm,eix,h.bd,?_,trivial,?_⟩
  ·show FrR none (gClose s.g f r to).st []
   rw [eg,r0]; trivial
  show (s.told++cntT xs 10 (f.tv to) T).map tp=if (gClose G F [] to).st=[] then (match (gClose G F [] to).last with | none=>[] | some t=>(cntT xs 10 t (tlOut xs.length)).map tp) else _
  have:(gClose G F [] to).st=[]:=rfl
  rw [if_pos this,TT]
  have hTo:T=tlOut xs.length:=by rw [← hT2]; exact htR.1 (by simp; omega)
  rw [hTo]
  rfl
 | cons P Q =>
  have eG2:(gClose G F (P::Q) to).st={ P with ws:=P.ws++[F.tv to] }::Q:=by simp [gClose,gOn,gKeep,i2]
  have hQ:Q.length<s.tl.length:=by simp at hlen; omega
  have hQ2:Q.length+1<s.tl.length:=by simp at hlen; omega
  have hTo:T=tlOf xs P.d.kind 0 F.ix ⟨F.d,[]⟩ (s.tl.getD Q.length []):=by rw [← hT2]; exact htR.1 (by omega)
  refine ⟨OK,h.nm,eix,h.bd,?_,?_,?_⟩
  ·show FrR none (gClose s.g f r to).st (gClose G F (P::Q) to).st
   rw [eg,eG2]
   cases r with
   | nil=>exact d5.elim
   | cons p q=>exact ⟨d5.1,d5.2.1,fun y=>(by cases y),d5.2.2.2⟩
  ·show TlR xs s.tl.dropLast (gClose G F (P::Q) to).st
   rw [eG2]
   exact TlR.congr (l:={ P with ws:=P.ws++[F.tv to] }::Q) (by rw [List.length_dropLast]; omega) (fun i _ hi=>gd i hi) htR.2
  show (s.told++cntT xs 10 (f.tv to) T).map tp=if (gClose G F (P::Q) to).st=[] then _ else toldS xs s.tl.dropLast (lvl ⟨gClose s.g f r to,s.tl.dropLast,none,s.told++cntT xs 10 (f.tv to) T⟩) (gClose G F (P::Q) to).st
  have lv:lvl ⟨gClose s.g f r to,s.tl.dropLast,none,s.told++cntT xs 10 (f.tv to) T⟩=Q.length+1:=by
   unfold lvl
   simp only [eg]
   simpa using hlen
  have hz:=h.ok.z Q.length hQ (Or.inr hQ2)
  have hcl:=(h.ok.ct Q.length hQ).len
  have eP:s.tl.getD Q.length []=s.tl[Q.length]:=by rw [List.getD_eq_getElem?_getD,List.getElem?_eq_getElem hQ]; rfl
  rw [← eP] at hz hcl
  rw [eG2,if_neg (by simp),TT,lv,toldS,toldS,if_pos (by simp),if_pos (by simp),gd Q.length (by rw [hdl]; simp)]
  rw [kids_app hs hcl hz,List.map_append,← List.append_assoc]
  congr 1
  ·congr 1
   exact toldS_congr (fun i hi=>⟨by simp,fun _=>(gd i (by rw [hdl]; simp; omega)).symm⟩)
  have i4:F.ix=P.ws.length:=i3.1
  rw [hTo,i4,tl_swap hs hcl hz P.d.kind 0 0 P.ws.length (c:=⟨F.d,[]⟩) (c':=⟨(F.tv to).d,[]⟩) rfl]
  have e9:9 - (P::Q).length+1=9 - Q.length:=by simp at hl ⊢; omega
  rw [e9]
end Tr
