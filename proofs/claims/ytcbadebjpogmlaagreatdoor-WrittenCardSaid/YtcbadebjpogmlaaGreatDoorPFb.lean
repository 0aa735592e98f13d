import Derived.Test.YtcbadebjpogmlaaGreatDoorPAf
namespace Tr
def heldB (hd:Option Nat) (n:Nat):Bool:=match hd with
 | none=>false
 | some h=>decide (h<n)
def heldI (hd:Option Nat) (n:Nat):Bool:=match hd with
 | none=>false
 | some h=>decide (h≤n)
theorem held_in {hd:Option Nat} {n:Nat} (h:heldI hd n=false):heldB hd n=false:=by
 cases hd with
 | none=>rfl
 | some k=>simp [heldI,heldB] at *; omega
def FrI (hd:Option Nat):List Fm→Nat→Prop
 | [],_=>True
 | f::r,ix=>f.kp=heldB hd r.length∧(heldI hd r.length=true→ix=f.ws.length)∧(heldI hd r.length=false→f.ws=[])∧FrI hd r f.ix
theorem FrI.out {hd hd':Option Nat}:∀{l:List Fm} {ix ix':Nat},(∀m,m<l.length→heldI hd m=false)→(∀m,m<l.length→heldI hd' m=false)→FrI hd l ix→FrI hd' l ix'
 | [],_,_,_,_,_=>trivial
 | f::r,_,_,a,b,⟨h1,_,h3,h4⟩=>by
  have a0:=a r.length (by simp)
  have b0:=b r.length (by simp)
  refine ⟨?_,fun e=>?_,fun _=>h3 a0,FrI.out (fun m hm=>a m (by simp; omega)) (fun m hm=>b m (by simp; omega)) h4⟩
  ·rw [h1,held_in a0,held_in b0]
  rw [b0] at e; cases e
def szF (f:Fm):Nat:=1+(f.ws.flatMap (allT 10)).length
def szS (st:List Fm):Nat:=(st.map szF).sum
theorem all_up (n:Nat) (t:Tv):(allT n t).length≤(allT (n+1) t).length:=by
 induction n generalizing t with
 | zero=>simp [allT]
 | succ n ih =>
  show (t::t.ws.flatMap (allT n)).length≤(t::t.ws.flatMap (allT (n+1))).length
  have:∀l:List Tv,(l.flatMap (allT n)).length≤(l.flatMap (allT (n+1))).length:=by
   intro l
   induction l with
   | nil=>simp
   | cons a l h2=>simp only [List.flatMap_cons,List.length_append]; have:=ih a; omega
  have:=this t.ws
  simp only [List.length_cons]; omega
theorem all_szF (f:Fm) (to:Nat):(allT 10 (f.tv to)).length≤szF f:=by
 show (f.tv to::f.ws.flatMap (allT 9)).length≤1+(f.ws.flatMap (allT 10)).length
 have:∀l:List Tv,(l.flatMap (allT 9)).length≤(l.flatMap (allT 10)).length:=by
  intro l
  induction l with
  | nil=>simp
  | cons a l h2=>simp only [List.flatMap_cons,List.length_append]; have:=all_up 9 a; simp only [Nat.reduceAdd] at this; omega
 have:=this f.ws
 simp only [List.length_cons]; omega
theorem cntT_le (xs:List Sg):∀(n:Nat) (t:Tv) (tl:List Ct),(cntT xs n t tl).length≤(allT n t).length
 | 0,_,_=>Nat.le_refl _
 | n+1,t,tl=>by
  show ((t.ws.zipIdx.flatMap (fun p=>cntT xs n p.1 (tlOf xs t.d.kind t.ws.length p.2 p.1 tl)))++(if 0<(ctAt tl xs.length).its then [(t,(ctAt tl xs.length).its)] else [])).length≤(t::t.ws.flatMap (allT n)).length
  have key:∀(l:List Tv) (i m:Nat),((l.zipIdx i).flatMap (fun p=>cntT xs n p.1 (tlOf xs t.d.kind m p.2 p.1 tl))).length≤(l.flatMap (allT n)).length:=by
   intro l
   induction l with
   | nil=>intro _ _; simp
   | cons a l ih =>
    intro i m
    have h1:=ih (i+1) m
    have h2:=cntT_le xs n a (tlOf xs t.d.kind m i a tl)
    simp only [List.zipIdx_cons,List.flatMap_cons,List.length_append]
    omega
  have h1:=key t.ws 0 t.ws.length
  rw [List.length_append,List.length_cons]
  split<;>simp only [List.length_cons,List.length_nil]<;>omega
def Zh (xs:List Sg) (tl:List Ct):Prop:=headS xs<xs.length→∀k,headS xs≤k→ctAt tl k=⟨0,0⟩
theorem ct_far {tl:List Ct} {k:Nat} (h:tl.length≤k):ctAt tl k=⟨0,0⟩:=by
 unfold ctAt; rw [List.getD_eq_getElem?_getD,List.getElem?_eq_none h]; rfl
theorem ct_succ (a:Ct) (l:List Ct) (k:Nat):ctAt (a::l) (k+1)=ctAt l k:=by
 unfold ctAt; rw [List.getD_cons_succ]
theorem ct_zero (a:Ct) (l:List Ct):ctAt (a::l) 0=a:=rfl
theorem zh_kid {xs:List Sg} {tl:List Ct} (hl:tl.length=xs.length+1) (h:Zh xs tl) (pk L i:Nat) (c:Tv) (h0:¬0<(ctAt (tlOf xs pk L i c tl) (headS xs)).its):Zh xs (tlOf xs pk L i c tl):=fun hlt k hk=>by
 have Z:=h hlt
 have hgl:=tlGo_len pk L i c xs tl hl
 cases k with
 | zero =>
  have e0:headS xs=0:=by omega
  have z0:=Z 0 (by omega)
  cases tl with
  | nil=>simp at hl
  | cons p ps =>
   rw [ct_zero] at z0
   show (⟨0,p.al⟩:Ct)=⟨0,0⟩
   rw [z0]
 | succ k =>
  unfold tlOf at h0 ⊢
  rw [ct_succ]
  by_cases hkl:k<xs.length
  ·have e:=tlGo_at pk L i c xs tl hl k hkl
   rw [e]
   have z1:=Z (k+1) hk
   by_cases hh:headS xs≤k
   ·have z2:=Z k hh
    rw [z1,z2]; simp
   have ek:headS xs=k+1:=by omega
   rw [ek,ct_succ,e] at h0
   simp only at h0
   have h0:((if xs[k].deep=true then (ctAt tl k).al else (ctAt tl k).its) * cntS xs[k].l pk L i c)=0:=by omega
   rw [h0,z1]
  exact ct_far (by rw [hgl]; omega)
theorem zh_out {xs:List Sg} (h0:¬0<(ctAt (tlOut xs.length) (headS xs)).its):Zh xs (tlOut xs.length):=fun hlt k hk=>by
 cases k with
 | zero =>
  have e0:headS xs=0:=by omega
  rw [e0] at h0
  exact absurd (by decide:0<1) h0
 | succ k =>
  unfold tlOut
  rw [ct_succ]
  unfold ctAt
  rw [List.getD_eq_getElem?_getD]
  by_cases q:k<xs.length
  ·simp [q]
  rw [List.getElem?_eq_none (by simp; omega)]; rfl
structure FOk (xs:List Sg) (s:Fw):Prop where
 n:s.told.length+szS s.g.st≤s.g.bd
 fr:FrI s.hd s.g.st s.g.ix
 tl:s.tl.length=(match s.hd with | none=>s.g.st.length | some h=>h+1)
 hd:∀h,s.hd=some h→h<s.g.st.length
 ct:∀i (h:i<s.tl.length),CtB xs i s.tl[i]
 z:∀i (h:i<s.tl.length),(s.hd=none∨i+1<s.tl.length)→Zh xs s.tl[i]
theorem fInit_ok (xs:List Sg):FOk xs fInit:=⟨by simp [fInit,gInit,szS],trivial,rfl,fun h e=>(by cases e),fun i h=>(by cases h),fun i h=>(by cases h)⟩
theorem FOk.may {xs:List Sg} {s:Fw} (h:FOk xs s):mayKeep s.g s.hd.isSome:=fun hs p q e=>by
 have hf:=h.fr
 rw [e] at hf
 cases hh:s.hd with
 | none=>rw [hh] at hs; cases hs
 | some k =>
  have:=h.hd k hh
  rw [e] at this
  refine hf.2.1 ?_
  rw [hh]; simp [heldI]; simp at this; omega
def fPush (xs:List Sg) (s:Fw) (d:Dat) (b:Nat):Fw:={ fBeg xs s d with g:=⟨⟨d,s.g.ix,s.hd.isSome,[]⟩::s.g.st,[],0,b+1,s.g.last⟩ }
theorem last_at {α:Type} (l:List α) (a:α) (h:l≠[]):l.getLastD a=l[l.length - 1]'(by cases l with | nil=>exact absurd rfl h | cons x y=>simp):=by
 cases l with
 | nil=>exact absurd rfl h
 | cons x y=>simp [List.getLastD,List.getLast_eq_getElem]
theorem fOk_push {xs:List Sg} (hx:∀g ∈ xs,0<g.l.length) {s:Fw} (h:FOk xs s) (d:Dat) {b:Nat} (hb:s.g.bd≤b):FOk xs (fPush xs s d b):=by
 have hn:=h.n
 cases hh:s.hd with
 | some k =>
  have hk:=h.hd k hh
  have e:fPush xs s d b={ s with g:=⟨⟨d,s.g.ix,true,[]⟩::s.g.st,[],0,b+1,s.g.last⟩ }:=by unfold fPush fBeg; rw [hh]; simp [hh]
  rw [e]
  have htl:=h.tl
  rw [hh] at htl
  refine ⟨?_,?_,?_,fun j hj=>?_,h.ct,fun i hi hz=>h.z i hi hz⟩
  ·show s.told.length+szS (⟨d,s.g.ix,true,[]⟩::s.g.st)≤b+1
   have:szS (⟨d,s.g.ix,true,[]⟩::s.g.st)=1+szS s.g.st:=by simp [szS,szF]
   omega
  ·show FrI s.hd (⟨d,s.g.ix,true,[]⟩::s.g.st) 0
   refine ⟨?_,fun _=>rfl,fun _=>rfl,h.fr⟩
   rw [hh]; simp [heldB,hk]
  ·show s.tl.length=_
   rw [hh]; exact htl
  show j<(⟨d,s.g.ix,true,[]⟩::s.g.st:List Fm).length
  have hj:s.hd=some j:=hj
  have:=h.hd j hj
  simp; omega
 | none =>
  have htl:=h.tl
  rw [hh] at htl
  simp only at htl
  -- the new tally
  have hT:CtB xs s.g.st.length (fTly xs s d)∧(¬0<(ctAt (fTly xs s d) (headS xs)).its→Zh xs (fTly xs s d)):=by
   unfold fTly
   cases hs:s.g.st with
   | nil=>exact ⟨ctb_out xs hx,zh_out⟩
   | cons p q =>
    have hne:s.tl≠[]:=fun e=>by rw [e,hs] at htl; simp at htl
    have hlt:s.tl.length - 1<s.tl.length:=by rw [htl,hs]; simp
    have hc:=h.ct (s.tl.length - 1) hlt
    have e1:s.tl.length - 1=q.length:=by rw [htl,hs]; simp
    simp only
    rw [last_at s.tl [] hne]
    refine ⟨?_,fun h0=>zh_kid hc.len (h.z _ hlt (Or.inl hh)) _ _ _ _ h0⟩
    have:=ctb_kid hc p.d.kind p.ws.length s.g.ix ⟨d,[]⟩
    have e2:(p::q).length=s.tl.length - 1+1:=by rw [e1]; simp
    rw [e2]; exact this
  obtain ⟨hd',hhd⟩:∃hd',hd'=if headS xs<xs.length∧0<(ctAt (fTly xs s d) (headS xs)).its then some s.g.st.length else none:=⟨_,rfl⟩
  have e:fPush xs s d b=⟨⟨⟨d,s.g.ix,false,[]⟩::s.g.st,[],0,b+1,s.g.last⟩,s.tl++[fTly xs s d],hd',s.told⟩:=by unfold fPush fBeg; rw [hh,hhd]; simp
  have h01:hd'=some s.g.st.length∨(hd'=none∧Zh xs (fTly xs s d)):=by
   rw [hhd]
   split
   ·exact Or.inl rfl
   rename_i hneg
   refine Or.inr ⟨rfl,fun hlt=>?_⟩
   exact hT.2 (fun y=>hneg ⟨hlt,y⟩) hlt
  clear hhd
  rw [e]
  have hin:∀m,m<s.g.st.length→heldI hd' m=false:=fun m hm=>by
   rcases h01 with y | ⟨y,_⟩
   ·rw [y]; simp [heldI]; omega
   rw [y]; rfl
  refine ⟨?_,?_,?_,fun j hj=>?_,fun i hi=>?_,fun i hi hz=>?_⟩
  ·show s.told.length+szS (⟨d,s.g.ix,false,[]⟩::s.g.st)≤b+1
   have:szS (⟨d,s.g.ix,false,[]⟩::s.g.st)=1+szS s.g.st:=by simp [szS,szF]
   omega
  ·show FrI hd' (⟨d,s.g.ix,false,[]⟩::s.g.st) 0
   refine ⟨?_,fun _=>rfl,fun _=>rfl,?_⟩
   ·rcases h01 with y | ⟨y,_⟩<;>rw [y]<;>simp [heldB]
   have:=h.fr
   rw [hh] at this
   exact FrI.out (fun _ _=>rfl) hin this
  ·show (s.tl++[fTly xs s d]).length=_
   rcases h01 with y | ⟨y,_⟩<;>simp [y,htl]
  ·have hj:hd'=some j:=hj
   show j<(⟨d,s.g.ix,false,[]⟩::s.g.st:List Fm).length
   rcases h01 with y | ⟨y,_⟩
   ·rw [y] at hj
    have:=Option.some.inj hj
    simp; omega
   rw [y] at hj; cases hj
  ·have hi:i<(s.tl++[fTly xs s d]).length:=hi
   show CtB xs i (s.tl++[fTly xs s d])[i]
   by_cases hlt:i<s.tl.length
   ·rw [List.getElem_append_left hlt]; exact h.ct i hlt
   have ei:i=s.tl.length:=by simp at hi; omega
   subst ei
   simp only [List.getElem_concat_length]
   rw [htl]; exact hT.1
  have hi:i<(s.tl++[fTly xs s d]).length:=hi
  show Zh xs (s.tl++[fTly xs s d])[i]
  by_cases hlt:i<s.tl.length
  ·rw [List.getElem_append_left hlt]; exact h.z i hlt (Or.inl hh)
  have ei:i=s.tl.length:=by simp at hi; omega
  subst ei
  simp only [List.getElem_concat_length]
  rcases h01 with y | ⟨y,z⟩
  ·rcases hz with k | k
   ·have k:hd'=none:=k
    rw [y] at k; cases k
   simp at k
  exact z
theorem gOn_false (r:List Fm) (t:Tv):gOn r false t=r:=by cases r<;>simp [gOn,gKeep]
theorem fOk_cls {xs:List Sg} {s:Fw} (h:FOk xs s) {f:Fm} {r:List Fm} (hs:s.g.st=f::r) (to:Nat):FOk xs { fCls xs s (f.tv to) r.length with g:=gClose s.g f r to }:=by
 have hn:=h.n
 have hf:=h.fr
 rw [hs] at hn hf
 have hsz:szS (f::r)=szF f+szS r:=by simp [szS]
 have hall:=all_szF f to
 obtain ⟨f1,f2,f3,f4⟩:=hf
 by_cases hc:s.hd.isSome=true∧s.hd≠some r.length
 ·obtain ⟨k,hk⟩:∃k,s.hd=some k:=Option.isSome_iff_exists.1 hc.1
  have hk1:=h.hd k hk
  rw [hs] at hk1
  have hk2:k<r.length:=by
   have:k≠r.length:=fun e=>hc.2 (by rw [hk,e])
   simp at hk1; omega
  have ekp:f.kp=true:=by rw [f1,hk]; simp [heldB,hk2]
  have e:{ fCls xs s (f.tv to) r.length with g:=gClose s.g f r to }={ s with g:=gClose s.g f r to }:=by unfold fCls; rw [if_pos hc]
  rw [e]
  cases r with
  | nil=>simp at hk2
  | cons p q =>
   obtain ⟨p1,p2,p3,p4⟩:=f4
   have hin:heldI s.hd q.length=true:=by rw [hk]; simp [heldI]; simp at hk2; omega
   have eg:(gClose s.g f (p::q) to).st={ p with ws:=p.ws++[f.tv to] }::q:=by simp [gClose,gOn,gKeep,ekp]
   refine ⟨?_,?_,?_,fun j hj=>?_,h.ct,h.z⟩
   ·show s.told.length+szS (gClose s.g f (p::q) to).st≤s.g.bd
    rw [eg]
    have e1:szS ({ p with ws:=p.ws++[f.tv to] }::q)=szF p+(allT 10 (f.tv to)).length+szS q:=by simp [szS,szF]; omega
    have e2:szS (p::q)=szF p+szS q:=by simp [szS]
    omega
   ·show FrI s.hd (gClose s.g f (p::q) to).st (f.ix+1)
    rw [eg]
    refine ⟨p1,fun _=>?_,fun y=>?_,p4⟩
    ·have:=p2 hin
     simp; omega
    rw [hin] at y; cases y
   ·show s.tl.length=match s.hd with | none=>(gClose s.g f (p::q) to).st.length | some h=>h+1
    have:=h.tl
    rw [hk] at this ⊢; exact this
   show j<(gClose s.g f (p::q) to).st.length
   have hj:s.hd=some j:=hj
   rw [hk] at hj
   have:=Option.some.inj hj
   rw [eg]; simp at hk2 ⊢; omega
 have hkp:f.kp=false:=by
  rw [f1]
  cases hh:s.hd with
  | none=>rfl
  | some k =>
   have:k=r.length:=Decidable.byContradiction fun y=>hc ⟨by rw [hh]; rfl,fun z=>y (by rw [hh] at z; exact Option.some.inj z)⟩
   simp [heldB,this]
 have hin:∀m,m<r.length→heldI s.hd m=false:=fun m hm=>by
  cases hh:s.hd with
  | none=>rfl
  | some k =>
   have:k=r.length:=Decidable.byContradiction fun y=>hc ⟨by rw [hh]; rfl,fun z=>y (by rw [hh] at z; exact Option.some.inj z)⟩
   simp [heldI,this]; omega
 have htl:s.tl.length=r.length+1:=by
  have:=h.tl
  cases hh:s.hd with
  | none=>rw [hh,hs] at this; simpa using this
  | some k =>
   have e:k=r.length:=Decidable.byContradiction fun y=>hc ⟨by rw [hh]; rfl,fun z=>y (by rw [hh] at z; exact Option.some.inj z)⟩
   rw [hh] at this
   simp only at this
   omega
 have e:{ fCls xs s (f.tv to) r.length with g:=gClose s.g f r to }=⟨gClose s.g f r to,s.tl.dropLast,none,s.told++cntT xs 10 (f.tv to) (s.tl.getLastD [])⟩:=by unfold fCls; rw [if_neg hc]
 rw [e]
 have eg:(gClose s.g f r to).st=r:=by simp [gClose,hkp,gOn_false]
 refine ⟨?_,?_,?_,fun j hj=>(by cases hj),fun i hi=>?_,fun i hi _=>?_⟩
 ·show (s.told++cntT xs 10 (f.tv to) (s.tl.getLastD [])).length+szS (gClose s.g f r to).st≤s.g.bd
  rw [eg,List.length_append]
  have:=cntT_le xs 10 (f.tv to) (s.tl.getLastD [])
  omega
 ·show FrI none (gClose s.g f r to).st (f.ix+1)
  rw [eg]
  exact FrI.out hin (fun _ _=>rfl) f4
 ·show s.tl.dropLast.length=(gClose s.g f r to).st.length
  rw [eg,List.length_dropLast]; omega
 ·have hi:i<s.tl.dropLast.length:=hi
  show CtB xs i s.tl.dropLast[i]
  rw [List.getElem_dropLast]
  exact h.ct i (by rw [List.length_dropLast] at hi; omega)
 have hi:i<s.tl.dropLast.length:=hi
 show Zh xs s.tl.dropLast[i]
 rw [List.getElem_dropLast]
 rw [List.length_dropLast] at hi
 exact h.z i (by omega) (Or.inr (by omega))
theorem fOk_take {xs:List Sg} (hx:∀g ∈ xs,0<g.l.length) {s:Fw} (h:FOk xs s) {t:Tok} (ht:TokOk s.g.sh t):FOk xs (fTake xs s t):=by
 unfold fTake
 by_cases h0:t.k=0
 ·rw [if_pos h0]
  have:=fOk_push hx h (gDat s.g t) (b:=t.frm) (ht.k0 h0).2.2.2.2
  unfold fPush at this
  unfold gTake
  rw [if_pos h0]
  exact this
 rw [if_neg h0]
 by_cases h1:t.k=1
 ·rw [if_pos h1]
  cases hs:s.g.st with
  | nil=>exact h
  | cons f r =>
   have:=fOk_cls h hs t.to
   simp only
   have e:gTake s.g t true=gClose s.g f r t.to:=by unfold gTake; rw [if_neg h0,if_pos h1,hs]
   rw [e]; exact this
 rw [if_neg h1]
 by_cases h2:t.k=2
 ·rw [if_pos h2]
  have e:gTake s.g t true={ s.g with nm:=t.t }:=by unfold gTake; rw [if_neg h0,if_neg h1,if_pos h2]
  rw [e]
  exact ⟨h.n,h.fr,h.tl,h.hd,h.ct,h.z⟩
 rw [if_neg h2]
 have P:=fOk_push hx h (gDat s.g t) (b:=t.frm) (ht.k3 (by have:=ht.k; omega)).2.2.2.2
 have Q:=fOk_cls P (f:=⟨gDat s.g t,s.g.ix,s.hd.isSome,[]⟩) (r:=s.g.st) rfl t.to
 have e:gTake s.g t s.hd.isSome=gClose { s.g with nm:=[],bd:=t.frm+1 } (gBegin s.g t s.hd.isSome) s.g.st t.to:=by unfold gTake; rw [if_neg h0,if_neg h1,if_neg h2]
 rw [e]
 have e2:({ fCls xs (fBeg xs s (gDat s.g t)) ((gBegin s.g t true).tv t.to) s.g.st.length with g:=gClose { s.g with nm:=[],bd:=t.frm+1 } (gBegin s.g t s.hd.isSome) s.g.st t.to }:Fw)={ fCls xs (fPush xs s (gDat s.g t) t.frm) ((⟨gDat s.g t,s.g.ix,s.hd.isSome,[]⟩:Fm).tv t.to) s.g.st.length with g:=gClose (fPush xs s (gDat s.g t) t.frm).g ⟨gDat s.g t,s.g.ix,s.hd.isSome,[]⟩ s.g.st t.to }:=by
  unfold fPush fCls
  simp only
  split
  ·rfl
  rfl
 rw [e2]; exact Q
end Tr
namespace Tr
theorem not_late {xs:List Sg} {k:Nat} (hk:k<xs.length) (h:k<headS xs):xs[k].l.any Sel.late=false:=by
 have:=List.not_of_lt_findIdx (p:=Sg.late) (xs:=xs) h
 unfold Sg.late at this
 simpa using this
def kidsT (xs:List Sg) (n kind:Nat) (ws:List Tv) (tl:List Ct):List (Tv×Nat):=ws.zipIdx.flatMap (fun p=>cntT xs n p.1 (tlOf xs kind ws.length p.2 p.1 tl))
def ownT (xs:List Sg) (t:Tv) (tl:List Ct):List (Tv×Nat):=if 0<(ctAt tl xs.length).its then [(t,(ctAt tl xs.length).its)] else []
theorem cntT_succ (xs:List Sg) (n:Nat) (t:Tv) (tl:List Ct):cntT xs (n+1) t tl=kidsT xs n t.d.kind t.ws tl++ownT xs t tl:=rfl
theorem cntT_deep (xs:List Sg):∀{n m:Nat} {t:Tv} (tl:List Ct),Deep n t→n≤m→cntT xs m t tl=cntT xs n t tl
 | 0,_,_,_,h,_=>h.elim
 | n+1,0,_,_,_,h=>absurd h (by omega)
 | n+1,m+1,t,tl,h,hm=>by
  rw [cntT_succ,cntT_succ]
  congr 1
  unfold kidsT
  apply fm_congr
  intro p hp
  have:p.1 ∈ t.ws:=by
   have:=List.mem_zipIdx hp
   rw [this.2.2]; exact List.getElem_mem _
  exact cntT_deep xs _ (h _ this) (by omega)
end Tr
namespace Tr
def isLast (b:Nat):Bool:=b == 91 || b == 93 || b == 123 || b == 125 || b == 34 || (decide (48≤b) && decide (b≤57)) || b == 101 || b == 108
def room (l:List UInt8):Nat:=1+l.countP (fun b=>isLast b.toNat)
def pend (z:Sn):Nat:=if z.st=9 then 1 else 0
def one (b:Nat):Nat:=if isLast b=true then 1 else 0
def WdOk (z:Sn):Prop:=z.st=10→z.rs.getLast?=some 101∨z.rs.getLast?=some 108
structure Nr (z:Sn) (b:Nat) (x:Sx):Prop where
 n:x.ts.length+pend x.z≤pend z+one b
 w:WdOk x.z
theorem nr_to {z:Sn} {b c:Nat} (h9:c≠9) (h10:c≠10):Nr z b (z.to c):=⟨by simp [Sn.to,pend,h9],fun h=>absurd h h10⟩
theorem nr_next {z:Sn} (hok:SOk z) (hw:WdOk z) (b:Nat) (hb:b<256):Nr z b (sNext z b):=by
 have SH:(b=93∨b=125)→Nr z b (sShut z):=fun h=>by
  have:one b=1:=by rcases h with e | e<;>rw [e]<;>rfl
  exact ⟨by simp [sShut,pend,this],fun e=>by simp [sShut] at e⟩
 have BH:(sBehind z b).ts.length+pend (sBehind z b).z≤one b∧WdOk (sBehind z b).z:=by
  unfold sBehind
  by_cases m:mayF z.op b=false
  ·rw [if_pos m]; exact ⟨by simp [Sn.to,pend],fun h=>by simp [Sn.to] at h⟩
  rw [if_neg m]
  by_cases bl:isBl b=true
  ·rw [if_pos bl]; exact ⟨by simp [Sn.to,pend],fun h=>by simp [Sn.to] at h⟩
  rw [if_neg bl]
  by_cases b4:b≠44
  ·rw [if_pos b4]
   have:b=93∨b=125:=by
    unfold mayF at m
    simp only [Bool.not_eq_true] at bl
    rw [bl] at m
    simp only [Bool.false_or,Bool.and_eq_false_iff,not_or,Bool.not_eq_false] at m
    have m2:=m.2
    split at m2<;>simp at m2<;>omega
   have h1:one b=1:=by rcases this with e | e<;>rw [e]<;>rfl
   exact ⟨by simp [sShut,pend,h1],fun e=>by simp [sShut] at e⟩
  rw [if_neg b4]
  split
  ·exact ⟨by simp [Sn.to,pend],fun h=>by simp [Sn.to] at h⟩
  exact ⟨by simp [Sn.to,pend],fun h=>by simp [Sn.to] at h⟩
 have dig:isDig b=true→one b=1:=fun h=>by
  unfold isDig at h
  unfold one isLast
  simp only [Bool.and_eq_true,decide_eq_true_eq] at h
  simp [h.1,h.2]
 unfold sNext
 by_cases h6:z.st=6
 ·rw [if_pos h6]
  unfold sStr
  split
  ·exact nr_to (by omega) (by omega)
  split
  ·exact nr_to (by omega) (by omega)
  split
  ·rename_i q
   have h1:one b=1:=by rw [q]; rfl
   unfold sEndS
   split
   ·exact ⟨by simp [sEndP,pend,h1],fun e=>by simp [sEndP] at e⟩
   exact ⟨by simp [pend,h1],fun e=>by simp at e⟩
  exact ⟨by simp [sAdd,pend],fun e=>by simp [sAdd] at e⟩
 rw [if_neg h6]
 by_cases h7:z.st=7
 ·rw [if_pos h7]
  unfold sEsc
  split
  ·exact nr_to (by omega) (by omega)
  exact ⟨by simp [sAdd,pend],fun e=>by simp [sAdd] at e⟩
 rw [if_neg h7]
 by_cases h8:z.st=8∨z.st=9
 ·rw [if_pos h8]
  unfold sNum
  split
  ·exact nr_to (by omega) (by omega)
  rename_i q8
  split
  ·rename_i q
   have:=dig q.1
   exact ⟨by simp [sDig,pend,this],fun e=>by simp [sDig] at e⟩
  rename_i qd
  split
  ·exact nr_to (by omega) (by omega)
  have h9:z.st=9:=by
   rcases h8 with y | y
   ·exfalso
    have hm:=hok.m y
    have:49≤b∧b≤57:=Decidable.byContradiction fun k=>q8 ⟨y,k⟩
    exact qd ⟨by unfold isDig; simp; omega,by omega⟩
   exact y
  refine ⟨?_,BH.2⟩
  have e:pend z=1:=by simp [pend,h9]
  have:=BH.1
  rw [e]
  simp only [List.length_cons]; omega
 rw [if_neg h8]
 by_cases h10:z.st=10
 ·rw [if_pos h10]
  have hwz:=hw h10
  have hne:=(hok.w h10).1
  unfold sWord
  split
  ·exact nr_to (by omega) (by omega)
  rename_i q1
  cases hr:z.rs with
  | nil=>exact absurd hr hne
  | cons a l =>
   rw [hr] at hwz q1
   have hba:b=a.toNat:=Decidable.byContradiction fun k=>q1 (by simpa [bt] using k)
   cases l with
   | nil =>
    simp only [List.tail_cons,if_true]
    have h1:one b=1:=by
     rcases hwz with e | e
     ·have:a=101:=by simpa using e
      rw [hba,this]; rfl
     have:a=108:=by simpa using e
     rw [hba,this]; rfl
    exact ⟨by simp [sEndP,pend,h1],fun e=>by simp [sEndP] at e⟩
   | cons c l =>
    simp only [List.tail_cons,reduceCtorEq,if_false]
    refine ⟨by simp [pend],fun _=>?_⟩
    simpa using hwz
 rw [if_neg h10]
 split
 ·exact nr_to (by omega) (by omega)
 unfold sBetw
 split
 ·exact ⟨by have:=BH.1; omega,BH.2⟩
 split
 ·exact nr_to (by omega) (by omega)
 split
 ·rename_i q
  exact SH (by omega)
 split
 ·unfold sBegin
  have LT:∀k c,c<9→one b=1→Nr z b (sLot z k c):=fun k c hc h1=>by
   unfold sLot
   split
   ·exact nr_to (by omega) (by omega)
   exact ⟨by simp [pend,h1,show c≠9 by omega],fun e=>absurd e (by simp only; omega)⟩
  split
  ·rename_i q; exact LT _ _ (by omega) (by rw [q]; rfl)
  split
  ·rename_i q; exact LT _ _ (by omega) (by rw [q]; rfl)
  split
  ·exact ⟨by simp [sBStr,pend],fun e=>by simp [sBStr] at e⟩
  split
  ·exact ⟨by simp [sBWord,pend],fun _=>Or.inl rfl⟩
  split
  ·exact ⟨by simp [sBWord,pend],fun _=>Or.inl rfl⟩
  split
  ·exact ⟨by simp [sBWord,pend],fun _=>Or.inr rfl⟩
  unfold sBNum
  split
  ·exact ⟨by simp [pend],fun e=>by simp at e⟩
  split
  ·rename_i q
   have:=dig q
   exact ⟨by simp [sDig,pend,this],fun e=>by simp [sDig] at e⟩
  exact ⟨by simp [pend],fun e=>by simp at e⟩
 split
 ·exact ⟨by simp [sBStr,pend],fun e=>by simp [sBStr] at e⟩
 exact nr_to (by omega) (by omega)
theorem run_room:∀(l:List UInt8) {z:Sn} {s:Sh},SOk z→Lk z s→z.st≤10→z.at'+l.length≤4000000→WdOk z→(sRun z l).ts.length+pend (sRun z l).z≤pend z+l.countP (fun b=>isLast b.toNat)∧WdOk (sRun z l).z
 | [],_,_,_,_,_,_,h=>⟨by simp [sRun],h⟩
 | b::l,z,s,h1,h2,h3,h4,hw=>by
  have hl:z.at'+(l.length+1)≤4000000:=by simpa using h4
  have S:=stp_next h1 h2 h3 (by omega) b.toNat
  have N:=nr_next h1 hw b.toNat (by have:=b.toNat_lt; omega)
  have hc:(b::l).countP (fun b=>isLast b.toNat)=l.countP (fun b=>isLast b.toNat)+one b.toNat:=by
   rw [List.countP_cons]; rfl
  rw [hc,sRun]
  have nn:=N.n
  by_cases c12:(sNext z b.toNat).z.st=12
  ·rw [if_pos c12]; exact ⟨by simp only; omega,N.w⟩
  rw [if_neg c12]
  by_cases c11:(sNext z b.toNat).z.st=11
  ·rw [if_pos c11]; exact ⟨by simp only; omega,N.w⟩
  rw [if_neg c11]
  have c10:(sNext z b.toNat).z.st≤10:=by have:=S.st; omega
  have hat:=S.at'
  have o1:=S.ok c10
  have O:SOk { (sNext z b.toNat).z with at':=(sNext z b.toNat).z.at'+1 }:=⟨o1.op,o1.ne,o1.tk,o1.st,o1.w,o1.n,o1.m,o1.x⟩
  have I:=run_room l (s:=shRun s (sNext z b.toNat).ts) O (S.lk c10) c10 (by simp only [hat]; omega) N.w
  refine ⟨?_,I.2⟩
  have i1:=I.1
  have e:pend { (sNext z b.toNat).z with at':=(sNext z b.toNat).z.at'+1 }=pend (sNext z b.toNat).z:=rfl
  rw [e] at i1
  simp only [List.length_append] at i1 ⊢
  omega
theorem room_ok {l:List UInt8} {z:Sn} {s:Sh} (h1:SOk z) (h2:Lk z s) (h3:z.st≤10) (h4:z.at'+l.length≤4000000) (hw:WdOk z):(sRun z l).ts.length≤room l:=by
 have:=(run_room l h1 h2 h3 h4 hw).1
 have p:pend z≤1:=by unfold pend; split<;>omega
 unfold room; omega
def addT (a:List (Tv×Nat)) (s:Fw):Fw:={ s with told:=a++s.told }
theorem fBeg_add (xs:List Sg) (a:List (Tv×Nat)) (s:Fw) (d:Dat):fBeg xs (addT a s) d=addT a (fBeg xs s d):=by
 unfold fBeg addT
 simp only
 split<;>rfl
theorem fCls_add (xs:List Sg) (a:List (Tv×Nat)) (s:Fw) (t:Tv) (r:Nat):fCls xs (addT a s) t r=addT a (fCls xs s t r):=by
 unfold fCls addT
 simp only
 split
 ·rfl
 simp [List.append_assoc]
theorem fTake_add (xs:List Sg) (a:List (Tv×Nat)) (s:Fw) (t:Tok):fTake xs (addT a s) t=addT a (fTake xs s t):=by
 unfold fTake
 split
 ·have:=fBeg_add xs a s (gDat s.g t)
  show { fBeg xs (addT a s) (gDat s.g t) with g:=gTake s.g t s.hd.isSome }=_
  rw [this]; rfl
 split
 ·show (match s.g.st with | []=>addT a s | f::r=>{ fCls xs (addT a s) (f.tv t.to) r.length with g:=gTake s.g t true })=_
  cases s.g.st with
  | nil=>rfl
  | cons f r=>simp only; rw [fCls_add]; rfl
 split
 ·rfl
 show { fCls xs (fBeg xs (addT a s) (gDat s.g t)) ((gBegin s.g t true).tv t.to) s.g.st.length with g:=gTake s.g t s.hd.isSome }=_
 rw [fBeg_add,fCls_add]; rfl
theorem fRun_add (xs:List Sg) (a:List (Tv×Nat)):∀(ts:List Tok) (s:Fw),fRun xs (addT a s) ts=addT a (fRun xs s ts)
 | [],_=>rfl
 | t::r,s=>by
  show fRun xs (fTake xs (addT a s) t) r=addT a (fRun xs (fTake xs s t) r)
  rw [fTake_add,fRun_add xs a r]
def noT (s:Fw):Fw:={ s with told:=[] }
theorem add_no (s:Fw):addT s.told (noT s)=s:=by unfold addT noT; simp
theorem fRun_no (xs:List Sg) (s:Fw) (ts:List Tok):(fRun xs s ts).told=s.told++(fRun xs (noT s) ts).told∧noT (fRun xs s ts)=noT (fRun xs (noT s) ts):=by
 have e:=fRun_add xs s.told ts (noT s)
 rw [add_no] at e
 rw [e]
 exact ⟨rfl,rfl⟩
theorem FOk.no {xs:List Sg} {s:Fw} (h:FOk xs s):FOk xs (noT s):=⟨by have:=h.n; simp [noT]; omega,h.fr,h.tl,h.hd,h.ct,h.z⟩
end Tr
