import Derived.Test.YtcbadebjpogmlaaGreatDoorVsSa
import Derived.Test.YtcbadebjpogmlaaGreatDoorVsRefF
import Derived.BigRegion
import Derived.Deep.AppendLies
import Derived.Deep.RegionLaw
import Derived.Laws.EntriesVeiled
import Derived.Deep.RegionHeld
set_option maxHeartbeats 2000000
set_option maxRecDepth 100000
namespace Tr
structure Fm where
 d:dO
 ix:Nat
 kp:Bool
 ws:List Tv
structure Gs where
 st:List Fm
 nm:List UInt8
 ix:Nat
 bd:Nat
 last:Option Tv
def bK:Gs:=⟨[],[],0,0,none⟩
def Fm.tv (f:Fm) (to:Nat):Tv:=⟨{ f.d with to:=to },f.ws⟩
def wj (of:Nat):Nat:=if of=3 then 1 else if of=4 then 2 else if of=5 then 4 else if of=6 then 5 else 3
def Ot (t:Tok):List UInt8:=if t.of=4 then t.t else if t.of=2 then lN else if t.of=1 then jq else if t.of=0 then qd else []
def kM (kind:Nat) (path:List UInt8) (ix:Nat) (nm:List UInt8):List UInt8:=if kind=4 then path++[91]++dec ix++[93] else path++[91]++iV nm++[93]
def jF (st:List Fm) (ix:Nat) (nm:List UInt8):List UInt8:=match st with
 | []=>[36]
 | f::_=>kM f.d.kind f.d.path ix nm
def jo (g:Gs) (t:Tok):dO:=⟨wj t.of,t.n,Ot t,g.nm,jF g.st g.ix g.nm,t.ai,0,0⟩
def aM (g:Gs) (t:Tok) (kp:Bool):Fm:=⟨jo g t,g.ix,kp,[]⟩
def gU (p:Fm) (kp:Bool) (t:Tv):Fm:=if kp=true then { p with ws:=p.ws++[t] } else p
def nw (r:List Fm) (kp:Bool) (t:Tv):List Fm:=match r with
 | []=>[]
 | p::q=>gU p kp t::q
def dQ (g:Gs) (f:Fm) (r:List Fm) (to:Nat):Gs:={ g with st:=nw r f.kp (f.tv to),ix:=f.ix+1,last:=some (f.tv to) }
def aR (g:Gs) (t:Tok) (kp:Bool):Gs :=
 if t.k=0 then { g with st:=aM g t kp::g.st,nm:=[],ix:=0,bd:=t.ai+1 }
 else if t.k=1 then (match g.st with
  | []=>g
  | f::r=>dQ g f r t.to)
 else if t.k=2 then { g with nm:=t.t }
 else dQ { g with nm:=[],bd:=t.ai+1 } (aM g t kp) g.st t.to
def dB (g:Gs) (ts:List Tok):Gs:=ts.foldl (λ g t=>aR g t true) g
theorem kO (g:Gs) (a b:List Tok):dB g (a++b)=dB (dB g a) b:=by simp [dB]
def fk (f:Fm):Nat:=if f.d.kind=4 then 5 else 6
def Gs.sh (g:Gs):Sh:=⟨(g.st.map fk).reverse,g.bd⟩
theorem Lf (p:Fm) (kp:Bool) (t:Tv):fk (gU p kp t)=fk p:=by unfold gU; split<;>rfl
theorem Bb (r:List Fm) (kp:Bool) (t:Tv):(nw r kp t).map fk=r.map fk:=by cases r<;>simp [nw,Lf]
theorem jW (g:Gs) (t:Tok) (kp:Bool) (h:f_ g.sh t):(aR g t kp).sh=gJ g.sh t:=by
 unfold aR gJ
 by_cases h0:t.k=0
 ·rw [if_pos h0,if_pos h0]
  have:=(h.k0 h0).1
  have e:fk (aM g t kp)=t.of:=by rcases this with x | x<;>simp [fk,aM,jo,wj,x]
  simp [Gs.sh,e]
 rw [if_neg h0,if_neg h0]
 by_cases h1:t.k=1
 ·rw [if_pos h1,if_pos h1]
  cases hs:g.st with
  | nil=>simp [Gs.sh,hs]
  | cons f r=>simp [Gs.sh,dQ,Bb,hs]
 rw [if_neg h1,if_neg h1]
 by_cases h2:t.k=2
 ·rw [if_pos h2,if_pos h2]; rfl
 rw [if_neg h2,if_neg h2]
 simp [Gs.sh,dQ,Bb,aM,jo]
def nD:List Fm->Nat->Prop
 | [],_=>True
 | f::r,ix=>ix=f.ws.length/\f.kp=true/\nD r f.ix
theorem Ou {f:Fm} {r:List Fm} (to:Nat) (hkp:f.kp=true) (h:nD r f.ix):nD (nw r f.kp (f.tv to)) (f.ix+1):=by
 cases r with
 | nil=>trivial
 | cons p q =>
  obtain ⟨a1,a2,a3⟩:=h
  simp [nw,gU,hkp,nD,a1,a2,a3]
theorem A9 {g:Gs} {t:Tok} (h:nD g.st g.ix):nD (aR g t true).st (aR g t true).ix:=by
 unfold aR
 by_cases h0:t.k=0
 ·rw [if_pos h0]
  exact ⟨rfl,rfl,h⟩
 rw [if_neg h0]
 by_cases h1:t.k=1
 ·rw [if_pos h1]
  cases hs:g.st with
  | nil=>rw [hs] at h; simpa [hs] using h
  | cons f r =>
   rw [hs] at h
   exact Ou t.to h.2.1 h.2.2
 rw [if_neg h1]
 by_cases h2:t.k=2
 ·rw [if_pos h2]; exact h
 rw [if_neg h2]
 exact Ou (f:=aM g t true) t.to rfl h
def uA (bd:Nat):List Fm->Nat->Prop
 | [],_=>True
 | f::r,ix=>f.ws.length<=ix/\f.ix<=f.d.ai/\f.d.ai<bd/\(f.d.kind=4\/f.d.kind=5)/\(f.kp=true->∀p q,r=p::q->f.ix=p.ws.length)/\uA bd r f.ix
theorem uA.up {bd Ov:Nat} (hb:bd<=Ov):∀{l:List Fm} {ix:Nat},uA bd l ix->uA Ov l ix
 | [],_,_=>trivial
 | _::_,_,⟨h1,h2,h3,h4,h5,h6⟩=>⟨h1,h2,by omega,h4,h5,uA.up hb h6⟩
structure Qk (g:Gs):Prop where
 len:g.st.length<=8
 ix:g.ix<=g.bd
 bd:g.bd<=4000000
 ws:uA g.bd g.st g.ix
theorem FY:Qk bK:=⟨by simp [bK],Nat.le_refl _,by simp [bK],trivial⟩
def lg (g:Gs) (kp:Bool):Prop:=kp=true->∀p q,g.st=p::q->g.ix=p.ws.length
theorem nD.may {g:Gs} (h:nD g.st g.ix) (kp:Bool):lg g kp:=λ_ p q e=>by rw [e] at h; exact h.1
theorem Ow {bd:Nat} {f:Fm} {r:List Fm} (to:Nat) (hw:uA bd r f.ix):uA bd (nw r f.kp (f.tv to)) (f.ix+1):=by
 cases r with
 | nil=>trivial
 | cons p q =>
  obtain ⟨a1,a2,a3,a4,a5,a6⟩:=hw
  show uA bd (gU p f.kp (f.tv to)::q) (f.ix+1)
  unfold gU
  by_cases hkp:f.kp=true
  ·rw [if_pos hkp]; exact ⟨by simp; omega,a2,a3,a4,a5,a6⟩
  rw [if_neg hkp]; exact ⟨by omega,a2,a3,a4,a5,a6⟩
theorem uu (r:List Fm) (kp:Bool) (t:Tv):(nw r kp t).length=r.length:=by cases r<;>simp [nw]
theorem qf {g:Gs} {t:Tok} {kp:Bool} (h:Qk g) (ht:f_ g.sh t) (hkp:lg g kp):Qk (aR g t kp):=by
 have hl:g.sh.op.length=g.st.length:=by simp [Gs.sh]
 have hbd:g.sh.bd=g.bd:=rfl
 have h8:=h.len
 have vM:=h.ix
 have hb:=h.bd
 unfold aR
 by_cases h0:t.k=0
 ·rw [if_pos h0]
  have k0:=ht.k0 h0
  have hf:=ht.ai
  refine ⟨by simp; omega,by simp,by simp; omega,⟨by simp [aM],?_,by simp [aM,jo],?_,λ hk p q e=>hkp hk p q e,h.ws.up (show g.bd<=t.ai+1 by omega)⟩⟩
  ·show g.ix<=t.ai; omega
  show wj t.of=4\/wj t.of=5
  rcases k0.1 with x | x<;>rw [x]<;>decide
 rw [if_neg h0]
 by_cases h1:t.k=1
 ·rw [if_pos h1]
  cases hs:g.st with
  | nil=>simp only; exact ⟨by simp [hs],vM,hb,by rw [hs]; trivial⟩
  | cons f r =>
   have hw:=h.ws
   rw [hs] at hw h8
   obtain ⟨_,a2,a3,_,_,a6⟩:=hw
   refine ⟨by simp [dQ,uu]; simp at h8; omega,by simp only [dQ]; omega,hb,Ow t.to a6⟩
 rw [if_neg h1]
 by_cases h2:t.k=2
 ·rw [if_pos h2]; exact ⟨h.len,h.ix,h.bd,h.ws⟩
 rw [if_neg h2]
 have k3:=ht.k3 (by have:=ht.k; omega)
 have hf:=ht.ai
 refine ⟨by simp [dQ,uu]; omega,by simp only [dQ,aM]; omega,by simp only [dQ]; omega,Ow (f:=aM g t kp) t.to (h.ws.up (show g.bd<=t.ai+1 by omega))⟩
def FB (bd:Nat):Nat->Tv->Prop
 | 0,_=>False
 | n+1,t=>t.d.ai<bd/\∀i (h:i<t.ws.length),FB bd n t.ws[i]/\(t.ws[i]).d.path=kM t.d.kind t.d.path i (t.ws[i]).d.name
theorem FB.up {bd Ov:Nat} (hb:bd<=Ov):∀{n:Nat} {t:Tv},FB bd n t->FB Ov n t
 | 0,_,h=>h
 | _+1,_,⟨h1,h2⟩=>⟨by omega,λ i h=>⟨FB.up hb (h2 i h).1,(h2 i h).2⟩⟩
def sM:List Fm->Prop
 | []=>True
 | f::r=>f.d.path=jF r f.ix f.d.name/\sM r
end Tr
namespace Go.Proofs.YtcbadebjpogmlaaGreatDoor
open Go.RowKit Tr
def nG (b:Nat):Value:=.pointer (some ⟨b,0,none⟩)
def dD (A:Nat->Nat) (r:List Fm):Value:=match r with
 | []=>.pointer none
 | f::_=>nG (A f.d.ai)
structure TB (w:World) (A:Nat->Nat) (C:Nat->Prop) (bd n:Nat) (par:Value) (f:Fm) (ex:List Value) (sv:Value):Prop where
 b:ay w (A f.d.ai) (ld f.d par f.ix sv) 130
 o:w.ownsRow 0 71 1 sv (f.ws.length+ex.length) (f.ws.map (iS A)++ex)
 d:FD f.d
 ks:∀i (h:i<f.ws.length),PT w A C n (nG (A f.d.ai)) i f.ws[i]/\FB bd n f.ws[i]/\(f.ws[i]).d.path=kM f.d.kind f.d.path i (f.ws[i]).d.name
 nb:sv.ownBlock≠some (A f.d.ai)
 nc:¬C (A f.d.ai)/\∀k,sv.ownBlock=some k->¬C k
 fr:f.d.ai<bd
def gE (w:World) (A:Nat->Nat) (C:Nat->Prop) (bd:Nat):List Fm->List Value->(Nat->Prop)->Prop
 | [],_,M=>∀k,¬M k
 | f::r,ex,M=>∃sv M',TB w A C bd (9 - r.length) (dD A r) f ex sv/\(∀k,M k↔k=A f.d.ai\/sv.ownBlock=some k\/M' k)/\¬M' (A f.d.ai)/\(∀k,sv.ownBlock=some k->¬M' k) /\
  gE w A C bd r (if f.kp=true then [nG (A f.d.ai)] else []) M'
theorem PT.more {w:World} {A:Nat->Nat} {D D':Nat->Prop} (hD:∀k,D k->D' k):∀(n:Nat) (par:Value) (ix:Nat) (t:Tv),PT w A D n par ix t->PT w A D' n par ix t
 | 0,_,_,_,h=>h
 | n+1,_,_,_,⟨h2,hd,hl,⟨sv,h3,h4,h5⟩,h6⟩=>⟨hD _ h2,hd,hl,⟨sv,h3,λ k hk=>hD k (h4 k hk),h5⟩,λ i hi=>PT.more hD n _ i _ (h6 i hi)⟩
theorem Bc {A A':Nat->Nat} {bd:Nat} (h:∀k,k<bd->A' k=A k) {n:Nat} {t:Tv} (hf:FB bd n t):iS A' t=iS A t:=by
 cases n with
 | zero=>exact hf.elim
 | succ n=>unfold iS; rw [h _ hf.1]
theorem PT.upd {w:World} {A A':Nat->Nat} {D:Nat->Prop} {bd:Nat} (h:∀k,k<bd->A' k=A k):∀(n:Nat) (par:Value) (ix:Nat) (t:Tv),FB bd n t->PT w A D n par ix t->PT w A' D n par ix t
 | 0,_,_,_,_,x=>x
 | n+1,_,_,t,hf,⟨h2,hd,hl,⟨sv,h3,h4,h5⟩,h6⟩=>by
  have e:A' t.d.ai=A t.d.ai:=h _ hf.1
  have em:t.ws.map (iS A')=t.ws.map (iS A):=by
   apply List.map_congr_left
   intro c hc
   obtain ⟨i,hi,rfl⟩:=List.mem_iff_getElem.1 hc
   exact Bc h (hf.2 i hi).1
  refine ⟨by rw [e]; exact h2,hd,hl,⟨sv,by rw [e]; exact h3,h4,by rw [em]; exact h5⟩,λ i hi=>?_⟩
  rw [show iS A' t=iS A t by unfold iS; rw [e]]
  exact PT.upd h n _ i _ (hf.2 i hi).1 (h6 i hi)
theorem gE.keep {w w':World} {A:Nat->Nat} {C:Nat->Prop} {bd:Nat} (hC:Sm C w w'):∀{l:List Fm} {ex:List Value} {M:Nat->Prop},gE w A C bd l ex M->Sm M w w'->gE w' A C bd l ex M
 | [],_,_,h,_=>h
 | _::_,_,_,⟨sv,M',h1,h2,h3,h4,h5⟩,hM =>
  ⟨sv,M',⟨(hM _ ((h2 _).2 (Or.inl rfl))).trans h1.b,bJ h1.o (λ k hk=>hM k ((h2 k).2 (Or.inr (Or.inl hk)))),h1.d,λ i hi=>⟨(h1.ks i hi).1.keep hC,(h1.ks i hi).2⟩,h1.nb,h1.nc,h1.fr⟩,h2,h3,h4,h5.keep hC (λ k hk=>hM k ((h2 k).2 (Or.inr (Or.inr hk))))⟩
theorem gE.lt {w:World} {A:Nat->Nat} {C:Nat->Prop} {bd:Nat}:∀{l:List Fm} {ex:List Value} {M:Nat->Prop},gE w A C bd l ex M->∀k,M k->k<w.heap.size/\¬C k
 | [],_,_,h,k,hk=>absurd hk (h k)
 | _::_,_,_,⟨sv,M',h1,h2,_,_,h5⟩,k,hk=>by
  rcases (h2 k).1 hk with x | x | x
  ·rw [x]; exact ⟨h1.b.lt,h1.nc.1⟩
  ·exact ⟨(h1.o.lt k x).2,h1.nc.2 k x⟩
  exact h5.lt k x
theorem mC {A A':Nat->Nat} {bd:Nat} (h:∀k,k<bd->A' k=A k) {w:World} {C:Nat->Prop} {l:List Fm} {ex:List Value} {M:Nat->Prop} (hm:gE w A C bd l ex M):dD A' l=dD A l:=by
 cases l with
 | nil=>rfl
 | cons f r =>
  obtain ⟨sv,M',h1,_⟩:=hm
  show nG (A' f.d.ai)=nG (A f.d.ai)
  rw [h _ h1.fr]
theorem gE.upd {w:World} {A A':Nat->Nat} {C:Nat->Prop} {bd Ov:Nat} (hb:bd<=Ov) (h:∀k,k<bd->A' k=A k):∀{l:List Fm} {ex:List Value} {M:Nat->Prop},gE w A C bd l ex M->gE w A' C Ov l ex M
 | [],_,_,x=>x
 | f::r,ex,M,⟨sv,M',h1,h2,h3,h4,h5⟩=>by
  have e:A' f.d.ai=A f.d.ai:=h _ h1.fr
  have em:f.ws.map (iS A')=f.ws.map (iS A):=by
   apply List.map_congr_left
   intro c hc
   obtain ⟨i,hi,rfl⟩:=List.mem_iff_getElem.1 hc
   exact Bc h (h1.ks i hi).2.1
  refine ⟨sv,M',⟨by rw [e,mC h h5]; exact h1.b,by rw [em]; exact h1.o,h1.d,λ i hi=>⟨?_,(h1.ks i hi).2.1.up hb,(h1.ks i hi).2.2⟩,by rw [e]; exact h1.nb,by rw [e]; exact h1.nc,Nat.lt_of_lt_of_le h1.fr hb⟩,λ k=>by rw [e]; exact h2 k,by rw [e]; exact h3,h4,?_⟩
  ·rw [e]; exact PT.upd h _ _ i _ (h1.ks i hi).2.1 (h1.ks i hi).1
  rw [e]; exact gE.upd hb h h5
theorem gE.grow {w:World} {A:Nat->Nat} {C C':Nat->Prop} {bd:Nat} (hC:∀k,C k->C' k):∀{l:List Fm} {ex:List Value} {M:Nat->Prop},gE w A C bd l ex M->(∀k,M k->¬C' k)->gE w A C' bd l ex M
 | [],_,_,h,_=>h
 | _::_,_,_,⟨sv,M',h1,h2,h3,h4,h5⟩,hM =>
  ⟨sv,M',⟨h1.b,h1.o,h1.d,λ i hi=>⟨PT.more hC _ _ _ _ (h1.ks i hi).1,(h1.ks i hi).2⟩,h1.nb,⟨hM _ ((h2 _).2 (Or.inl rfl)),λ k hk=>hM k ((h2 k).2 (Or.inr (Or.inl hk)))⟩,h1.fr⟩,h2,h3,h4,h5.grow hC (λ k hk=>hM k ((h2 k).2 (Or.inr (Or.inr hk))))⟩
theorem gE.close {w:World} {A:Nat->Nat} {C:Nat->Prop} {bd:Nat} {f:Fm} {r:List Fm} {M:Nat->Prop} (h:gE w A C bd (f::r) [] M) (hl:r.length<=8) (wv:f.ws.length<=4000000) (vM:f.kp=true->∀p q,r=p::q->f.ix=p.ws.length)
 (hp:f.d.path=jF r f.ix f.d.name) :
 ∃C' M',(∀k,C' k->C k\/M k)/\(∀k,C k->C' k)/\(∀k,M' k->M k)/\gE w A C' bd (nw r f.kp ⟨f.d,f.ws⟩) [] M'/\PT w A C' (9 - r.length+1) (dD A r) f.ix ⟨f.d,f.ws⟩/\FB bd (9 - r.length+1) ⟨f.d,f.ws⟩:=by
 obtain ⟨sv,M',h1,h2,h3,h4,h5⟩:=h
 have Zw:∀k,(C k\/k=A f.d.ai\/sv.ownBlock=some k)->¬M' k:=λ k hk hm=>by
  rcases hk with x | x | x
  ·exact (h5.lt k hm).2 x
  ·rw [x] at hm; exact h3 hm
  exact h4 k x hm
 have ho:=h1.o
 simp only [List.length_nil,Nat.add_zero,List.append_nil] at ho
 have hPT:PT w A (λ k=>C k\/k=A f.d.ai\/sv.ownBlock=some k) (9 - r.length+1) (dD A r) f.ix ⟨f.d,f.ws⟩ :=
  ⟨Or.inr (Or.inl rfl),h1.d,wv,⟨sv,h1.b,λ k hk=>Or.inr (Or.inr hk),ho⟩,λ i hi=>PT.more (λ k hk=>Or.inl hk) _ _ _ _ (h1.ks i hi).1⟩
 have hFB:FB bd (9 - r.length+1) ⟨f.d,f.ws⟩:=⟨h1.fr,λ i hi=>(h1.ks i hi).2⟩
 refine ⟨λ k=>C k\/k=A f.d.ai\/sv.ownBlock=some k,M',λ k hk=>?_,λ k=>Or.inl,λ k hk=>(h2 k).2 (Or.inr (Or.inr hk)),?_,hPT,hFB⟩
 ·rcases hk with x | x | x
  ·exact Or.inl x
  ·exact Or.inr ((h2 k).2 (Or.inl x))
  exact Or.inr ((h2 k).2 (Or.inr (Or.inl x)))
 cases r with
 | nil=>exact h5
 | cons p q =>
  obtain ⟨iA,M2,g1,g2,g3,g4,g5⟩:=h5
  have hnc:¬(C (A p.d.ai)\/A p.d.ai=A f.d.ai\/sv.ownBlock=some (A p.d.ai))/\∀k,iA.ownBlock=some k->¬(C k\/k=A f.d.ai\/sv.ownBlock=some k) :=
   ⟨λ x=>Zw _ x ((g2 _).2 (Or.inl rfl)),λ k hk x=>Zw k x ((g2 k).2 (Or.inr (Or.inl hk)))⟩
  have hq:gE w A (λ k=>C k\/k=A f.d.ai\/sv.ownBlock=some k) bd q (if p.kp=true then [nG (A p.d.ai)] else []) M2:=by
   refine gE.grow (λ k=>Or.inl) g5 (λ k hk x=>Zw k x ((g2 k).2 (Or.inr (Or.inr hk))))
  show gE w A _ bd (gU p f.kp ⟨f.d,f.ws⟩::q) [] M'
  unfold gU
  by_cases hkp:f.kp=true
  ·rw [if_pos hkp]
   rw [if_pos hkp] at g1
   have hi:=vM hkp p q rfl
   have e9:9 - q.length=9 - (p::q).length+1:=by simp at hl ⊢; omega
   refine ⟨iA,M2,⟨g1.b,?_,g1.d,λ i hi2=>?_,g1.nb,hnc,g1.fr⟩,g2,g3,g4,hq⟩
   ·have:=g1.o
    simpa [iS,nG] using this
   by_cases Be:i<p.ws.length
   ·have e:(p.ws++[(⟨f.d,f.ws⟩:Tv)])[i]=p.ws[i]:=List.getElem_append_left Be
    show PT w A _ _ _ i (p.ws++[(⟨f.d,f.ws⟩:Tv)])[i]/\FB bd _ (p.ws++[(⟨f.d,f.ws⟩:Tv)])[i]/\_
    rw [e]
    exact ⟨PT.more (λ k=>Or.inl) _ _ _ _ (g1.ks i Be).1,(g1.ks i Be).2⟩
   have ei:i=p.ws.length:=by simp at hi2; omega
   subst ei
   have e:(p.ws++[(⟨f.d,f.ws⟩:Tv)])[p.ws.length]=⟨f.d,f.ws⟩:=by simp
   show PT w A _ _ _ _ (p.ws++[(⟨f.d,f.ws⟩:Tv)])[p.ws.length]/\FB bd _ (p.ws++[(⟨f.d,f.ws⟩:Tv)])[p.ws.length]/\_
   rw [e,e9,<-hi]
   exact ⟨hPT,hFB,hp⟩
  rw [if_neg hkp]
  rw [if_neg hkp] at g1
  exact ⟨iA,M2,⟨g1.b,g1.o,g1.d,λ i hi=>⟨PT.more (λ k=>Or.inl) _ _ _ _ (g1.ks i hi).1,(g1.ks i hi).2⟩,g1.nb,hnc,g1.fr⟩,g2,g3,g4,hq⟩
theorem gE.fr {K:Nat->Prop} {w w':World} {A:Nat->Nat} {C:Nat->Prop} {bd:Nat} {l:List Fm} {ex:List Value} {M:Nat->Prop} (h:gE w A C bd l ex M) (hC:∀k,C k->k<w.heap.size) (f:Fr K w w') (hK:∀k,K k->¬M k/\¬C k):gE w' A C bd l ex M :=
 h.keep (λ k hk=>f.block k (hC k hk) (λ x=>(hK k x).2 hk)) (λ k hk=>f.block k (h.lt k hk).1 (λ x=>(hK k x).1 hk))
def eM (A:Nat->Nat) (ai b:Nat):Nat->Nat:=λ k=>if k=ai then b else A k
theorem sO (A:Nat->Nat) (ai b:Nat):eM A ai b ai=b:=by simp [eM]
theorem uB (A:Nat->Nat) {ai b k:Nat} (h:k≠ai):eM A ai b k=A k:=by simp [eM,h]
theorem gE.new {w w':World} {A:Nat->Nat} {C:Nat->Prop} {bd:Nat} {r:List Fm} {M:Nat->Prop} (h:gE w A C bd r [] M) (hC:∀k,C k->k<w.heap.size) {f:Fm} {b:Nat} (dy:w.heap.size<=b) (hb:ay w' b (ld f.d (dD A r) f.ix (.slice none 0 0)) 130) (hk:ak w w') (hf:bd<=f.d.ai) (hkp:f.kp=false) (wv:f.ws=[]) (hd:FD f.d) :
 gE w' (eM A f.d.ai b) C (f.d.ai+1) (f::r) [] (λ k=>k=b\/M k):=by
 have hA:∀k,k<bd->eM A f.d.ai b k=A k:=λ k hk=>uB A (by omega)
 have h':gE w' A C bd r [] M:=h.fr hC hk (λ_ x=>x.elim)
 have e:eM A f.d.ai b f.d.ai=b:=sO _ _ _
 have hMb:¬M b:=λ x=>by have:=(h.lt b x).1; omega
 have hCb:¬C b:=λ x=>by have:=hC b x; omega
 refine ⟨.slice none 0 0,M,⟨?_,?_,hd,λ i hi=>?_,(λ x=>by cases x),?_,Nat.lt_succ_self _⟩,λ k=>?_,?_,(λ k x=>by cases x),?_⟩
 ·rw [e,mC hA h]; exact hb
 ·rw [wv]; exact World.ownsRow_nil _ _ _ _
 ·rw [wv] at hi; exact absurd hi (Nat.not_lt_zero _)
 ·rw [e]; exact ⟨hCb,λ k x=>by cases x⟩
 ·rw [e]
  constructor
  ·rintro (x | x)
   ·exact Or.inl x
   exact Or.inr (Or.inr x)
  rintro (x | x | x)
  ·exact Or.inl x
  ·cases x
  exact Or.inr x
 ·rw [e]; exact hMb
 rw [hkp]
 exact h'.upd (by omega) hA
theorem gE.kept {w w1 w2:World} {A:Nat->Nat} {C:Nat->Prop} {bd:Nat} {f p:Fm} {q:List Fm} {sv iA v':Value} {M' M2:Nat->Prop} (h1:TB w A C bd (9 - (p::q).length) (dD A (p::q)) f [] sv) (h3:¬M' (A f.d.ai)) (h4:∀k,sv.ownBlock=some k->¬M' k)
 (g1:TB w A C bd (9 - q.length) (dD A q) p [] iA) (g2:∀k,M' k↔k=A p.d.ai\/iA.ownBlock=some k\/M2 k) (g3:¬M2 (A p.d.ai)) (g4:∀k,iA.ownBlock=some k->¬M2 k) (g5:gE w A C bd q (if p.kp=true then [nG (A p.d.ai)] else []) M2)
 (hC:∀k,C k->k<w.heap.size) (f1:ak w w1) (hg:w1.grownBy w2 iA.ownBlock) (ho:w2.ownsRow 0 71 1 v' (p.ws.length+1) (p.ws.map (iS A)++[nG (A f.d.ai)])) (kP:v'.ownBlock=iA.ownBlock\/v'.ownBlock=some w1.heap.size) :
 gE (w2.setCell ⟨A p.d.ai,8,none⟩ v') A C bd ({ f with kp:=true }::p::q) [] (λ k=>k=A f.d.ai\/sv.ownBlock=some k\/k=A p.d.ai\/v'.ownBlock=some k\/M2 k) /\
 Fr (λ k=>k=A p.d.ai\/iA.ownBlock=some k) w (w2.setCell ⟨A p.d.ai,8,none⟩ v'):=by
 have kb:∀k,k<w.heap.size->k≠A p.d.ai->iA.ownBlock≠some k->(w2.setCell ⟨A p.d.ai,8,none⟩ v').heap[k]?=w.heap[k]?:=λ k hk hp hn=>by
  rw [Below.heap_setCell _ _ _ _ (λ e=>hp e),hg.block k (Nat.lt_of_lt_of_le hk f1.size) (λ e=>hn e.symm),f1.block k hk id]
 have kC:Sm C w (w2.setCell ⟨A p.d.ai,8,none⟩ v'):=λ k hk=>kb k (hC k hk) (λ e=>g1.nc.1 (e▸hk)) (λ e=>g1.nc.2 k e hk)
 have hpf:A f.d.ai≠A p.d.ai:=λ e=>h3 (e▸(g2 _).2 (Or.inl rfl))
 have hsf:iA.ownBlock≠some (A f.d.ai):=λ e=>h3 ((g2 _).2 (Or.inr (Or.inl e)))
 have hv:∀k,v'.ownBlock=some k->iA.ownBlock=some k\/w.heap.size<=k:=λ k hk=>by
  rcases kP with x | x
  ·exact Or.inl (x.symm.trans hk)
  have:w1.heap.size=k:=Option.some.inj (x.symm.trans hk)
  have:=f1.size
  exact Or.inr (by omega)
 have UI:=g1.b.lt
 have b2:ay w2 (A p.d.ai) (ld p.d (dD A q) p.ix iA) 130:=by
  show w2.heap[A p.d.ai]?=_
  rw [hg.block _ (Nat.lt_of_lt_of_le UI f1.size) (λ e=>g1.nb e.symm),f1.block _ UI id]; exact g1.b
 have hvp:v'.ownBlock≠some (A p.d.ai):=λ e=>by
  rcases hv _ e with x | x
  ·exact g1.nb x
  omega
 have hvC:∀k,v'.ownBlock=some k->¬C k:=λ k hk x=>by
  rcases hv k hk with y | y
  ·exact g1.nc.2 k y x
  have:=hC k x; omega
 have hvM:∀k,v'.ownBlock=some k->¬M2 k:=λ k hk x=>by
  rcases hv k hk with y | y
  ·exact g4 k y x
  have:=(g5.lt k x).1; omega
 have hvf:v'.ownBlock≠some (A f.d.ai):=λ e=>by
  rcases hv _ e with x | x
  ·exact hsf x
  have:=h1.b.lt; omega
 have hvs:∀k,sv.ownBlock=some k->v'.ownBlock≠some k:=λ k hk e=>by
  rcases hv k e with x | x
  ·exact h4 k hk ((g2 k).2 (Or.inr (Or.inl x)))
  have:=(h1.o.lt k hk).2; omega
 refine ⟨⟨sv,λ k=>k=A p.d.ai\/v'.ownBlock=some k\/M2 k,⟨(kb _ h1.b.lt hpf hsf).trans h1.b,bJ h1.o (λ k hk=>kb k (h1.o.lt k hk).2 (λ e=>h4 k hk ((g2 k).2 (Or.inl e))) (λ e=>h4 k hk ((g2 k).2 (Or.inr (Or.inl e))))),h1.d,λ i hi=>⟨(h1.ks i hi).1.keep kC,(h1.ks i hi).2⟩,h1.nb,h1.nc,h1.fr⟩,λ_=>Iff.rfl,?_,?_,?_⟩,⟨?_,?_,?_,?_,λ k hk hn=>?_⟩⟩
 ·rintro (x | x | x)
  ·exact hpf x
  ·exact hvf x
  exact h3 ((g2 _).2 (Or.inr (Or.inr x)))
 ·rintro k hk (x | x | x)
  ·exact h4 k hk ((g2 k).2 (Or.inl x))
  ·exact hvs k hk x
  exact h4 k hk ((g2 k).2 (Or.inr (Or.inr x)))
 ·refine ⟨v',M2,⟨b2.set 8 v',?_,g1.d,λ i hi=>⟨(g1.ks i hi).1.keep kC,(g1.ks i hi).2⟩,hvp,⟨g1.nc.1,hvC⟩,g1.fr⟩,λ_=>Iff.rfl,g3,hvM,?_⟩
  ·show World.ownsRow _ _ _ _ _ (p.ws.length+1) (p.ws.map (iS A)++[nG (A f.d.ai)])
   exact bJ ho (λ k hk=>Below.heap_setCell _ _ _ _ (λ e=>hvp (by rw [hk]; exact congrArg some e)))
  exact g5.keep kC (λ k hk=>kb k (g5.lt k hk).1 (λ e=>g3 (e▸hk)) (λ e=>g4 k e hk))
 ·exact hg.os.trans f1.os
 ·exact hg.tape.trans f1.tape
 ·exact hg.output.trans f1.output
 ·exact Nat.le_trans f1.size (Nat.le_trans hg.size (by simp [World.setCell]))
 exact kb k hk (λ e=>hn (Or.inl e)) (λ e=>hn (Or.inr e))
structure wz {X:Type} (T:TypeId) (o:Nat) (fb fc:Value) (gc:X->Value->Value->Value->Array Value):Prop where
 c0:∀{w:World} {g:Nat} {x:X} {a b c:Value},ay w g (gc x a b c) T->w.cell? ⟨g,o,none⟩=some fb
 c1:∀{w:World} {g:Nat} {x:X} {a b c:Value},ay w g (gc x a b c) T->w.cell? ⟨g,o+1,none⟩=some fc
 c2:∀{w:World} {g:Nat} {x:X} {a b c:Value},ay w g (gc x a b c) T->w.cell? ⟨g,o+2,none⟩=some a
 c3:∀{w:World} {g:Nat} {x:X} {a b c:Value},ay w g (gc x a b c) T->w.cell? ⟨g,o+3,none⟩=some b
 c4:∀{w:World} {g:Nat} {x:X} {a b c:Value},ay w g (gc x a b c) T->w.cell? ⟨g,o+4,none⟩=some c
 s2:∀{w:World} {g:Nat} {x:X} {a b c:Value} (v:Value),ay w g (gc x a b c) T->ay (w.setCell ⟨g,o+2,none⟩ v) g (gc x v b c) T
 s3:∀{w:World} {g:Nat} {x:X} {a b c:Value} (v:Value),ay w g (gc x a b c) T->ay (w.setCell ⟨g,o+3,none⟩ v) g (gc x a v c) T
 s4:∀{w:World} {g:Nat} {x:X} {a b c:Value} (v:Value),ay w g (gc x a b c) T->ay (w.setCell ⟨g,o+4,none⟩ v) g (gc x a b v) T
structure Kn {X:Type} (g:Nat) (T:TypeId) (gc:X->Value->Value->Value->Array Value) (fb fc:Value) (S:World->(Nat->Prop)->X->Prop) (bk:X->Bool) (bg cl:X->List Fm->Fm->Nat->X->Prop) (kJ:X->List Fm->Fm->Nat->Prop) (pO:X->List Fm->Fm->(Nat->Nat)->Prop):Prop where
 lt:∀{w:World} {D:Nat->Prop} {x:X} {k:Nat},S w D x->D k->k<w.heap.size
 keep:∀{w w':World} {D:Nat->Prop} {x:X},S w D x->Sm D w w'->w.heap.size<=w'.heap.size->S w' D x
 FZ:∃N first cap,fb=.func (.func N) first cap/\(∀args w,(callFunc N args).run Tryz.prog w=.ok (.enter N args) w) /\
  ∀{w:World} {D:Nat->Prop} {x:X} {A:Nat->Nat} {C:Nat->Prop} {bd:Nat} {r:List Fm} {f:Fm} {M:Nat->Prop} {a b c:Value},S w D x->ay w g (gc x a b c) T->gE w A C bd (f::r) [] M->r.length<=8->(∀k,C k->k<w.heap.size)->(∀k,D k->¬M k/\¬C k/\k≠g)->(¬M g/\¬C g)->kJ x r f (A f.d.ai) ->
   Calls Tryz.prog N (first.push (nG (A f.d.ai))++cap) w λ res w'=>res=.returned (.bool (bk x))/\∃D' x',bg x r f (A f.d.ai) x'/\S w' D' x'/\ay w' g (gc x' a b c) T/\(∀k,D' k->D k\/w.heap.size<=k)/\Fr (λ k=>D k\/k=g) w w'
 closed:∃N first cap,fc=.func (.func N) first cap/\(∀args w,(callFunc N args).run Tryz.prog w=.ok (.enter N args) w) /\
  ∀{w:World} {D:Nat->Prop} {x:X} {A:Nat->Nat} {C:Nat->Prop} {bd:Nat} {r:List Fm} {f:Fm} {M:Nat->Prop} {a b c:Value},S w D x->ay w g (gc x a b c) T->gE w A C bd (f::r) [] M->r.length<=8->(∀k,C k->k<w.heap.size)->(∀k,D k->¬M k/\¬C k/\k≠g)->(¬M g/\¬C g)->pO x r f A ->
   Calls Tryz.prog N (first.push (nG (A f.d.ai))++cap) w λ res w'=>res=.returned (.tuple #[])/\∃D' x',cl x r f (A f.d.ai) x'/\S w' D' x'/\ay w' g (gc x' a b c) T/\(∀k,D' k->D k\/w.heap.size<=k)/\Fr (λ k=>D k\/k=g) w w'
theorem wA (A:Nat->Nat) (r:List Fm):∃po,dD A r=.pointer po:=by
 cases r with
 | nil=>exact ⟨_,rfl⟩
 | cons f q=>exact ⟨_,rfl⟩
def Fm.ends (f:Fm) (to:Nat):Fm:={ f with d:={ f.d with to:=to } }
theorem gE.UJ {w:World} {A:Nat->Nat} {C:Nat->Prop} {bd:Nat} {f:Fm} {r:List Fm} {ex:List Value} {M:Nat->Prop} (h:gE w A C bd (f::r) ex M) (to:Nat):gE (w.setCell ⟨A f.d.ai,2,none⟩ (.int .i64 (to:Nat))) A C bd (Fm.ends f to::r) ex M:=by
 obtain ⟨sv,M',h1,h2,h3,h4,h5⟩:=h
 have kb:∀k,k≠A f.d.ai->(w.setCell ⟨A f.d.ai,2,none⟩ (.int .i64 (to:Nat))).heap[k]?=w.heap[k]?:=λ k hk=>Below.heap_setCell _ _ _ _ (λ e=>hk e)
 have kC:Sm C w (w.setCell ⟨A f.d.ai,2,none⟩ (.int .i64 (to:Nat))):=λ k hk=>kb k (λ e=>h1.nc.1 (e▸hk))
 refine ⟨sv,M',⟨h1.b.set 2 _,bJ h1.o (λ k hk=>kb k (λ e=>h1.nb (e▸hk))),⟨h1.d.k,h1.d.w,h1.d.s,h1.d.n⟩,λ i hi=>⟨(h1.ks i hi).1.keep kC,(h1.ks i hi).2⟩,h1.nb,h1.nc,h1.fr⟩,h2,h3,h4,?_⟩
 exact h5.keep kC (λ k hk=>kb k (λ e=>h3 (e▸hk)))
def ClP {X:Type} (g:Nat) (T:TypeId) (gc:X->Value->Value->Value->Array Value) (S:World->(Nat->Prop)->X->Prop) (A:Nat->Nat) (C:Nat->Prop) (bd:Nat) (f:Fm) (r:List Fm) (M D:Nat->Prop) (R:X->Prop) (nm:Value) (w:World) (res:Ending) (w':World):Prop :=
 res=.returned (.tuple #[])/\∃D' x',R x'/\S w' D' x'/\ay w' g (gc x' (dD A r) nm (.int .i64 ((f.ix:Int)+1))) T/\gE w' A C bd (f::r) [] M/\(∀k,D' k->D k\/w.heap.size<=k)/\Fr (λ k=>D k\/M k\/k=g) w w'
theorem Bf {X:Type} {g:Nat} {T:TypeId} {o:Nat} {gc:X->Value->Value->Value->Array Value} {fb fc:Value} {S:World->(Nat->Prop)->X->Prop} {bk:X->Bool} {bg cl:X->List Fm->Fm->Nat->X->Prop} {kJ:X->List Fm->Fm->Nat->Prop} {pO:X->List Fm->Fm->(Nat->Nat)->Prop} (hL:wz T o fb fc gc) (hG:Kn g T gc fb fc S bk bg cl kJ pO)
 {w:World} {D:Nat->Prop} {x:X} {A:Nat->Nat} {C:Nat->Prop} {bd:Nat} {r:List Fm} {f:Fm} {M:Nat->Prop} {a nm TC:Value} (hS:S w D x) (hB:ay w g (gc x a nm TC) T) (hM:gE w A C bd (f::r) [] M) (hr:r.length<=8) (hC:∀k,C k->k<w.heap.size) (wB:∀k,D k->¬M k/\¬C k/\k≠g) (hg:¬M g/\¬C g) (vM:f.ix<=4000000) (to:Nat) (rX:pO x r (Fm.ends f to) A) :
 Calls Tryz.prog 73 #[.pointer (some ⟨g,o,none⟩),nG (A f.d.ai),.int .i64 (to:Nat)] w (ClP g T gc S A C bd (Fm.ends f to) r M D (cl x r (Fm.ends f to) (A f.d.ai)) nm w):=by
 obtain ⟨N,first,cap,hfc,hE,cV⟩:=hG.closed
 have vK:=hM.UJ to
 obtain ⟨sv,M',h1,h2,_⟩:=hM
 have Ox:M (A f.d.ai):=(h2 _).2 (Or.inl rfl)
 have Zx:g≠A f.d.ai:=λ e=>hg.1 (e▸Ox)
 have fzv:=h1.b.fz
 have fzg:=hB.fz
 have hpar:Hid (dD A r=dD A r):=rfl
 obtain ⟨b,hb⟩:∃b,b=A f.d.ai:=⟨_,rfl⟩
 rw [<-hb] at vK Ox Zx fzv ⊢
 have b1:ay w b (ld f.d (dD A r) f.ix sv) 130:=by rw [hb]; exact h1.b
 have k1:Fr (λ k=>k=b) w (w.setCell ⟨b,2,none⟩ (.int .i64 (to:Nat))):=(Fr.refl (λ k=>k=b) w).setCell ⟨b,2,none⟩ (Or.inl rfl) _
 have d5:(w.setCell ⟨b,2,none⟩ (.int .i64 (to:Nat))).cell? ⟨b,5,none⟩=some (dD A r):=(b1.set 2 _).cell 5
 have B1:=hB.fr k1 Zx
 obtain ⟨w1,hw1⟩:∃w1,w1=w.setCell ⟨b,2,none⟩ (.int .i64 (to:Nat)):=⟨_,rfl⟩
 have b2:ay w1 b (ld { f.d with to:=to } (dD A r) f.ix sv) 130:=by rw [hw1]; exact b1.set 2 _
 rw [<-hw1] at vK k1 d5 B1
 have S1:S w1 D x:=hG.keep hS (λ k hk=>k1.block k (hG.lt hS hk) (λ e=>(wB k hk).1 (e▸Ox))) k1.size
 have Qf:=B1.fz
 have t1:=hL.c2 B1
 have t0:w.cell? ⟨b,2,none⟩=some (.int .i64 (f.d.to:Nat)):=b1.cell 2
 have k2:Fr (λ k=>k=g) w1 (w1.setCell ⟨g,o+2,none⟩ (dD A r)):=(Fr.refl (λ k=>k=g) w1).setCell ⟨g,o+2,none⟩ (Or.inl rfl) _
 have B2:=hL.s2 (dD A r) B1
 have b3:=b2.fr k2 (λ e=>Zx e.symm)
 have d6:(w1.setCell ⟨g,o+2,none⟩ (dD A r)).cell? ⟨b,6,none⟩=some (.int .i64 (f.ix:Nat)):=b3.cell 6
 obtain ⟨w2,pM⟩:∃w2,w2=w1.setCell ⟨g,o+2,none⟩ (dD A r):=⟨_,rfl⟩
 rw [<-pM] at k2 B2 b3 d6
 have fz2:=B2.fz
 have t2:=hL.c4 B2
 have k3:Fr (λ k=>k=g) w2 (w2.setCell ⟨g,o+4,none⟩ (.int .i64 ((f.ix:Int)+1))):=(Fr.refl (λ k=>k=g) w2).setCell ⟨g,o+4,none⟩ (Or.inl rfl) _
 have B3:=hL.s4 (.int .i64 ((f.ix:Int)+1)) B2
 have d1:=hL.c1 B3
 obtain ⟨w3,Lg⟩:∃w3,w3=w2.setCell ⟨g,o+4,none⟩ (.int .i64 ((f.ix:Int)+1)):=⟨_,rfl⟩
 rw [<-Lg] at k3 B3 d1
 have hsz:w.heap.size=w1.heap.size:=by rw [hw1]; simp [World.setCell]
 have Ko:Fr (λ k=>k=g) w1 w3:=k2.trans k3
 have S3:S w3 D x:=hG.keep S1 (λ k hk=>Ko.block k (hG.lt S1 hk) (λ e=>(wB k hk).2.2 e)) Ko.size
 have Kp:∀k,C k->k<w1.heap.size:=λ k hk=>by rw [<-hsz]; exact hC k hk
 have M3:gE w3 A C bd (Fm.ends f to::r) [] M:=vK.fr Kp Ko (λ k e=>by rw [e]; exact hg)
 have CC:=aa (cV S3 B3 M3 hr (λ k hk=>Nat.lt_of_lt_of_le (Kp k hk) Ko.size) wB hg rX)
 rw [<-show A f.d.ai=A (Fm.ends f to).d.ai from rfl,<-hb] at CC
 have HM:=aa M3
 have hC3:Hid (∀k,C k->k<w3.heap.size):=λ k hk=>Nat.lt_of_lt_of_le (Kp k hk) Ko.size
 have HDJ:=aa wB
 have HG:=aa hg
 have FF:Hid (Fr (λ k=>D k\/M k\/k=g) w w3):=(k1.mono (λ k _ e=>Or.inr (Or.inl (e▸Ox)))).trans (Ko.mono (λ k _ e=>Or.inr (Or.inr e)))
 have hwi:IntKind.i64.wrap ((f.ix:Int)+1)=(f.ix:Int)+1:=by rw [IntWalk.i64_in _ (by omega)]
 rw [Lg,pM,hw1] at d1
 rw [pM,hw1] at d6 fz2 t2
 rw [hw1] at d5 Qf t1
 obtain ⟨po,sP⟩:=wA A r
 rw [sP] at d1 d5 d6 fz2 t2 pM
 have F7:=aa hw1
 have Oy:=aa pM
 have Zy:=aa Lg
 clear hS hB hr hC wB hg rX cV vK h1 h2 Ox b1 b2 b3 k1 k2 k3 Ko S1 S3 M3 B1 B2 B3 Kp hsz hw1 pM Lg hpar vM hb sP
 subst hfc
 unfold nG
 go_enter Tryz.func73,Tryz.ntmps73
 go_wp2
 rw [<-F7.out,<-Oy.out,<-Zy.out]
 refine CC.out.mono ?_
 rintro res w4 ⟨rfl,D',x',TD,s4,bl4,d4,f4⟩
 have X4:=aa TD
 have S4:=aa s4
 have BL4:=aa bl4
 have F4:=aa f4
 have D4:=aa d4
 clear TD s4 bl4 d4 f4
 go_wp2
 go_end0
 refine ⟨rfl,D',x',X4.out,S4.out,BL4.out,HM.out.fr hC3.out F4.out (λ k e=>?_),λ k hk=>?_,FF.out.trans (F4.out.mono (λ k _ e=>?_))⟩
 ·rcases e with e | e
  ·exact ⟨(HDJ.out k e).1,(HDJ.out k e).2.1⟩
  rw [e]; exact HG.out
 ·rcases D4.out k hk with e | e
  ·exact Or.inl e
  exact Or.inr (Nat.le_trans FF.out.size e)
 rcases e with e | e
 ·exact Or.inl e
 exact Or.inr (Or.inr e)
theorem wC {g:Gs} {t:Tok} {s:Sh} (ht:f_ s t) (hk:t.k=0\/t.k=3) (par:Value) (ix:Nat):ld (jo g t) par ix (.slice none 0 0)=#[.int .i64 (t.of:Nat),.int .i64 (t.ai:Nat),.int .i64 0,.int .i64 t.n,.string (bZ (fK t.k t.t)),par,.int .i64 (ix:Nat),.string (bZ g.nm),.slice none 0 0]:=by
 have h6:=ht.of
 have e1:e_ (jo g t)=t.of:=by
  have:t.of=0\/t.of=1\/t.of=2\/t.of=3\/t.of=4\/t.of=5\/t.of=6:=by omega
  rcases this with e | e | e | e | e | e | e<;>simp [e_,jo,wj,Ot,e,lN,jq,qd]
 have e2:jX (jo g t)=fK t.k t.t:=by
  unfold jX fK
  by_cases h4:t.of=4
  ·have k3:t.k=3:=by
    rcases hk with x | x
    ·have:=(ht.k0 x).1; omega
    exact x
   simp [jo,wj,Ot,h4,k3]
  have:t.t=[]:=by
   rcases hk with x | x
   ·exact (ht.k0 x).2.2.2.1
   exact (ht.k3 x).2.2.1 h4
  have hk2:(jo g t).kind≠2:=by
   have:t.of=0\/t.of=1\/t.of=2\/t.of=3\/t.of=5\/t.of=6:=by omega
   rcases this with e | e | e | e | e | e<;>simp [jo,wj,e]
  rw [if_neg hk2,this]
  simp
 unfold ld
 rw [e1,e2]
 rfl
theorem Lh {g:Gs} {t:Tok} {s:Sh} (ht:f_ s t) (hk:t.k=0\/t.k=3):FD (jo g t):=by
 have h6:=ht.of
 have:t.of=0\/t.of=1\/t.of=2\/t.of=3\/t.of=4\/t.of=5\/t.of=6:=by omega
 have hn:t.of≠3->t.n=0:=λ x=>by
  rcases hk with y | y
  ·exact (ht.k0 y).2.2.1
  exact (ht.k3 y).2.2.2.1 x
 refine ⟨?_,?_,?_,?_⟩
 ·rcases this with e | e | e | e | e | e | e<;>simp [jo,wj,e]
 ·rcases this with e | e | e | e | e | e | e<;>simp [jo,wj,Ot,e]
 ·rcases this with e | e | e | e | e | e | e<;>simp [jo,wj,Ot,e]
 rcases this with e | e | e | e | e | e | e<;>first | (intro _; exact hn (by omega)) | (simp [jo,wj,e])
theorem gE.UK {w:World} {A:Nat->Nat} {C:Nat->Prop} {bd:Nat} {f:Fm} {M:Nat->Prop} (h:gE w A C bd [f] [] M) (kp:Bool):gE w A C bd [{ f with kp:=kp }] [] M:=by
 obtain ⟨sv,M',h1,h2,h3,h4,h5⟩:=h
 exact ⟨sv,M',⟨h1.b,h1.o,h1.d,h1.ks,h1.nb,h1.nc,h1.fr⟩,h2,h3,h4,h5⟩
theorem gE.top {w:World} {A:Nat->Nat} {C:Nat->Prop} {bd:Nat} {f p:Fm} {q:List Fm} {M:Nat->Prop} (h:gE w A C bd (f::p::q) [] M) (hkp:f.kp=false) (hC:∀k,C k->k<w.heap.size):∃a2 c2,
 ay w (A p.d.ai) (ld p.d (dD A q) p.ix (.slice a2 p.ws.length c2)) 130/\w.ownsRow 0 71 1 (.slice a2 p.ws.length c2) p.ws.length (p.ws.map (iS A))/\(Value.slice a2 p.ws.length c2).ownBlock≠some (A p.d.ai)/\(M (A p.d.ai)/\A p.d.ai≠A f.d.ai)/\(∀k,(Value.slice a2 p.ws.length c2).ownBlock=some k->M k/\k≠A f.d.ai) /\
 ∀(w1 w2:World) (v':Value),ak w w1->w1.grownBy w2 (Value.slice a2 p.ws.length c2).ownBlock->w2.ownsRow 0 71 1 v' (p.ws.length+1) (p.ws.map (iS A)++[nG (A f.d.ai)])->(v'.ownBlock=(Value.slice a2 p.ws.length c2).ownBlock\/v'.ownBlock=some w1.heap.size) ->
  ∃M2,gE (w2.setCell ⟨A p.d.ai,8,none⟩ v') A C bd ({ f with kp:=true }::p::q) [] M2/\(∀k,M2 k->M k\/w.heap.size<=k)/\Fr (λ k=>k=A p.d.ai\/(Value.slice a2 p.ws.length c2).ownBlock=some k) w (w2.setCell ⟨A p.d.ai,8,none⟩ v'):=by
 obtain ⟨sv,M',h1,h2,h3,h4,iA,M2,g1,g2,g3,g4,g5⟩:=h
 rw [hkp] at g1
 simp only [Bool.false_eq_true,if_false] at g1
 obtain ⟨a2,c2,hsv⟩:=ah g1.o
 simp only [List.length_nil,Nat.add_zero] at hsv
 subst hsv
 have ho:=g1.o
 simp only [List.length_nil,Nat.add_zero,List.append_nil] at ho
 have hpM:M' (A p.d.ai):=(g2 _).2 (Or.inl rfl)
 refine ⟨a2,c2,g1.b,ho,g1.nb,⟨(h2 _).2 (Or.inr (Or.inr hpM)),λ e=>h3 (e▸hpM)⟩,λ k hk=>?_,λ w1 w2 v' k1 hg Yl kP=>?_⟩
 ·have hm:M' k:=(g2 k).2 (Or.inr (Or.inl hk))
  exact ⟨(h2 k).2 (Or.inr (Or.inr hm)),λ e=>h3 (e▸hm)⟩
 obtain ⟨r1,r2⟩:=gE.kept h1 h3 h4 g1 g2 g3 g4 g5 hC k1 hg Yl kP
 refine ⟨_,r1,λ k hk=>?_,r2⟩
 rcases hk with x | x | x | x | x
 ·exact Or.inl ((h2 k).2 (Or.inl x))
 ·exact Or.inl ((h2 k).2 (Or.inr (Or.inl x)))
 ·exact Or.inl ((h2 k).2 (Or.inr (Or.inr ((g2 k).2 (Or.inl x)))))
 ·rcases kP with y | y
  ·exact Or.inl ((h2 k).2 (Or.inr (Or.inr ((g2 k).2 (Or.inr (Or.inl (y▸x)))))))
  have e1:w1.heap.size=k:=Option.some.inj (y.symm.trans x)
  have:=k1.size
  exact Or.inr (by omega)
 exact Or.inl ((h2 k).2 (Or.inr (Or.inr ((g2 k).2 (Or.inr (Or.inr x))))))
def Zz {X:Type} (g:Nat) (T:TypeId) (gc:X->Value->Value->Value->Array Value) (S:World->(Nat->Prop)->X->Prop) (A:Nat->Nat) (C:Nat->Prop) (f:Fm) (r:List Fm) (M D:Nat->Prop) (bg:X->List Fm->Fm->Nat->X->Prop) (x:X) (TC:Value) (w:World) (res:Ending) (w':World):Prop :=
 ∃b A' M' D' x',res=.returned (nG b)/\w.heap.size<=b/\A' f.d.ai=b/\(∀k,k<f.d.ai->A' k=A k)/\bg x r { f with kp:=false } b x'/\S w' D' x'/\ay w' g (gc x' (dD A r) (.string (bZ [])) TC) T/\gE w' A' C (f.d.ai+1) (f::r) [] M' /\
  (∀k,M' k->M k\/w.heap.size<=k)/\(∀k,D' k->D k\/w.heap.size<=k)/\(∀k,D' k->¬M' k)/\Fr (λ k=>D k\/M k\/k=g) w w'
theorem Ql {X:Type} {g:Nat} {T:TypeId} {gc:X->Value->Value->Value->Array Value} {S:World->(Nat->Prop)->X->Prop} {A A':Nat->Nat} {C:Nat->Prop} {f:Fm} {r:List Fm} {M M1 M2 D D' K:Nat->Prop} {bg:X->List Fm->Fm->Nat->X->Prop} {x:X} {TC:Value} {w w3 w5:World} {b:Nat}
 (keep:∀{w w':World} {D:Nat->Prop} {x:X},S w D x->Sm D w w'->w.heap.size<=w'.heap.size->S w' D x) (ZA:w.heap.size<=b) (a1:A' f.d.ai=b) (a2:∀k,k<f.d.ai->A' k=A k) {x':X} (Bg:bg x r { f with kp:=false } b x') (s3:S w3 D' x') (b3:ay w3 g (gc x' (dD A r) (.string (bZ [])) TC) T)
 (fr3:Fr (λ k=>D k\/M k\/k=g) w w3) (d3:∀k,D' k->D k\/w.heap.size<=k) (dl:∀k,D' k->k<w3.heap.size) (dm:∀k,D' k->¬M1 k) (r1:gE w5 A' C (f.d.ai+1) (f::r) [] M2) (r2:∀k,M2 k->M1 k\/w3.heap.size<=k) (m1:∀k,M1 k->M k\/w.heap.size<=k) (r3:Fr K w3 w5) (kK:∀k,K k->M k/\M1 k) (hgM:¬M1 g) :
 Zz g T gc S A C f r M D bg x TC w (.returned (nG b)) w5 :=
 ⟨b,A',M2,D',x',rfl,ZA,a1,a2,Bg,keep s3 (λ k hk=>r3.block k (dl k hk) (λ e=>dm k hk (kK k e).2)) r3.size,b3.fr r3 (λ e=>hgM (kK g e).2),r1,λ k hk=>(r2 k hk).elim (m1 k) (λ y=>Or.inr (Nat.le_trans fr3.size y)),d3,λ k hk e=>(r2 k e).elim (dm k hk) (λ y=>by have:=dl k hk; omega),fr3.trans (r3.mono (λ k _ e=>Or.inr (Or.inl (kK k e).1)))⟩
structure GI {X:Type} (g:Nat) (T:TypeId) (gc:X->Value->Value->Value->Array Value) (S:World->(Nat->Prop)->X->Prop) (w:World) (gs:Gs) (x:X) (A:Nat->Nat) (C M D:Nat->Prop):Prop where
 s:S w D x
 b:ay w g (gc x (dD A gs.st) (.string (bZ gs.nm)) (.int .i64 (gs.ix:Nat))) T
 m:gE w A C gs.bd gs.st [] M
 ok:Qk gs
 p:sM gs.st
 c:∀k,C k->k<w.heap.size
 dj:∀k,D k->¬M k/\¬C k/\k≠g
 g:¬M g/\¬C g
 l:gs.st=[]->∀t,gs.last=some t->(∃ix,ix<=4000000/\PT w A C 10 (.pointer none) ix t)/\FB gs.bd 10 t/\t.d.path=[36]
theorem GI.keeps {X:Type} {g:Nat} {T:TypeId} {gc:X->Value->Value->Value->Array Value} {fb fc:Value} {S:World->(Nat->Prop)->X->Prop} {bk:X->Bool} {bg cl:X->List Fm->Fm->Nat->X->Prop} {kJ:X->List Fm->Fm->Nat->Prop} {pO:X->List Fm->Fm->(Nat->Nat)->Prop} (hG:Kn g T gc fb fc S bk bg cl kJ pO) {w w':World} {gs:Gs} {x:X} {A:Nat->Nat} {C M D:Nat->Prop} (h:GI g T gc S w gs x A C M D) (f:ak w w'):GI g T gc S w' gs x A C M D :=
 ⟨hG.keep h.s (λ k hk=>f.block k (hG.lt h.s hk) id) f.size,h.b.fr f id,h.m.fr h.c f (λ_ e=>e.elim),h.ok,h.p,λ k hk=>Nat.lt_of_lt_of_le (h.c k hk) f.size,h.dj,h.g,λ h0 t ht=>⟨(h.l h0 t ht).1.imp (λ_ y=>⟨y.1,y.2.keep (λ k hk=>f.block k (h.c k hk) id)⟩),(h.l h0 t ht).2⟩⟩
def gX {X:Type} (bk:X->Bool) (bg cl:X->List Fm->Fm->Nat->X->Prop) (x:X) (gs:Gs) (t:Tok) (A:Nat->Nat) (n:Nat) (x':X):Prop :=
 if t.k=0 then bg x gs.st (aM gs t false) (A t.ai) x'
 else if t.k=1 then (match gs.st with
  | []=>x'=x
  | f::r=>cl x r (Fm.ends f t.to) (A f.d.ai) x')
 else if t.k=2 then x'=x
 else ∃x1,n<=A t.ai/\bg x gs.st (aM gs t false) (A t.ai) x1/\cl x1 gs.st (Fm.ends (aM gs t (bk x)) t.to) (A t.ai) x'
def Li {X:Type} (g:Nat) (T:TypeId) (gc:X->Value->Value->Value->Array Value) (S:World->(Nat->Prop)->X->Prop) (bk:X->Bool) (bg cl:X->List Fm->Fm->Nat->X->Prop) (x:X) (gs:Gs) (t:Tok) (A:Nat->Nat) (C M D:Nat->Prop) (w:World) (res:Ending) (w':World):Prop :=
 res=.returned (.tuple #[])/\∃A' C' M' D' x',gX bk bg cl x gs t A' w.heap.size x'/\GI g T gc S w' (aR gs t (bk x)) x' A' C' M' D'/\(∀k,k<gs.bd->A' k=A k)/\(∀k,D' k\/M' k\/C' k->D k\/M k\/C k\/w.heap.size<=k)/\Fr (λ k=>D k\/M k\/k=g) w w'
theorem Lj (A:Nat->Nat) (r:List Fm) (kp:Bool) (t:Tv):dD A (nw r kp t)=dD A r:=by
 cases r with
 | nil=>rfl
 | cons p q=>show nG (A (gU p kp t).d.ai)=nG (A p.d.ai); unfold gU; split<;>rfl
theorem F_ {r:List Fm} (h:sM r) (kp:Bool) (t:Tv):sM (nw r kp t):=by
 cases r with
 | nil=>trivial
 | cons p q =>
  show sM (gU p kp t::q)
  unfold gU
  split
  ·exact h
  exact h
theorem gi_close {X:Type} {g:Nat} {T:TypeId} {gc:X->Value->Value->Value->Array Value} {S:World->(Nat->Prop)->X->Prop} {w':World} {gs:Gs} {x':X} {A:Nat->Nat} {C M D':Nat->Prop} {f:Fm} {r:List Fm} {bd to:Nat} {nm:List UInt8}
 (hs:S w' D' x') (hb:ay w' g (gc x' (dD A r) (.string (bZ nm)) (.int .i64 ((f.ix:Int)+1))) T) (hm:gE w' A C bd (Fm.ends f to::r) [] M) (hl:r.length<=8) (hi4:f.ix<=4000000) (wv:f.ws.length<=4000000) (vM:f.kp=true->∀p q,r=p::q->f.ix=p.ws.length) (hp:f.d.path=jF r f.ix f.d.name) (hpr:sM r) (hc:∀k,C k->k<w'.heap.size)
 (wB:∀k,D' k->¬M k/\¬C k/\k≠g) (hg:¬M g/\¬C g) (Oz:gs=⟨nw r f.kp (f.tv to),nm,f.ix+1,bd,some (f.tv to)⟩) (hok:Qk gs):∃C' M',GI g T gc S w' gs x' A C' M' D'/\(∀k,C' k->C k\/M k)/\(∀k,M' k->M k):=by
 obtain ⟨C',M',c1,c2,c3,c4,c5,c6⟩:=hm.close hl wv vM hp
 refine ⟨C',M',⟨hs,?_,?_,hok,?_,λ k hk=>?_,λ k hk=>⟨λ e=>(wB k hk).1 (c3 k e),λ e=>?_,(wB k hk).2.2⟩,⟨λ e=>hg.1 (c3 g e),λ e=>(c1 g e).elim hg.2 hg.1⟩,λ h0 t ht=>?_⟩,c1,c3⟩
 ·rw [Oz,Lj]; exact hb
 ·rw [Oz]; exact c4
 ·rw [Oz]; exact F_ hpr _ _
 ·rcases c1 k hk with e | e
  ·exact hc k e
  exact (hm.lt k e).1
 ·rcases c1 k e with y | y
  ·exact (wB k hk).2.1 y
  exact (wB k hk).1 y
 have hr:r=[]:=by
  cases r with
  | nil=>rfl
  | cons p q=>rw [Oz] at h0; simp [nw] at h0
 have et:f.tv to=t:=by rw [Oz] at ht; exact Option.some.inj ht
 rw [<-et,Oz]
 subst hr
 exact ⟨⟨_,hi4,c5⟩,c6,hp⟩
end Go.Proofs.YtcbadebjpogmlaaGreatDoor
