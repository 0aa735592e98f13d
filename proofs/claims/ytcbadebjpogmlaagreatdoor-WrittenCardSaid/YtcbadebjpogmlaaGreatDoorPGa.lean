import Derived.Test.YtcbadebjpogmlaaGreatDoorPShelf
import Derived.Test.YtcbadebjpogmlaaGreatDoorPBase
import Derived.Test.YtcbadebjpogmlaaGreatDoorPSb
import Derived.BigRegion
import Derived.Deep.AppendLies
import Derived.Deep.RegionLaw
import Derived.Laws.EntriesVeiled
import Derived.Deep.RegionHeld
namespace Tr
structure Fm where
 d:Dat
 ix:Nat
 kp:Bool
 ws:List Tv
structure Gs where
 st:List Fm
 nm:List UInt8
 ix:Nat
 bd:Nat
 last:Option Tv
def gInit:Gs:=⟨[],[],0,0,none⟩
def Fm.tv (f:Fm) (to:Nat):Tv:=⟨{ f.d with to:=to },f.ws⟩
def kOf (of:Nat):Nat:=if of=3 then 1 else if of=4 then 2 else if of=5 then 4 else if of=6 then 5 else 3
def sOf (t:Tok):List UInt8:=if t.of=4 then t.t else if t.of=2 then wTrue else if t.of=1 then wFalse else if t.of=0 then wNull else []
def kPath (kind:Nat) (path:List UInt8) (ix:Nat) (nm:List UInt8):List UInt8:=if kind=4 then path++[91]++dec ix++[93] else path++[91]++quoT nm++[93]
def gPath (st:List Fm) (ix:Nat) (nm:List UInt8):List UInt8:=match st with
 | []=>[36]
 | f::_=>kPath f.d.kind f.d.path ix nm
def gDat (g:Gs) (t:Tok):Dat:=⟨kOf t.of,t.n,sOf t,g.nm,gPath g.st g.ix g.nm,t.frm,0,0⟩
def gBegin (g:Gs) (t:Tok) (kp:Bool):Fm:=⟨gDat g t,g.ix,kp,[]⟩
def gKeep (p:Fm) (kp:Bool) (t:Tv):Fm:=if kp=true then { p with ws:=p.ws++[t] } else p
def gOn (r:List Fm) (kp:Bool) (t:Tv):List Fm:=match r with
 | []=>[]
 | p::q=>gKeep p kp t::q
def gClose (g:Gs) (f:Fm) (r:List Fm) (to:Nat):Gs:={ g with st:=gOn r f.kp (f.tv to),ix:=f.ix+1,last:=some (f.tv to) }
def gTake (g:Gs) (t:Tok) (kp:Bool):Gs :=
 if t.k=0 then { g with st:=gBegin g t kp::g.st,nm:=[],ix:=0,bd:=t.frm+1 }
 else if t.k=1 then (match g.st with
  | []=>g
  | f::r=>gClose g f r t.to)
 else if t.k=2 then { g with nm:=t.t }
 else gClose { g with nm:=[],bd:=t.frm+1 } (gBegin g t kp) g.st t.to
def gRun (g:Gs) (ts:List Tok):Gs:=ts.foldl (fun g t=>gTake g t true) g
theorem gRun_app (g:Gs) (a b:List Tok):gRun g (a++b)=gRun (gRun g a) b:=by simp [gRun]
def fk (f:Fm):Nat:=if f.d.kind=4 then 5 else 6
def Gs.sh (g:Gs):Sh:=⟨(g.st.map fk).reverse,g.bd⟩
theorem fk_keep (p:Fm) (kp:Bool) (t:Tv):fk (gKeep p kp t)=fk p:=by unfold gKeep; split<;>rfl
theorem gOn_map (r:List Fm) (kp:Bool) (t:Tv):(gOn r kp t).map fk=r.map fk:=by cases r<;>simp [gOn,fk_keep]
theorem sh_take (g:Gs) (t:Tok) (kp:Bool) (h:TokOk g.sh t):(gTake g t kp).sh=shTake g.sh t:=by
 unfold gTake shTake
 by_cases h0:t.k=0
 ·rw [if_pos h0,if_pos h0]
  have:=(h.k0 h0).1
  have e:fk (gBegin g t kp)=t.of:=by rcases this with x | x<;>simp [fk,gBegin,gDat,kOf,x]
  simp [Gs.sh,e]
 rw [if_neg h0,if_neg h0]
 by_cases h1:t.k=1
 ·rw [if_pos h1,if_pos h1]
  cases hs:g.st with
  | nil=>simp [Gs.sh,hs]
  | cons f r=>simp [Gs.sh,gClose,gOn_map,hs]
 rw [if_neg h1,if_neg h1]
 by_cases h2:t.k=2
 ·rw [if_pos h2,if_pos h2]; rfl
 rw [if_neg h2,if_neg h2]
 simp [Gs.sh,gClose,gOn_map,gBegin,gDat]
def ixOk:List Fm→Nat→Prop
 | [],_=>True
 | f::r,ix=>ix=f.ws.length∧f.kp=true∧ixOk r f.ix
theorem ix_on {f:Fm} {r:List Fm} (to:Nat) (hkp:f.kp=true) (h:ixOk r f.ix):ixOk (gOn r f.kp (f.tv to)) (f.ix+1):=by
 cases r with
 | nil=>trivial
 | cons p q =>
  obtain ⟨a1,a2,a3⟩:=h
  simp [gOn,gKeep,hkp,ixOk,a1,a2,a3]
theorem ix_take {g:Gs} {t:Tok} (h:ixOk g.st g.ix):ixOk (gTake g t true).st (gTake g t true).ix:=by
 unfold gTake
 by_cases h0:t.k=0
 ·rw [if_pos h0]
  exact ⟨rfl,rfl,h⟩
 rw [if_neg h0]
 by_cases h1:t.k=1
 ·rw [if_pos h1]
  cases hs:g.st with
  | nil=>rw [hs] at h; simpa [hs] using h
  | cons f r =>
   rw [hs] at h
   exact ix_on t.to h.2.1 h.2.2
 rw [if_neg h1]
 by_cases h2:t.k=2
 ·rw [if_pos h2]; exact h
 rw [if_neg h2]
 exact ix_on (f:=gBegin g t true) t.to rfl h
def wsOk (bd:Nat):List Fm→Nat→Prop
 | [],_=>True
 | f::r,ix=>f.ws.length≤ix∧f.ix≤f.d.frm∧f.d.frm<bd∧(f.d.kind=4∨f.d.kind=5)∧(f.kp=true→∀p q,r=p::q→f.ix=p.ws.length)∧wsOk bd r f.ix
theorem wsOk.up {bd bd':Nat} (hb:bd≤bd'):∀{l:List Fm} {ix:Nat},wsOk bd l ix→wsOk bd' l ix
 | [],_,_=>trivial
 | _::_,_,⟨h1,h2,h3,h4,h5,h6⟩=>⟨h1,h2,by omega,h4,h5,wsOk.up hb h6⟩
structure GOk (g:Gs):Prop where
 len:g.st.length≤8
 ix:g.ix≤g.bd
 bd:g.bd≤4000000
 ws:wsOk g.bd g.st g.ix
theorem gInit_ok:GOk gInit:=⟨by simp [gInit],Nat.le_refl _,by simp [gInit],trivial⟩
def mayKeep (g:Gs) (kp:Bool):Prop:=kp=true→∀p q,g.st=p::q→g.ix=p.ws.length
theorem ixOk.may {g:Gs} (h:ixOk g.st g.ix) (kp:Bool):mayKeep g kp:=fun _ p q e=>by rw [e] at h; exact h.1
theorem ws_on {bd:Nat} {f:Fm} {r:List Fm} (to:Nat) (hw:wsOk bd r f.ix):wsOk bd (gOn r f.kp (f.tv to)) (f.ix+1):=by
 cases r with
 | nil=>trivial
 | cons p q =>
  obtain ⟨a1,a2,a3,a4,a5,a6⟩:=hw
  show wsOk bd (gKeep p f.kp (f.tv to)::q) (f.ix+1)
  unfold gKeep
  by_cases hkp:f.kp=true
  ·rw [if_pos hkp]; exact ⟨by simp; omega,a2,a3,a4,a5,a6⟩
  rw [if_neg hkp]; exact ⟨by omega,a2,a3,a4,a5,a6⟩
theorem gOn_len (r:List Fm) (kp:Bool) (t:Tv):(gOn r kp t).length=r.length:=by cases r<;>simp [gOn]
theorem gOk_take {g:Gs} {t:Tok} {kp:Bool} (h:GOk g) (ht:TokOk g.sh t) (hkp:mayKeep g kp):GOk (gTake g t kp):=by
 have hl:g.sh.op.length=g.st.length:=by simp [Gs.sh]
 have hbd:g.sh.bd=g.bd:=rfl
 have h8:=h.len
 have hix:=h.ix
 have hb:=h.bd
 unfold gTake
 by_cases h0:t.k=0
 ·rw [if_pos h0]
  have k0:=ht.k0 h0
  have hf:=ht.frm
  refine ⟨by simp; omega,by simp,by simp; omega,⟨by simp [gBegin],?_,by simp [gBegin,gDat],?_,fun hk p q e=>hkp hk p q e,h.ws.up (show g.bd≤t.frm+1 by omega)⟩⟩
  ·show g.ix≤t.frm; omega
  show kOf t.of=4∨kOf t.of=5
  rcases k0.1 with x | x<;>rw [x]<;>decide
 rw [if_neg h0]
 by_cases h1:t.k=1
 ·rw [if_pos h1]
  cases hs:g.st with
  | nil=>simp only; exact ⟨by simp [hs],hix,hb,by rw [hs]; trivial⟩
  | cons f r =>
   have hw:=h.ws
   rw [hs] at hw h8
   obtain ⟨_,a2,a3,_,_,a6⟩:=hw
   refine ⟨by simp [gClose,gOn_len]; simp at h8; omega,by simp only [gClose]; omega,hb,ws_on t.to a6⟩
 rw [if_neg h1]
 by_cases h2:t.k=2
 ·rw [if_pos h2]; exact ⟨h.len,h.ix,h.bd,h.ws⟩
 rw [if_neg h2]
 have k3:=ht.k3 (by have:=ht.k; omega)
 have hf:=ht.frm
 refine ⟨by simp [gClose,gOn_len]; omega,by simp only [gClose,gBegin]; omega,by simp only [gClose]; omega,ws_on (f:=gBegin g t kp) t.to (h.ws.up (show g.bd≤t.frm+1 by omega))⟩
def FB (bd:Nat):Nat→Tv→Prop
 | 0,_=>False
 | n+1,t=>t.d.frm<bd∧∀i (h:i<t.ws.length),FB bd n t.ws[i]∧(t.ws[i]).d.path=kPath t.d.kind t.d.path i (t.ws[i]).d.name
theorem FB.up {bd bd':Nat} (hb:bd≤bd'):∀{n:Nat} {t:Tv},FB bd n t→FB bd' n t
 | 0,_,h=>h
 | _+1,_,⟨h1,h2⟩=>⟨by omega,fun i h=>⟨FB.up hb (h2 i h).1,(h2 i h).2⟩⟩
def pthOk:List Fm→Prop
 | []=>True
 | f::r=>f.d.path=gPath r f.ix f.d.name∧pthOk r
end Tr
namespace Go.Proofs.YtcbadebjpogmlaaGreatDoor
open Go.RowKit Tr
def vpt (b:Nat):Value:=.pointer (some ⟨b,0,none⟩)
def parP (A:Nat→Nat) (r:List Fm):Value:=match r with
 | []=>.pointer none
 | f::_=>vpt (A f.d.frm)
structure FrO (w:World) (A:Nat→Nat) (C:Nat→Prop) (bd n:Nat) (par:Value) (f:Fm) (ex:List Value) (sv:Value):Prop where
 b:Blk w (A f.d.frm) (pcl f.d par f.ix sv) 130
 o:w.ownsRow 0 71 1 sv (f.ws.length+ex.length) (f.ws.map (pvp A)++ex)
 d:DOk f.d
 ks:∀i (h:i<f.ws.length),PT w A C n (vpt (A f.d.frm)) i f.ws[i]∧FB bd n f.ws[i]∧(f.ws[i]).d.path=kPath f.d.kind f.d.path i (f.ws[i]).d.name
 nb:sv.ownBlock≠some (A f.d.frm)
 nc:¬C (A f.d.frm)∧∀k,sv.ownBlock=some k→¬C k
 fr:f.d.frm<bd
def FrM (w:World) (A:Nat→Nat) (C:Nat→Prop) (bd:Nat):List Fm→List Value→(Nat→Prop)→Prop
 | [],_,M=>∀k,¬M k
 | f::r,ex,M=>∃sv M',FrO w A C bd (9 - r.length) (parP A r) f ex sv∧(∀k,M k↔k=A f.d.frm∨sv.ownBlock=some k∨M' k)∧¬M' (A f.d.frm)∧(∀k,sv.ownBlock=some k→¬M' k) ∧
  FrM w A C bd r (if f.kp=true then [vpt (A f.d.frm)] else []) M'
theorem PT.more {w:World} {A:Nat→Nat} {D D':Nat→Prop} (hD:∀k,D k→D' k):∀(n:Nat) (par:Value) (ix:Nat) (t:Tv),PT w A D n par ix t→PT w A D' n par ix t
 | 0,_,_,_,h=>h
 | n+1,_,_,_,⟨h2,hd,hl,⟨sv,h3,h4,h5⟩,h6⟩=>⟨hD _ h2,hd,hl,⟨sv,h3,fun k hk=>hD k (h4 k hk),h5⟩,fun i hi=>PT.more hD n _ i _ (h6 i hi)⟩
theorem pvp_upd {A A':Nat→Nat} {bd:Nat} (h:∀k,k<bd→A' k=A k) {n:Nat} {t:Tv} (hf:FB bd n t):pvp A' t=pvp A t:=by
 cases n with
 | zero=>exact hf.elim
 | succ n=>unfold pvp; rw [h _ hf.1]
theorem PT.upd {w:World} {A A':Nat→Nat} {D:Nat→Prop} {bd:Nat} (h:∀k,k<bd→A' k=A k):∀(n:Nat) (par:Value) (ix:Nat) (t:Tv),FB bd n t→PT w A D n par ix t→PT w A' D n par ix t
 | 0,_,_,_,_,x=>x
 | n+1,_,_,t,hf,⟨h2,hd,hl,⟨sv,h3,h4,h5⟩,h6⟩=>by
  have e:A' t.d.frm=A t.d.frm:=h _ hf.1
  have em:t.ws.map (pvp A')=t.ws.map (pvp A):=by
   apply List.map_congr_left
   intro c hc
   obtain ⟨i,hi,rfl⟩:=List.mem_iff_getElem.1 hc
   exact pvp_upd h (hf.2 i hi).1
  refine ⟨by rw [e]; exact h2,hd,hl,⟨sv,by rw [e]; exact h3,h4,by rw [em]; exact h5⟩,fun i hi=>?_⟩
  rw [show pvp A' t=pvp A t by unfold pvp; rw [e]]
  exact PT.upd h n _ i _ (hf.2 i hi).1 (h6 i hi)
theorem FrM.keep {w w':World} {A:Nat→Nat} {C:Nat→Prop} {bd:Nat} (hC:Sm C w w'):∀{l:List Fm} {ex:List Value} {M:Nat→Prop},FrM w A C bd l ex M→Sm M w w'→FrM w' A C bd l ex M
 | [],_,_,h,_=>h
 | _::_,_,_,⟨sv,M',h1,h2,h3,h4,h5⟩,hM =>
  ⟨sv,M',⟨(hM _ ((h2 _).2 (Or.inl rfl))).trans h1.b,own_at' h1.o (fun k hk=>hM k ((h2 k).2 (Or.inr (Or.inl hk)))),h1.d,fun i hi=>⟨(h1.ks i hi).1.keep hC,(h1.ks i hi).2⟩,h1.nb,h1.nc,h1.fr⟩,h2,h3,h4,h5.keep hC (fun k hk=>hM k ((h2 k).2 (Or.inr (Or.inr hk))))⟩
theorem FrM.lt {w:World} {A:Nat→Nat} {C:Nat→Prop} {bd:Nat}:∀{l:List Fm} {ex:List Value} {M:Nat→Prop},FrM w A C bd l ex M→∀k,M k→k<w.heap.size∧¬C k
 | [],_,_,h,k,hk=>absurd hk (h k)
 | _::_,_,_,⟨sv,M',h1,h2,_,_,h5⟩,k,hk=>by
  rcases (h2 k).1 hk with x | x | x
  ·rw [x]; exact ⟨h1.b.lt,h1.nc.1⟩
  ·exact ⟨(h1.o.lt k x).2,h1.nc.2 k x⟩
  exact h5.lt k x
theorem parP_upd {A A':Nat→Nat} {bd:Nat} (h:∀k,k<bd→A' k=A k) {w:World} {C:Nat→Prop} {l:List Fm} {ex:List Value} {M:Nat→Prop} (hm:FrM w A C bd l ex M):parP A' l=parP A l:=by
 cases l with
 | nil=>rfl
 | cons f r =>
  obtain ⟨sv,M',h1,_⟩:=hm
  show vpt (A' f.d.frm)=vpt (A f.d.frm)
  rw [h _ h1.fr]
theorem FrM.upd {w:World} {A A':Nat→Nat} {C:Nat→Prop} {bd bd':Nat} (hb:bd≤bd') (h:∀k,k<bd→A' k=A k):∀{l:List Fm} {ex:List Value} {M:Nat→Prop},FrM w A C bd l ex M→FrM w A' C bd' l ex M
 | [],_,_,x=>x
 | f::r,ex,M,⟨sv,M',h1,h2,h3,h4,h5⟩=>by
  have e:A' f.d.frm=A f.d.frm:=h _ h1.fr
  have em:f.ws.map (pvp A')=f.ws.map (pvp A):=by
   apply List.map_congr_left
   intro c hc
   obtain ⟨i,hi,rfl⟩:=List.mem_iff_getElem.1 hc
   exact pvp_upd h (h1.ks i hi).2.1
  refine ⟨sv,M',⟨by rw [e,parP_upd h h5]; exact h1.b,by rw [em]; exact h1.o,h1.d,fun i hi=>⟨?_,(h1.ks i hi).2.1.up hb,(h1.ks i hi).2.2⟩,by rw [e]; exact h1.nb,by rw [e]; exact h1.nc,Nat.lt_of_lt_of_le h1.fr hb⟩,fun k=>by rw [e]; exact h2 k,by rw [e]; exact h3,h4,?_⟩
  ·rw [e]; exact PT.upd h _ _ i _ (h1.ks i hi).2.1 (h1.ks i hi).1
  rw [e]; exact FrM.upd hb h h5
theorem FrM.grow {w:World} {A:Nat→Nat} {C C':Nat→Prop} {bd:Nat} (hC:∀k,C k→C' k):∀{l:List Fm} {ex:List Value} {M:Nat→Prop},FrM w A C bd l ex M→(∀k,M k→¬C' k)→FrM w A C' bd l ex M
 | [],_,_,h,_=>h
 | _::_,_,_,⟨sv,M',h1,h2,h3,h4,h5⟩,hM =>
  ⟨sv,M',⟨h1.b,h1.o,h1.d,fun i hi=>⟨PT.more hC _ _ _ _ (h1.ks i hi).1,(h1.ks i hi).2⟩,h1.nb,⟨hM _ ((h2 _).2 (Or.inl rfl)),fun k hk=>hM k ((h2 k).2 (Or.inr (Or.inl hk)))⟩,h1.fr⟩,h2,h3,h4,h5.grow hC (fun k hk=>hM k ((h2 k).2 (Or.inr (Or.inr hk))))⟩
theorem FrM.close {w:World} {A:Nat→Nat} {C:Nat→Prop} {bd:Nat} {f:Fm} {r:List Fm} {M:Nat→Prop} (h:FrM w A C bd (f::r) [] M) (hl:r.length≤8) (hws:f.ws.length≤4000000) (hix:f.kp=true→∀p q,r=p::q→f.ix=p.ws.length)
 (hp:f.d.path=gPath r f.ix f.d.name) :
 ∃C' M',(∀k,C' k→C k∨M k)∧(∀k,C k→C' k)∧(∀k,M' k→M k)∧FrM w A C' bd (gOn r f.kp ⟨f.d,f.ws⟩) [] M'∧PT w A C' (9 - r.length+1) (parP A r) f.ix ⟨f.d,f.ws⟩∧FB bd (9 - r.length+1) ⟨f.d,f.ws⟩:=by
 obtain ⟨sv,M',h1,h2,h3,h4,h5⟩:=h
 have hCM:∀k,(C k∨k=A f.d.frm∨sv.ownBlock=some k)→¬M' k:=fun k hk hm=>by
  rcases hk with x | x | x
  ·exact (h5.lt k hm).2 x
  ·rw [x] at hm; exact h3 hm
  exact h4 k x hm
 have ho:=h1.o
 simp only [List.length_nil,Nat.add_zero,List.append_nil] at ho
 have hPT:PT w A (fun k=>C k∨k=A f.d.frm∨sv.ownBlock=some k) (9 - r.length+1) (parP A r) f.ix ⟨f.d,f.ws⟩ :=
  ⟨Or.inr (Or.inl rfl),h1.d,hws,⟨sv,h1.b,fun k hk=>Or.inr (Or.inr hk),ho⟩,fun i hi=>PT.more (fun k hk=>Or.inl hk) _ _ _ _ (h1.ks i hi).1⟩
 have hFB:FB bd (9 - r.length+1) ⟨f.d,f.ws⟩:=⟨h1.fr,fun i hi=>(h1.ks i hi).2⟩
 refine ⟨fun k=>C k∨k=A f.d.frm∨sv.ownBlock=some k,M',fun k hk=>?_,fun k=>Or.inl,fun k hk=>(h2 k).2 (Or.inr (Or.inr hk)),?_,hPT,hFB⟩
 ·rcases hk with x | x | x
  ·exact Or.inl x
  ·exact Or.inr ((h2 k).2 (Or.inl x))
  exact Or.inr ((h2 k).2 (Or.inr (Or.inl x)))
 cases r with
 | nil=>exact h5
 | cons p q =>
  obtain ⟨sv2,M2,g1,g2,g3,g4,g5⟩:=h5
  have hnc:¬(C (A p.d.frm)∨A p.d.frm=A f.d.frm∨sv.ownBlock=some (A p.d.frm))∧∀k,sv2.ownBlock=some k→¬(C k∨k=A f.d.frm∨sv.ownBlock=some k) :=
   ⟨fun x=>hCM _ x ((g2 _).2 (Or.inl rfl)),fun k hk x=>hCM k x ((g2 k).2 (Or.inr (Or.inl hk)))⟩
  have hq:FrM w A (fun k=>C k∨k=A f.d.frm∨sv.ownBlock=some k) bd q (if p.kp=true then [vpt (A p.d.frm)] else []) M2:=by
   refine FrM.grow (fun k=>Or.inl) g5 (fun k hk x=>hCM k x ((g2 k).2 (Or.inr (Or.inr hk))))
  show FrM w A _ bd (gKeep p f.kp ⟨f.d,f.ws⟩::q) [] M'
  unfold gKeep
  by_cases hkp:f.kp=true
  ·rw [if_pos hkp]
   rw [if_pos hkp] at g1
   have hi:=hix hkp p q rfl
   have e9:9 - q.length=9 - (p::q).length+1:=by simp at hl ⊢; omega
   refine ⟨sv2,M2,⟨g1.b,?_,g1.d,fun i hi2=>?_,g1.nb,hnc,g1.fr⟩,g2,g3,g4,hq⟩
   ·have:=g1.o
    simpa [pvp,vpt] using this
   by_cases hl2:i<p.ws.length
   ·have e:(p.ws++[(⟨f.d,f.ws⟩:Tv)])[i]=p.ws[i]:=List.getElem_append_left hl2
    show PT w A _ _ _ i (p.ws++[(⟨f.d,f.ws⟩:Tv)])[i]∧FB bd _ (p.ws++[(⟨f.d,f.ws⟩:Tv)])[i]∧_
    rw [e]
    exact ⟨PT.more (fun k=>Or.inl) _ _ _ _ (g1.ks i hl2).1,(g1.ks i hl2).2⟩
   have ei:i=p.ws.length:=by simp at hi2; omega
   subst ei
   have e:(p.ws++[(⟨f.d,f.ws⟩:Tv)])[p.ws.length]=⟨f.d,f.ws⟩:=by simp
   show PT w A _ _ _ _ (p.ws++[(⟨f.d,f.ws⟩:Tv)])[p.ws.length]∧FB bd _ (p.ws++[(⟨f.d,f.ws⟩:Tv)])[p.ws.length]∧_
   rw [e,e9,← hi]
   exact ⟨hPT,hFB,hp⟩
  rw [if_neg hkp]
  rw [if_neg hkp] at g1
  exact ⟨sv2,M2,⟨g1.b,g1.o,g1.d,fun i hi=>⟨PT.more (fun k=>Or.inl) _ _ _ _ (g1.ks i hi).1,(g1.ks i hi).2⟩,g1.nb,hnc,g1.fr⟩,g2,g3,g4,hq⟩
theorem FrM.fr {K:Nat→Prop} {w w':World} {A:Nat→Nat} {C:Nat→Prop} {bd:Nat} {l:List Fm} {ex:List Value} {M:Nat→Prop} (h:FrM w A C bd l ex M) (hC:∀k,C k→k<w.heap.size) (f:Fr K w w') (hK:∀k,K k→¬M k∧¬C k):FrM w' A C bd l ex M :=
 h.keep (fun k hk=>f.block k (hC k hk) (fun x=>(hK k x).2 hk)) (fun k hk=>f.block k (h.lt k hk).1 (fun x=>(hK k x).1 hk))
def updA (A:Nat→Nat) (frm b:Nat):Nat→Nat:=fun k=>if k=frm then b else A k
theorem updA_self (A:Nat→Nat) (frm b:Nat):updA A frm b frm=b:=by simp [updA]
theorem updA_ne (A:Nat→Nat) {frm b k:Nat} (h:k≠frm):updA A frm b k=A k:=by simp [updA,h]
theorem FrM.new {w w':World} {A:Nat→Nat} {C:Nat→Prop} {bd:Nat} {r:List Fm} {M:Nat→Prop} (h:FrM w A C bd r [] M) (hC:∀k,C k→k<w.heap.size) {f:Fm} {b:Nat} (hbw:w.heap.size≤b) (hb:Blk w' b (pcl f.d (parP A r) f.ix (.slice none 0 0)) 130) (hk:Keeps w w') (hf:bd≤f.d.frm) (hkp:f.kp=false) (hws:f.ws=[]) (hd:DOk f.d) :
 FrM w' (updA A f.d.frm b) C (f.d.frm+1) (f::r) [] (fun k=>k=b∨M k):=by
 have hA:∀k,k<bd→updA A f.d.frm b k=A k:=fun k hk=>updA_ne A (by omega)
 have h':FrM w' A C bd r [] M:=h.fr hC hk (fun _ x=>x.elim)
 have e:updA A f.d.frm b f.d.frm=b:=updA_self _ _ _
 have hMb:¬M b:=fun x=>by have:=(h.lt b x).1; omega
 have hCb:¬C b:=fun x=>by have:=hC b x; omega
 refine ⟨.slice none 0 0,M,⟨?_,?_,hd,fun i hi=>?_,(fun x=>by cases x),?_,Nat.lt_succ_self _⟩,fun k=>?_,?_,(fun k x=>by cases x),?_⟩
 ·rw [e,parP_upd hA h]; exact hb
 ·rw [hws]; exact World.ownsRow_nil _ _ _ _
 ·rw [hws] at hi; exact absurd hi (Nat.not_lt_zero _)
 ·rw [e]; exact ⟨hCb,fun k x=>by cases x⟩
 ·rw [e]
  constructor
  ·rintro (x | x)
   ·exact Or.inl x
   exact Or.inr (Or.inr x)
  rintro (x | x | x)
  ·exact Or.inl x
  ·cases x
  exact Or.inr x
 ·rw [e]; exact hMb
 rw [hkp]
 exact h'.upd (by omega) hA
theorem FrM.kept {w w1 w2:World} {A:Nat→Nat} {C:Nat→Prop} {bd:Nat} {f p:Fm} {q:List Fm} {sv sv2 v':Value} {M' M2:Nat→Prop} (h1:FrO w A C bd (9 - (p::q).length) (parP A (p::q)) f [] sv) (h3:¬M' (A f.d.frm)) (h4:∀k,sv.ownBlock=some k→¬M' k)
 (g1:FrO w A C bd (9 - q.length) (parP A q) p [] sv2) (g2:∀k,M' k↔k=A p.d.frm∨sv2.ownBlock=some k∨M2 k) (g3:¬M2 (A p.d.frm)) (g4:∀k,sv2.ownBlock=some k→¬M2 k) (g5:FrM w A C bd q (if p.kp=true then [vpt (A p.d.frm)] else []) M2)
 (hC:∀k,C k→k<w.heap.size) (f1:Keeps w w1) (hg:w1.grownBy w2 sv2.ownBlock) (ho:w2.ownsRow 0 71 1 v' (p.ws.length+1) (p.ws.map (pvp A)++[vpt (A f.d.frm)])) (hvb:v'.ownBlock=sv2.ownBlock∨v'.ownBlock=some w1.heap.size) :
 FrM (w2.setCell ⟨A p.d.frm,8,none⟩ v') A C bd ({ f with kp:=true }::p::q) [] (fun k=>k=A f.d.frm∨sv.ownBlock=some k∨k=A p.d.frm∨v'.ownBlock=some k∨M2 k) ∧
 Fr (fun k=>k=A p.d.frm∨sv2.ownBlock=some k) w (w2.setCell ⟨A p.d.frm,8,none⟩ v'):=by
 have kb:∀k,k<w.heap.size→k≠A p.d.frm→sv2.ownBlock≠some k→(w2.setCell ⟨A p.d.frm,8,none⟩ v').heap[k]?=w.heap[k]?:=fun k hk hp hn=>by
  rw [Below.heap_setCell _ _ _ _ (fun e=>hp e),hg.block k (Nat.lt_of_lt_of_le hk f1.size) (fun e=>hn e.symm),f1.block k hk id]
 have kC:Sm C w (w2.setCell ⟨A p.d.frm,8,none⟩ v'):=fun k hk=>kb k (hC k hk) (fun e=>g1.nc.1 (e▸hk)) (fun e=>g1.nc.2 k e hk)
 have hpf:A f.d.frm≠A p.d.frm:=fun e=>h3 (e▸(g2 _).2 (Or.inl rfl))
 have hsf:sv2.ownBlock≠some (A f.d.frm):=fun e=>h3 ((g2 _).2 (Or.inr (Or.inl e)))
 have hv:∀k,v'.ownBlock=some k→sv2.ownBlock=some k∨w.heap.size≤k:=fun k hk=>by
  rcases hvb with x | x
  ·exact Or.inl (x.symm.trans hk)
  have:w1.heap.size=k:=Option.some.inj (x.symm.trans hk)
  have:=f1.size
  exact Or.inr (by omega)
 have hplt:=g1.b.lt
 have b2:Blk w2 (A p.d.frm) (pcl p.d (parP A q) p.ix sv2) 130:=by
  show w2.heap[A p.d.frm]?=_
  rw [hg.block _ (Nat.lt_of_lt_of_le hplt f1.size) (fun e=>g1.nb e.symm),f1.block _ hplt id]; exact g1.b
 have hvp:v'.ownBlock≠some (A p.d.frm):=fun e=>by
  rcases hv _ e with x | x
  ·exact g1.nb x
  omega
 have hvC:∀k,v'.ownBlock=some k→¬C k:=fun k hk x=>by
  rcases hv k hk with y | y
  ·exact g1.nc.2 k y x
  have:=hC k x; omega
 have hvM:∀k,v'.ownBlock=some k→¬M2 k:=fun k hk x=>by
  rcases hv k hk with y | y
  ·exact g4 k y x
  have:=(g5.lt k x).1; omega
 have hvf:v'.ownBlock≠some (A f.d.frm):=fun e=>by
  rcases hv _ e with x | x
  ·exact hsf x
  have:=h1.b.lt; omega
 have hvs:∀k,sv.ownBlock=some k→v'.ownBlock≠some k:=fun k hk e=>by
  rcases hv k e with x | x
  ·exact h4 k hk ((g2 k).2 (Or.inr (Or.inl x)))
  have:=(h1.o.lt k hk).2; omega
 refine ⟨⟨sv,fun k=>k=A p.d.frm∨v'.ownBlock=some k∨M2 k,⟨(kb _ h1.b.lt hpf hsf).trans h1.b,own_at' h1.o (fun k hk=>kb k (h1.o.lt k hk).2 (fun e=>h4 k hk ((g2 k).2 (Or.inl e))) (fun e=>h4 k hk ((g2 k).2 (Or.inr (Or.inl e))))),h1.d,fun i hi=>⟨(h1.ks i hi).1.keep kC,(h1.ks i hi).2⟩,h1.nb,h1.nc,h1.fr⟩,fun _=>Iff.rfl,?_,?_,?_⟩,⟨?_,?_,?_,?_,fun k hk hn=>?_⟩⟩
 ·rintro (x | x | x)
  ·exact hpf x
  ·exact hvf x
  exact h3 ((g2 _).2 (Or.inr (Or.inr x)))
 ·rintro k hk (x | x | x)
  ·exact h4 k hk ((g2 k).2 (Or.inl x))
  ·exact hvs k hk x
  exact h4 k hk ((g2 k).2 (Or.inr (Or.inr x)))
 ·refine ⟨v',M2,⟨b2.set 8 v',?_,g1.d,fun i hi=>⟨(g1.ks i hi).1.keep kC,(g1.ks i hi).2⟩,hvp,⟨g1.nc.1,hvC⟩,g1.fr⟩,fun _=>Iff.rfl,g3,hvM,?_⟩
  ·show World.ownsRow _ _ _ _ _ (p.ws.length+1) (p.ws.map (pvp A)++[vpt (A f.d.frm)])
   exact own_at' ho (fun k hk=>Below.heap_setCell _ _ _ _ (fun e=>hvp (by rw [hk]; exact congrArg some e)))
  exact g5.keep kC (fun k hk=>kb k (g5.lt k hk).1 (fun e=>g3 (e▸hk)) (fun e=>g4 k e hk))
 ·exact hg.os.trans f1.os
 ·exact hg.tape.trans f1.tape
 ·exact hg.output.trans f1.output
 ·exact Nat.le_trans f1.size (Nat.le_trans hg.size (by simp [World.setCell]))
 exact kb k hk (fun e=>hn (Or.inl e)) (fun e=>hn (Or.inr e))
end Go.Proofs.YtcbadebjpogmlaaGreatDoor
namespace Go.Proofs.YtcbadebjpogmlaaGreatDoor
open Go.RowKit Tr
structure GLay {X:Type} (T:TypeId) (o:Nat) (fb fc:Value) (gc:X→Value→Value→Value→Array Value):Prop where
 c0:∀{w:World} {g:Nat} {x:X} {a b c:Value},Blk w g (gc x a b c) T→w.cell? ⟨g,o,none⟩=some fb
 c1:∀{w:World} {g:Nat} {x:X} {a b c:Value},Blk w g (gc x a b c) T→w.cell? ⟨g,o+1,none⟩=some fc
 c2:∀{w:World} {g:Nat} {x:X} {a b c:Value},Blk w g (gc x a b c) T→w.cell? ⟨g,o+2,none⟩=some a
 c3:∀{w:World} {g:Nat} {x:X} {a b c:Value},Blk w g (gc x a b c) T→w.cell? ⟨g,o+3,none⟩=some b
 c4:∀{w:World} {g:Nat} {x:X} {a b c:Value},Blk w g (gc x a b c) T→w.cell? ⟨g,o+4,none⟩=some c
 s2:∀{w:World} {g:Nat} {x:X} {a b c:Value} (v:Value),Blk w g (gc x a b c) T→Blk (w.setCell ⟨g,o+2,none⟩ v) g (gc x v b c) T
 s3:∀{w:World} {g:Nat} {x:X} {a b c:Value} (v:Value),Blk w g (gc x a b c) T→Blk (w.setCell ⟨g,o+3,none⟩ v) g (gc x a v c) T
 s4:∀{w:World} {g:Nat} {x:X} {a b c:Value} (v:Value),Blk w g (gc x a b c) T→Blk (w.setCell ⟨g,o+4,none⟩ v) g (gc x a b v) T
structure GCb {X:Type} (g:Nat) (T:TypeId) (gc:X→Value→Value→Value→Array Value) (fb fc:Value) (S:World→(Nat→Prop)→X→Prop) (bk:X→Bool) (bg cl:X→List Fm→Fm→Nat→X→Prop) (OkB:X→List Fm→Fm→Nat→Prop) (OkC:X→List Fm→Fm→(Nat→Nat)→Prop):Prop where
 lt:∀{w:World} {D:Nat→Prop} {x:X} {k:Nat},S w D x→D k→k<w.heap.size
 keep:∀{w w':World} {D:Nat→Prop} {x:X},S w D x→Sm D w w'→w.heap.size≤w'.heap.size→S w' D x
 begins:∃N first cap,fb=.func (.func N) first cap∧(∀args w,(callFunc N args).run Tryz.prog w=.ok (.enter N args) w) ∧
  ∀{w:World} {D:Nat→Prop} {x:X} {A:Nat→Nat} {C:Nat→Prop} {bd:Nat} {r:List Fm} {f:Fm} {M:Nat→Prop} {a b c:Value},S w D x→Blk w g (gc x a b c) T→FrM w A C bd (f::r) [] M→r.length≤8→(∀k,C k→k<w.heap.size)→(∀k,D k→¬M k∧¬C k∧k≠g)→(¬M g∧¬C g)→OkB x r f (A f.d.frm) →
   Calls Tryz.prog N (first.push (vpt (A f.d.frm))++cap) w fun res w'=>res=.returned (.bool (bk x))∧∃D' x',bg x r f (A f.d.frm) x'∧S w' D' x'∧Blk w' g (gc x' a b c) T∧(∀k,D' k→D k∨w.heap.size≤k)∧Fr (fun k=>D k∨k=g) w w'
 closed:∃N first cap,fc=.func (.func N) first cap∧(∀args w,(callFunc N args).run Tryz.prog w=.ok (.enter N args) w) ∧
  ∀{w:World} {D:Nat→Prop} {x:X} {A:Nat→Nat} {C:Nat→Prop} {bd:Nat} {r:List Fm} {f:Fm} {M:Nat→Prop} {a b c:Value},S w D x→Blk w g (gc x a b c) T→FrM w A C bd (f::r) [] M→r.length≤8→(∀k,C k→k<w.heap.size)→(∀k,D k→¬M k∧¬C k∧k≠g)→(¬M g∧¬C g)→OkC x r f A →
   Calls Tryz.prog N (first.push (vpt (A f.d.frm))++cap) w fun res w'=>res=.returned (.tuple #[])∧∃D' x',cl x r f (A f.d.frm) x'∧S w' D' x'∧Blk w' g (gc x' a b c) T∧(∀k,D' k→D k∨w.heap.size≤k)∧Fr (fun k=>D k∨k=g) w w'
theorem parP_ptr (A:Nat→Nat) (r:List Fm):∃po,parP A r=.pointer po:=by
 cases r with
 | nil=>exact ⟨_,rfl⟩
 | cons f q=>exact ⟨_,rfl⟩
def Fm.ends (f:Fm) (to:Nat):Fm:={ f with d:={ f.d with to:=to } }
theorem FrM.setTo {w:World} {A:Nat→Nat} {C:Nat→Prop} {bd:Nat} {f:Fm} {r:List Fm} {ex:List Value} {M:Nat→Prop} (h:FrM w A C bd (f::r) ex M) (to:Nat):FrM (w.setCell ⟨A f.d.frm,2,none⟩ (.int .i64 (to:Nat))) A C bd (Fm.ends f to::r) ex M:=by
 obtain ⟨sv,M',h1,h2,h3,h4,h5⟩:=h
 have kb:∀k,k≠A f.d.frm→(w.setCell ⟨A f.d.frm,2,none⟩ (.int .i64 (to:Nat))).heap[k]?=w.heap[k]?:=fun k hk=>Below.heap_setCell _ _ _ _ (fun e=>hk e)
 have kC:Sm C w (w.setCell ⟨A f.d.frm,2,none⟩ (.int .i64 (to:Nat))):=fun k hk=>kb k (fun e=>h1.nc.1 (e▸hk))
 refine ⟨sv,M',⟨h1.b.set 2 _,own_at' h1.o (fun k hk=>kb k (fun e=>h1.nb (e▸hk))),⟨h1.d.k,h1.d.w,h1.d.s,h1.d.n⟩,fun i hi=>⟨(h1.ks i hi).1.keep kC,(h1.ks i hi).2⟩,h1.nb,h1.nc,h1.fr⟩,h2,h3,h4,?_⟩
 exact h5.keep kC (fun k hk=>kb k (fun e=>h3 (e▸hk)))
def ClP {X:Type} (g:Nat) (T:TypeId) (gc:X→Value→Value→Value→Array Value) (S:World→(Nat→Prop)→X→Prop) (A:Nat→Nat) (C:Nat→Prop) (bd:Nat) (f:Fm) (r:List Fm) (M D:Nat→Prop) (R:X→Prop) (nm:Value) (w:World) (res:Ending) (w':World):Prop :=
 res=.returned (.tuple #[])∧∃D' x',R x'∧S w' D' x'∧Blk w' g (gc x' (parP A r) nm (.int .i64 ((f.ix:Int)+1))) T∧FrM w' A C bd (f::r) [] M∧(∀k,D' k→D k∨w.heap.size≤k)∧Fr (fun k=>D k∨M k∨k=g) w w'
set_option maxHeartbeats 2000000 in
set_option maxRecDepth 100000 in
theorem g_close {X:Type} {g:Nat} {T:TypeId} {o:Nat} {gc:X→Value→Value→Value→Array Value} {fb fc:Value} {S:World→(Nat→Prop)→X→Prop} {bk:X→Bool} {bg cl:X→List Fm→Fm→Nat→X→Prop} {OkB:X→List Fm→Fm→Nat→Prop} {OkC:X→List Fm→Fm→(Nat→Nat)→Prop} (hL:GLay T o fb fc gc) (hG:GCb g T gc fb fc S bk bg cl OkB OkC)
 {w:World} {D:Nat→Prop} {x:X} {A:Nat→Nat} {C:Nat→Prop} {bd:Nat} {r:List Fm} {f:Fm} {M:Nat→Prop} {a nm ixv:Value} (hS:S w D x) (hB:Blk w g (gc x a nm ixv) T) (hM:FrM w A C bd (f::r) [] M) (hr:r.length≤8) (hC:∀k,C k→k<w.heap.size) (hdj:∀k,D k→¬M k∧¬C k∧k≠g) (hg:¬M g∧¬C g) (hix:f.ix≤4000000) (to:Nat) (hOk:OkC x r (Fm.ends f to) A) :
 Calls Tryz.prog 73 #[.pointer (some ⟨g,o,none⟩),vpt (A f.d.frm),.int .i64 (to:Nat)] w (ClP g T gc S A C bd (Fm.ends f to) r M D (cl x r (Fm.ends f to) (A f.d.frm)) nm w):=by
 obtain ⟨N,first,cap,hfc,hE,hcall⟩:=hG.closed
 have hM1:=hM.setTo to
 obtain ⟨sv,M',h1,h2,_⟩:=hM
 have hMv:M (A f.d.frm):=(h2 _).2 (Or.inl rfl)
 have hgv:g≠A f.d.frm:=fun e=>hg.1 (e▸hMv)
 have fzv:=h1.b.fz
 have fzg:=hB.fz
 have hpar:Hid (parP A r=parP A r):=rfl
 obtain ⟨b,hb⟩:∃b,b=A f.d.frm:=⟨_,rfl⟩
 rw [← hb] at hM1 hMv hgv fzv ⊢
 have b1:Blk w b (pcl f.d (parP A r) f.ix sv) 130:=by rw [hb]; exact h1.b
 have k1:Fr (fun k=>k=b) w (w.setCell ⟨b,2,none⟩ (.int .i64 (to:Nat))):=(Fr.refl (fun k=>k=b) w).setCell ⟨b,2,none⟩ (Or.inl rfl) _
 have d5:(w.setCell ⟨b,2,none⟩ (.int .i64 (to:Nat))).cell? ⟨b,5,none⟩=some (parP A r):=(b1.set 2 _).cell 5
 have B1:=hB.fr k1 hgv
 obtain ⟨w1,hw1⟩:∃w1,w1=w.setCell ⟨b,2,none⟩ (.int .i64 (to:Nat)):=⟨_,rfl⟩
 have b2:Blk w1 b (pcl { f.d with to:=to } (parP A r) f.ix sv) 130:=by rw [hw1]; exact b1.set 2 _
 rw [← hw1] at hM1 k1 d5 B1
 have S1:S w1 D x:=hG.keep hS (fun k hk=>k1.block k (hG.lt hS hk) (fun e=>(hdj k hk).1 (e▸hMv))) k1.size
 have fz1:=B1.fz
 have t1:=hL.c2 B1
 have t0:w.cell? ⟨b,2,none⟩=some (.int .i64 (f.d.to:Nat)):=b1.cell 2
 have k2:Fr (fun k=>k=g) w1 (w1.setCell ⟨g,o+2,none⟩ (parP A r)):=(Fr.refl (fun k=>k=g) w1).setCell ⟨g,o+2,none⟩ (Or.inl rfl) _
 have B2:=hL.s2 (parP A r) B1
 have b3:=b2.fr k2 (fun e=>hgv e.symm)
 have d6:(w1.setCell ⟨g,o+2,none⟩ (parP A r)).cell? ⟨b,6,none⟩=some (.int .i64 (f.ix:Nat)):=b3.cell 6
 obtain ⟨w2,hw2⟩:∃w2,w2=w1.setCell ⟨g,o+2,none⟩ (parP A r):=⟨_,rfl⟩
 rw [← hw2] at k2 B2 b3 d6
 have fz2:=B2.fz
 have t2:=hL.c4 B2
 have k3:Fr (fun k=>k=g) w2 (w2.setCell ⟨g,o+4,none⟩ (.int .i64 ((f.ix:Int)+1))):=(Fr.refl (fun k=>k=g) w2).setCell ⟨g,o+4,none⟩ (Or.inl rfl) _
 have B3:=hL.s4 (.int .i64 ((f.ix:Int)+1)) B2
 have d1:=hL.c1 B3
 obtain ⟨w3,hw3⟩:∃w3,w3=w2.setCell ⟨g,o+4,none⟩ (.int .i64 ((f.ix:Int)+1)):=⟨_,rfl⟩
 rw [← hw3] at k3 B3 d1
 have hsz:w.heap.size=w1.heap.size:=by rw [hw1]; simp [World.setCell]
 have k13:Fr (fun k=>k=g) w1 w3:=k2.trans k3
 have S3:S w3 D x:=hG.keep S1 (fun k hk=>k13.block k (hG.lt S1 hk) (fun e=>(hdj k hk).2.2 e)) k13.size
 have hC1:∀k,C k→k<w1.heap.size:=fun k hk=>by rw [← hsz]; exact hC k hk
 have M3:FrM w3 A C bd (Fm.ends f to::r) [] M:=hM1.fr hC1 k13 (fun k e=>by rw [e]; exact hg)
 have CC:=hide (hcall S3 B3 M3 hr (fun k hk=>Nat.lt_of_lt_of_le (hC1 k hk) k13.size) hdj hg hOk)
 rw [← show A f.d.frm=A (Fm.ends f to).d.frm from rfl,← hb] at CC
 have HM:=hide M3
 have hC3:Hid (∀k,C k→k<w3.heap.size):=fun k hk=>Nat.lt_of_lt_of_le (hC1 k hk) k13.size
 have HDJ:=hide hdj
 have HG:=hide hg
 have FF:Hid (Fr (fun k=>D k∨M k∨k=g) w w3):=(k1.mono (fun k _ e=>Or.inr (Or.inl (e▸hMv)))).trans (k13.mono (fun k _ e=>Or.inr (Or.inr e)))
 have hwi:IntKind.i64.wrap ((f.ix:Int)+1)=(f.ix:Int)+1:=by rw [IntWalk.i64_in _ (by omega)]
 rw [hw3,hw2,hw1] at d1
 rw [hw2,hw1] at d6 fz2 t2
 rw [hw1] at d5 fz1 t1
 obtain ⟨po,hpo⟩:=parP_ptr A r
 rw [hpo] at d1 d5 d6 fz2 t2 hw2
 have HW1:=hide hw1
 have HW2:=hide hw2
 have HW3:=hide hw3
 clear hS hB hr hC hdj hg hOk hcall hM1 h1 h2 hMv b1 b2 b3 k1 k2 k3 k13 S1 S3 M3 B1 B2 B3 hC1 hsz hw1 hw2 hw3 hpar hix hb hpo
 subst hfc
 unfold vpt
 go_enter Tryz.func73,Tryz.ntmps73
 go_wp2
 rw [← HW1.out,← HW2.out,← HW3.out]
 refine CC.out.mono ?_
 rintro res w4 ⟨rfl,D',x',hx4,s4,bl4,d4,f4⟩
 have X4:=hide hx4
 have S4:=hide s4
 have BL4:=hide bl4
 have F4:=hide f4
 have D4:=hide d4
 clear hx4 s4 bl4 d4 f4
 go_wp2
 go_end0
 refine ⟨rfl,D',x',X4.out,S4.out,BL4.out,HM.out.fr hC3.out F4.out (fun k e=>?_),fun k hk=>?_,FF.out.trans (F4.out.mono (fun k _ e=>?_))⟩
 ·rcases e with e | e
  ·exact ⟨(HDJ.out k e).1,(HDJ.out k e).2.1⟩
  rw [e]; exact HG.out
 ·rcases D4.out k hk with e | e
  ·exact Or.inl e
  exact Or.inr (Nat.le_trans FF.out.size e)
 rcases e with e | e
 ·exact Or.inl e
 exact Or.inr (Or.inr e)
end Go.Proofs.YtcbadebjpogmlaaGreatDoor
namespace Go.Proofs.YtcbadebjpogmlaaGreatDoor
open Go.RowKit Tr
theorem begin_cells {g:Gs} {t:Tok} {s:Sh} (ht:TokOk s t) (hk:t.k=0∨t.k=3) (par:Value) (ix:Nat):pcl (gDat g t) par ix (.slice none 0 0)=#[.int .i64 (t.of:Nat),.int .i64 (t.frm:Nat),.int .i64 0,.int .i64 t.n,.string (bsb (tkx t.k t.t)),par,.int .i64 (ix:Nat),.string (bsb g.nm),.slice none 0 0]:=by
 have h6:=ht.of
 have e1:pkd (gDat g t)=t.of:=by
  have:t.of=0∨t.of=1∨t.of=2∨t.of=3∨t.of=4∨t.of=5∨t.of=6:=by omega
  rcases this with e | e | e | e | e | e | e<;>simp [pkd,gDat,kOf,sOf,e,wTrue,wFalse,wNull]
 have e2:ptx (gDat g t)=tkx t.k t.t:=by
  unfold ptx tkx
  by_cases h4:t.of=4
  ·have k3:t.k=3:=by
    rcases hk with x | x
    ·have:=(ht.k0 x).1; omega
    exact x
   simp [gDat,kOf,sOf,h4,k3]
  have:t.t=[]:=by
   rcases hk with x | x
   ·exact (ht.k0 x).2.2.2.1
   exact (ht.k3 x).2.2.1 h4
  have hk2:(gDat g t).kind≠2:=by
   have:t.of=0∨t.of=1∨t.of=2∨t.of=3∨t.of=5∨t.of=6:=by omega
   rcases this with e | e | e | e | e | e<;>simp [gDat,kOf,e]
  rw [if_neg hk2,this]
  simp
 unfold pcl
 rw [e1,e2]
 rfl
theorem gDat_ok {g:Gs} {t:Tok} {s:Sh} (ht:TokOk s t) (hk:t.k=0∨t.k=3):DOk (gDat g t):=by
 have h6:=ht.of
 have:t.of=0∨t.of=1∨t.of=2∨t.of=3∨t.of=4∨t.of=5∨t.of=6:=by omega
 have hn:t.of≠3→t.n=0:=fun x=>by
  rcases hk with y | y
  ·exact (ht.k0 y).2.2.1
  exact (ht.k3 y).2.2.2.1 x
 refine ⟨?_,?_,?_,?_⟩
 ·rcases this with e | e | e | e | e | e | e<;>simp [gDat,kOf,e]
 ·rcases this with e | e | e | e | e | e | e<;>simp [gDat,kOf,sOf,e]
 ·rcases this with e | e | e | e | e | e | e<;>simp [gDat,kOf,sOf,e]
 rcases this with e | e | e | e | e | e | e<;>first | (intro _; exact hn (by omega)) | (simp [gDat,kOf,e])
theorem FrM.kpNil {w:World} {A:Nat→Nat} {C:Nat→Prop} {bd:Nat} {f:Fm} {M:Nat→Prop} (h:FrM w A C bd [f] [] M) (kp:Bool):FrM w A C bd [{ f with kp:=kp }] [] M:=by
 obtain ⟨sv,M',h1,h2,h3,h4,h5⟩:=h
 exact ⟨sv,M',⟨h1.b,h1.o,h1.d,h1.ks,h1.nb,h1.nc,h1.fr⟩,h2,h3,h4,h5⟩
theorem FrM.top {w:World} {A:Nat→Nat} {C:Nat→Prop} {bd:Nat} {f p:Fm} {q:List Fm} {M:Nat→Prop} (h:FrM w A C bd (f::p::q) [] M) (hkp:f.kp=false) (hC:∀k,C k→k<w.heap.size):∃a2 c2,
 Blk w (A p.d.frm) (pcl p.d (parP A q) p.ix (.slice a2 p.ws.length c2)) 130∧w.ownsRow 0 71 1 (.slice a2 p.ws.length c2) p.ws.length (p.ws.map (pvp A))∧(Value.slice a2 p.ws.length c2).ownBlock≠some (A p.d.frm)∧(M (A p.d.frm)∧A p.d.frm≠A f.d.frm)∧(∀k,(Value.slice a2 p.ws.length c2).ownBlock=some k→M k∧k≠A f.d.frm) ∧
 ∀(w1 w2:World) (v':Value),Keeps w w1→w1.grownBy w2 (Value.slice a2 p.ws.length c2).ownBlock→w2.ownsRow 0 71 1 v' (p.ws.length+1) (p.ws.map (pvp A)++[vpt (A f.d.frm)])→(v'.ownBlock=(Value.slice a2 p.ws.length c2).ownBlock∨v'.ownBlock=some w1.heap.size) →
  ∃M2,FrM (w2.setCell ⟨A p.d.frm,8,none⟩ v') A C bd ({ f with kp:=true }::p::q) [] M2∧(∀k,M2 k→M k∨w.heap.size≤k)∧Fr (fun k=>k=A p.d.frm∨(Value.slice a2 p.ws.length c2).ownBlock=some k) w (w2.setCell ⟨A p.d.frm,8,none⟩ v'):=by
 obtain ⟨sv,M',h1,h2,h3,h4,sv2,M2,g1,g2,g3,g4,g5⟩:=h
 rw [hkp] at g1
 simp only [Bool.false_eq_true,if_false] at g1
 obtain ⟨a2,c2,hsv⟩:=own_slice g1.o
 simp only [List.length_nil,Nat.add_zero] at hsv
 subst hsv
 have ho:=g1.o
 simp only [List.length_nil,Nat.add_zero,List.append_nil] at ho
 have hpM:M' (A p.d.frm):=(g2 _).2 (Or.inl rfl)
 refine ⟨a2,c2,g1.b,ho,g1.nb,⟨(h2 _).2 (Or.inr (Or.inr hpM)),fun e=>h3 (e▸hpM)⟩,fun k hk=>?_,fun w1 w2 v' k1 hg hov hvb=>?_⟩
 ·have hm:M' k:=(g2 k).2 (Or.inr (Or.inl hk))
  exact ⟨(h2 k).2 (Or.inr (Or.inr hm)),fun e=>h3 (e▸hm)⟩
 obtain ⟨r1,r2⟩:=FrM.kept h1 h3 h4 g1 g2 g3 g4 g5 hC k1 hg hov hvb
 refine ⟨_,r1,fun k hk=>?_,r2⟩
 rcases hk with x | x | x | x | x
 ·exact Or.inl ((h2 k).2 (Or.inl x))
 ·exact Or.inl ((h2 k).2 (Or.inr (Or.inl x)))
 ·exact Or.inl ((h2 k).2 (Or.inr (Or.inr ((g2 k).2 (Or.inl x)))))
 ·rcases hvb with y | y
  ·exact Or.inl ((h2 k).2 (Or.inr (Or.inr ((g2 k).2 (Or.inr (Or.inl (y▸x)))))))
  have e1:w1.heap.size=k:=Option.some.inj (y.symm.trans x)
  have:=k1.size
  exact Or.inr (by omega)
 exact Or.inl ((h2 k).2 (Or.inr (Or.inr ((g2 k).2 (Or.inr (Or.inr x))))))
def BgP {X:Type} (g:Nat) (T:TypeId) (gc:X→Value→Value→Value→Array Value) (S:World→(Nat→Prop)→X→Prop) (A:Nat→Nat) (C:Nat→Prop) (f:Fm) (r:List Fm) (M D:Nat→Prop) (bg:X→List Fm→Fm→Nat→X→Prop) (x:X) (ixv:Value) (w:World) (res:Ending) (w':World):Prop :=
 ∃b A' M' D' x',res=.returned (vpt b)∧w.heap.size≤b∧A' f.d.frm=b∧(∀k,k<f.d.frm→A' k=A k)∧bg x r { f with kp:=false } b x'∧S w' D' x'∧Blk w' g (gc x' (parP A r) (.string (bsb [])) ixv) T∧FrM w' A' C (f.d.frm+1) (f::r) [] M' ∧
  (∀k,M' k→M k∨w.heap.size≤k)∧(∀k,D' k→D k∨w.heap.size≤k)∧(∀k,D' k→¬M' k)∧Fr (fun k=>D k∨M k∨k=g) w w'
theorem bg_fin {X:Type} {g:Nat} {T:TypeId} {gc:X→Value→Value→Value→Array Value} {S:World→(Nat→Prop)→X→Prop} {A A':Nat→Nat} {C:Nat→Prop} {f:Fm} {r:List Fm} {M M1 M2 D D' K:Nat→Prop} {bg:X→List Fm→Fm→Nat→X→Prop} {x:X} {ixv:Value} {w w3 w5:World} {b:Nat}
 (keep:∀{w w':World} {D:Nat→Prop} {x:X},S w D x→Sm D w w'→w.heap.size≤w'.heap.size→S w' D x) (hwb:w.heap.size≤b) (a1:A' f.d.frm=b) (a2:∀k,k<f.d.frm→A' k=A k) {x':X} (hbg:bg x r { f with kp:=false } b x') (s3:S w3 D' x') (b3:Blk w3 g (gc x' (parP A r) (.string (bsb [])) ixv) T)
 (fr3:Fr (fun k=>D k∨M k∨k=g) w w3) (d3:∀k,D' k→D k∨w.heap.size≤k) (dl:∀k,D' k→k<w3.heap.size) (dm:∀k,D' k→¬M1 k) (r1:FrM w5 A' C (f.d.frm+1) (f::r) [] M2) (r2:∀k,M2 k→M1 k∨w3.heap.size≤k) (m1:∀k,M1 k→M k∨w.heap.size≤k) (r3:Fr K w3 w5) (kK:∀k,K k→M k∧M1 k) (hgM:¬M1 g) :
 BgP g T gc S A C f r M D bg x ixv w (.returned (vpt b)) w5 :=
 ⟨b,A',M2,D',x',rfl,hwb,a1,a2,hbg,keep s3 (fun k hk=>r3.block k (dl k hk) (fun e=>dm k hk (kK k e).2)) r3.size,b3.fr r3 (fun e=>hgM (kK g e).2),r1,fun k hk=>(r2 k hk).elim (m1 k) (fun y=>Or.inr (Nat.le_trans fr3.size y)),d3,fun k hk e=>(r2 k e).elim (dm k hk) (fun y=>by have:=dl k hk; omega),fr3.trans (r3.mono (fun k _ e=>Or.inr (Or.inl (kK k e).1)))⟩
end Go.Proofs.YtcbadebjpogmlaaGreatDoor
namespace Go.Proofs.YtcbadebjpogmlaaGreatDoor
open Go.RowKit Tr
structure GI {X:Type} (g:Nat) (T:TypeId) (gc:X→Value→Value→Value→Array Value) (S:World→(Nat→Prop)→X→Prop) (w:World) (gs:Gs) (x:X) (A:Nat→Nat) (C M D:Nat→Prop):Prop where
 s:S w D x
 b:Blk w g (gc x (parP A gs.st) (.string (bsb gs.nm)) (.int .i64 (gs.ix:Nat))) T
 m:FrM w A C gs.bd gs.st [] M
 ok:GOk gs
 p:pthOk gs.st
 c:∀k,C k→k<w.heap.size
 dj:∀k,D k→¬M k∧¬C k∧k≠g
 g:¬M g∧¬C g
 l:gs.st=[]→∀t,gs.last=some t→(∃ix,ix≤4000000∧PT w A C 10 (.pointer none) ix t)∧FB gs.bd 10 t∧t.d.path=[36]
theorem GI.keeps {X:Type} {g:Nat} {T:TypeId} {gc:X→Value→Value→Value→Array Value} {fb fc:Value} {S:World→(Nat→Prop)→X→Prop} {bk:X→Bool} {bg cl:X→List Fm→Fm→Nat→X→Prop} {OkB:X→List Fm→Fm→Nat→Prop} {OkC:X→List Fm→Fm→(Nat→Nat)→Prop} (hG:GCb g T gc fb fc S bk bg cl OkB OkC) {w w':World} {gs:Gs} {x:X} {A:Nat→Nat} {C M D:Nat→Prop} (h:GI g T gc S w gs x A C M D) (f:Keeps w w'):GI g T gc S w' gs x A C M D :=
 ⟨hG.keep h.s (fun k hk=>f.block k (hG.lt h.s hk) id) f.size,h.b.fr f id,h.m.fr h.c f (fun _ e=>e.elim),h.ok,h.p,fun k hk=>Nat.lt_of_lt_of_le (h.c k hk) f.size,h.dj,h.g,fun h0 t ht=>⟨(h.l h0 t ht).1.imp (fun _ y=>⟨y.1,y.2.keep (fun k hk=>f.block k (h.c k hk) id)⟩),(h.l h0 t ht).2⟩⟩
def gX {X:Type} (bk:X→Bool) (bg cl:X→List Fm→Fm→Nat→X→Prop) (x:X) (gs:Gs) (t:Tok) (A:Nat→Nat) (n:Nat) (x':X):Prop :=
 if t.k=0 then bg x gs.st (gBegin gs t false) (A t.frm) x'
 else if t.k=1 then (match gs.st with
  | []=>x'=x
  | f::r=>cl x r (Fm.ends f t.to) (A f.d.frm) x')
 else if t.k=2 then x'=x
 else ∃x1,n≤A t.frm∧bg x gs.st (gBegin gs t false) (A t.frm) x1∧cl x1 gs.st (Fm.ends (gBegin gs t (bk x)) t.to) (A t.frm) x'
def TkP {X:Type} (g:Nat) (T:TypeId) (gc:X→Value→Value→Value→Array Value) (S:World→(Nat→Prop)→X→Prop) (bk:X→Bool) (bg cl:X→List Fm→Fm→Nat→X→Prop) (x:X) (gs:Gs) (t:Tok) (A:Nat→Nat) (C M D:Nat→Prop) (w:World) (res:Ending) (w':World):Prop :=
 res=.returned (.tuple #[])∧∃A' C' M' D' x',gX bk bg cl x gs t A' w.heap.size x'∧GI g T gc S w' (gTake gs t (bk x)) x' A' C' M' D'∧(∀k,k<gs.bd→A' k=A k)∧(∀k,D' k∨M' k∨C' k→D k∨M k∨C k∨w.heap.size≤k)∧Fr (fun k=>D k∨M k∨k=g) w w'
theorem gOn_par (A:Nat→Nat) (r:List Fm) (kp:Bool) (t:Tv):parP A (gOn r kp t)=parP A r:=by
 cases r with
 | nil=>rfl
 | cons p q=>show vpt (A (gKeep p kp t).d.frm)=vpt (A p.d.frm); unfold gKeep; split<;>rfl
theorem pthOk_on {r:List Fm} (h:pthOk r) (kp:Bool) (t:Tv):pthOk (gOn r kp t):=by
 cases r with
 | nil=>trivial
 | cons p q =>
  show pthOk (gKeep p kp t::q)
  unfold gKeep
  split
  ·exact h
  exact h
theorem gi_close {X:Type} {g:Nat} {T:TypeId} {gc:X→Value→Value→Value→Array Value} {S:World→(Nat→Prop)→X→Prop} {w':World} {gs:Gs} {x':X} {A:Nat→Nat} {C M D':Nat→Prop} {f:Fm} {r:List Fm} {bd to:Nat} {nm:List UInt8}
 (hs:S w' D' x') (hb:Blk w' g (gc x' (parP A r) (.string (bsb nm)) (.int .i64 ((f.ix:Int)+1))) T) (hm:FrM w' A C bd (Fm.ends f to::r) [] M) (hl:r.length≤8) (hi4:f.ix≤4000000) (hws:f.ws.length≤4000000) (hix:f.kp=true→∀p q,r=p::q→f.ix=p.ws.length) (hp:f.d.path=gPath r f.ix f.d.name) (hpr:pthOk r) (hc:∀k,C k→k<w'.heap.size)
 (hdj:∀k,D' k→¬M k∧¬C k∧k≠g) (hg:¬M g∧¬C g) (hgs:gs=⟨gOn r f.kp (f.tv to),nm,f.ix+1,bd,some (f.tv to)⟩) (hok:GOk gs):∃C' M',GI g T gc S w' gs x' A C' M' D'∧(∀k,C' k→C k∨M k)∧(∀k,M' k→M k):=by
 obtain ⟨C',M',c1,c2,c3,c4,c5,c6⟩:=hm.close hl hws hix hp
 refine ⟨C',M',⟨hs,?_,?_,hok,?_,fun k hk=>?_,fun k hk=>⟨fun e=>(hdj k hk).1 (c3 k e),fun e=>?_,(hdj k hk).2.2⟩,⟨fun e=>hg.1 (c3 g e),fun e=>(c1 g e).elim hg.2 hg.1⟩,fun h0 t ht=>?_⟩,c1,c3⟩
 ·rw [hgs,gOn_par]; exact hb
 ·rw [hgs]; exact c4
 ·rw [hgs]; exact pthOk_on hpr _ _
 ·rcases c1 k hk with e | e
  ·exact hc k e
  exact (hm.lt k e).1
 ·rcases c1 k e with y | y
  ·exact (hdj k hk).2.1 y
  exact (hdj k hk).1 y
 have hr:r=[]:=by
  cases r with
  | nil=>rfl
  | cons p q=>rw [hgs] at h0; simp [gOn] at h0
 have et:f.tv to=t:=by rw [hgs] at ht; exact Option.some.inj ht
 rw [← et,hgs]
 subst hr
 exact ⟨⟨_,hi4,c5⟩,c6,hp⟩
end Go.Proofs.YtcbadebjpogmlaaGreatDoor
