import Derived.WalkKit
import Derived.WalkSpells
import Derived.WalkLawsBesides
import Derived.Deep.QuietTactic
import Derived.BigQuiet
import Derived.Test.YtcbadebjpogmlaaGreatDoorEPlain
import Derived.Test.YtcbadebjpogmlaaGreatDoorEBase
import Derived.Test.YtcbadebjpogmlaaGreatDoorEPlain7
import Derived.Test.YtcbadebjpogmlaaGreatDoorEMkA
import Derived.Laws.AppendOwn
import Derived.Test.YtcbadebjpogmlaaGreatDoorEVa
import Derived.Test.YtcbadebjpogmlaaGreatDoorEFb
import Derived.Test.YtcbadebjpogmlaaGreatDoorECt
import Derived.Test.YtcbadebjpogmlaaGreatDoorETx
import Derived.Test.YtcbadebjpogmlaaGreatDoorEPh
import Derived.Test.YtcbadebjpogmlaaGreatDoorCards
import Derived.ProofKit
import Derived.OpenShut
import Derived.Lib.LaidTab
import Derived.Stop.LaidErr
import Derived.Shaped
import Derived.ChangeStays
import Derived.Deep.Onto
import Derived.ChangeMaps5
import Derived.Test.YtcbadebjpogmlaaGreatDoorECm
import Derived.Deep.RegionHeldLaw
namespace Go.Proofs.YtcbadebjpogmlaaGreatDoor
open Go.RowKit Tr
def HasM (w:World) (b:Nat) (s:ByteArray) (t:St):Prop :=
 w.heap[b]?=some (.cells #[.string s,.int .i64 t.p,.int .i64 t.e,.int .i64 t.n] 145)
end Go.Proofs.YtcbadebjpogmlaaGreatDoor
namespace Go.Proofs.YtcbadebjpogmlaaGreatDoor
open Go.RowKit Tr
structure Rd (b:Nat) (s:ByteArray) (w:World) (t':St) (w':World):Prop where
 m:HasM w' b s t'
 f:Fr (PB b) w w'
end Go.Proofs.YtcbadebjpogmlaaGreatDoor
namespace Go.Proofs.YtcbadebjpogmlaaGreatDoor
open Go.RowKit Tr
def PartO (b:Nat) (s:ByteArray) (q c:Nat) (o:List UInt8) (n:Nat) (w:World) (r:Ending) (w':World):Prop :=
 ∃g t',r=.returned (.pointer (some ⟨g,0,none⟩))∧Rd b s w t' w'∧Ok (bs s) q c 18 o n t'∧(t'.e=0→bt (bs s) t'.p≠38∧bt (bs s) t'.p≠124)
def SO (m:Nat):Prop:=∀(w:World) (b:Nat) (s:ByteArray) (t:St) (q c n:Nat) (o:List UInt8),HasM w b s t→s.size≤120→Ok (bs s) q c 10 o n t→o.length=n→n≤6→trimR o=o→s.size - t.p≤m →
 Calls Tryz.prog 119 #[.pointer (some ⟨b,0,none⟩)] w (PartO b s q c o n w)
end Go.Proofs.YtcbadebjpogmlaaGreatDoor
namespace Go.Proofs.YtcbadebjpogmlaaGreatDoor
open Go.RowKit Tr
theorem own_zero' {w:World} {base:Nat} {e:TypeId} {sz:Nat} {v:Value} {n:Nat} {xs:List Value} (h:w.ownsRow base e sz v n xs):w.ownsRow 0 e sz v n xs:=by
 refine ⟨h.1,?_⟩
 rcases h.2 with x | ⟨k,cap,cur,h1,_,h3⟩
 ·exact Or.inl x
 exact Or.inr ⟨k,cap,cur,h1,Nat.zero_le _,h3⟩
end Go.Proofs.YtcbadebjpogmlaaGreatDoor
namespace Tr
def SrtOk (xs:List Sg):Prop:=∀g ∈ xs,∀x ∈ g.l,0<x.sort∧x.sort≤5
theorem sel_srt (s:List UInt8) (a:Nat):0<(pSel s a).v.sort∧(pSel s a).v.sort≤5:=by
 unfold pSel
 repeat' split
 all_goals simp
theorem sels_srt (s:List UInt8):∀(n a:Nat) (l:List Sel),(∀x ∈ l,0<x.sort∧x.sort≤5)→∀x ∈ (pSels s n a l).v,0<x.sort∧x.sort≤5
 | 0,_,_,h=>h
 | n+1,a,l,h=>by
  have h2:∀x ∈ l++[(pSel s a).v],0<x.sort∧x.sort≤5:=fun x hx=>by
   rcases List.mem_append.1 hx with e | e
   ·exact h x e
   rw [List.mem_singleton.1 e]; exact sel_srt s a
  rw [pSels]
  split
  ·exact sels_srt s n _ _ h2
  exact h2
theorem word_srt (s:List UInt8) (a:Nat):∀x ∈ (pWord s a).v,0<x.sort∧x.sort≤5:=by
 unfold pWord; split<;>simp
theorem seg_srt (s:List UInt8) (a:Nat):∀x ∈ (pSeg s a).v.l,0<x.sort∧x.sort≤5:=by
 have h:∀a,∀x ∈ (pBr s a).v,0<x.sort∧x.sort≤5:=fun a=>sels_srt s _ _ _ (by simp)
 unfold pSeg
 split
 ·exact h a
 split
 ·split
  ·exact h _
  exact word_srt s _
 exact word_srt s _
theorem segs_srt (s:List UInt8):∀(n a:Nat) (l:List Sg),SrtOk l→SrtOk (pSegs s n a l)
 | 0,_,_,h=>h
 | n+1,a,l,h=>by
  rw [pSegs]
  split
  ·refine segs_srt s n _ _ (fun g hg=>?_)
   rcases List.mem_append.1 hg with x | x
   ·exact h g x
   rw [List.mem_singleton.1 x]; exact seg_srt s a
  exact h
theorem query_srt (s:List UInt8):SrtOk (pQuery s):=segs_srt s _ _ _ (fun g hg=>by cases hg)
theorem takes_swap {x:Sel} (hs:0<x.sort∧x.sort≤5) (hl:x.late=false) (pk L L' i:Nat) {c c':Tv} (hn:c.d.name=c'.d.name):takes1 x pk L i c=takes1 x pk L' i c':=by
 unfold Sel.late at hl
 simp only [Bool.or_eq_false_iff,beq_eq_false_iff_ne,Bool.and_eq_false_iff,decide_eq_false_iff_not] at hl
 unfold takes1
 rw [hn]
 by_cases h1:x.sort=1
 ·simp [h1]
 by_cases h2:x.sort=2
 ·simp [h2]
 by_cases h3:x.sort=3
 ·have:¬x.n<0:=by
   rcases hl.2 with y | y
   ·exact absurd h3 y
   exact y
  simp [h3,this]
 by_cases h4:x.sort=4
 ·simp [h4]
 exact absurd (by omega:x.sort=5) hl.1
theorem cnt_swap {l:List Sel} (hs:∀x ∈ l,0<x.sort∧x.sort≤5) (hl:l.any Sel.late=false) (pk L L' i:Nat) {c c':Tv} (hn:c.d.name=c'.d.name):cntS l pk L i c=cntS l pk L' i c':=by
 unfold cntS
 congr 1
 apply List.map_congr_left
 intro x hx
 have:x.late=false:=by
  rw [List.any_eq_false] at hl
  simpa using hl x hx
 rw [takes_swap (hs x hx) this pk L L' i hn]
theorem tl_swap {xs:List Sg} (hs:SrtOk xs) {tl:List Ct} (hl:tl.length=xs.length+1) (hz:Zh xs tl) (pk L L' i:Nat) {c c':Tv} (hn:c.d.name=c'.d.name):tlOf xs pk L i c tl=tlOf xs pk L' i c' tl:=by
 unfold tlOf
 congr 1
 have l1:=tlGo_len pk L i c xs tl hl
 have l2:=tlGo_len pk L' i c' xs tl hl
 apply List.ext_getElem (by rw [l1,l2])
 intro k h1 h2
 have hk:k<xs.length:=by omega
 have a1:=tlGo_at pk L i c xs tl hl k hk
 have a2:=tlGo_at pk L' i c' xs tl hl k hk
 have e1:ctAt (tlGo pk L i c xs tl) k=(tlGo pk L i c xs tl)[k]:=by unfold ctAt; rw [List.getD_eq_getElem?_getD,List.getElem?_eq_getElem h1]; rfl
 have e2:ctAt (tlGo pk L' i c' xs tl) k=(tlGo pk L' i c' xs tl)[k]:=by unfold ctAt; rw [List.getD_eq_getElem?_getD,List.getElem?_eq_getElem h2]; rfl
 rw [← e1,← e2,a1,a2]
 by_cases hh:k<headS xs
 ·rw [cnt_swap (hs _ (List.getElem_mem hk)) (not_late hk hh) pk L L' i hn]
 have z:=hz (by omega) k (by omega)
 rw [z]
 simp
theorem own_tp (xs:List Sg) {t t':Tv} (h:t.d=t'.d) (tl:List Ct):(ownT xs t tl).map tp=(ownT xs t' tl).map tp:=by
 unfold ownT; split
 ·simp [tp,h]
 rfl
theorem kids_app {xs:List Sg} (hs:SrtOk xs) {tl:List Ct} (hl:tl.length=xs.length+1) (hz:Zh xs tl) (n kind:Nat) (ws:List Tv) (c:Tv):kidsT xs n kind (ws++[c]) tl=kidsT xs n kind ws tl++cntT xs n c (tlOf xs kind 0 ws.length ⟨c.d,[]⟩ tl):=by
 unfold kidsT
 rw [List.zipIdx_append,List.flatMap_append]
 congr 1
 ·apply fm_congr
  intro p _
  rw [tl_swap hs hl hz kind (ws++[c]).length ws.length p.2 (c:=p.1) (c':=p.1) rfl]
 simp only [List.zipIdx_cons,List.zipIdx_nil,List.flatMap_cons,List.flatMap_nil,List.append_nil,Nat.zero_add]
 rw [tl_swap hs hl hz kind (ws++[c]).length 0 ws.length (c:=c) (c':=⟨c.d,[]⟩) rfl]
theorem toldS_congr {xs:List Sg} {tl tl':List (List Ct)} {m m':Nat}:∀{l:List Fm},(∀i,i<l.length→(i<m↔i<m')∧(i<m→tl.getD i []=tl'.getD i []))→toldS xs tl m l=toldS xs tl' m' l
 | [],_=>rfl
 | f::r,h=>by
  have h0:=h r.length (by simp)
  rw [toldS,toldS,toldS_congr (l:=r) (fun i hi=>h i (by simp; omega))]
  by_cases q:r.length<m
  ·rw [if_pos q,if_pos (h0.1.1 q),h0.2 q]
  rw [if_neg q,if_neg (fun y=>q (h0.1.2 y))]
theorem FrR.len {hd:Option Nat}:∀{a b:List Fm},FrR hd a b→a.length=b.length
 | [],[],_=>rfl
 | _::_,_::_,h=>by simp [FrR.len h.2.2.2]
 | [],_::_,h=>h.elim
 | _::_,[],h=>h.elim
theorem FrR.out {hd hd':Option Nat}:∀{a b:List Fm},(∀m,m<a.length→heldI hd' m=false)→FrR hd a b→FrR hd' a b
 | [],[],_,_=>trivial
 | f::r,F::R,h,⟨h1,h2,_,h4⟩=>⟨h1,h2,fun e=>(by rw [h r.length (by simp)] at e; cases e),FrR.out (fun m hm=>h m (by simp; omega)) h4⟩
 | [],_::_,_,h=>h.elim
 | _::_,[],_,h=>h.elim
theorem TlR.congr {xs:List Sg} {tl tl':List (List Ct)} (hl:tl'.length≤tl.length):∀{l:List Fm},(∀i,i<l.length→i<tl'.length→tl'.getD i []=tl.getD i [])→TlR xs tl l→TlR xs tl' l
 | [],_,_=>trivial
 | f::r,h,⟨h1,h2⟩=>by
  refine ⟨fun hr=>?_,TlR.congr hl (fun i hi=>h i (by simp; omega)) h2⟩
  rw [h r.length (by simp) hr,h1 (by omega)]
  cases r with
  | nil=>rfl
  | cons p q=>simp only; rw [h q.length (by simp; omega) (by simp at hr; omega)]
theorem TlR.app {xs:List Sg} {tl:List (List Ct)} (T:List Ct):∀{l:List Fm},l.length≤tl.length→TlR xs tl l→TlR xs (tl++[T]) l
 | [],_,_=>trivial
 | f::r,hl,⟨h1,h2⟩=>by
  have g:∀i,i<tl.length→(tl++[T]).getD i []=tl.getD i []:=fun i hi=>by
   rw [List.getD_eq_getElem?_getD,List.getD_eq_getElem?_getD,List.getElem?_append_left hi]
  have hl:r.length<tl.length:=by simp only [List.length_cons] at hl; omega
  refine ⟨fun _=>?_,TlR.app T (by omega) h2⟩
  rw [g _ hl,h1 hl]
  cases r with
  | nil=>rfl
  | cons p q=>simp only; rw [g q.length (by simp at hl; omega)]
theorem kids_nil (xs:List Sg) (n kind:Nat) (tl:List Ct):kidsT xs n kind [] tl=[]:=rfl
theorem tw_push {xs:List Sg} (hx:∀g ∈ xs,0<g.l.length) {s:Fw} {G:Gs} (h:TW xs s G) (d:Dat) {b:Nat} (hb:s.g.bd≤b) (h1:G.st=[]→G.last=none):TW xs (fPush xs s d b) ⟨⟨d,G.ix,true,[]⟩::G.st,[],0,b+1,G.last⟩:=by
 have OK:=fOk_push hx h.ok d hb
 have hlen:=h.st.len
 have htl:=h.ok.tl
 have T0:s.told.map tp=toldS xs s.tl (lvl s) G.st:=by
  rw [h.told]
  by_cases e:G.st=[]
  ·rw [if_pos e,h1 e,e]; rfl
  rw [if_neg e]
 cases hh:s.hd with
 | some k =>
  have hk:=h.ok.hd k hh
  have e:fPush xs s d b={ s with g:=⟨⟨d,s.g.ix,true,[]⟩::s.g.st,[],0,b+1,s.g.last⟩ }:=by unfold fPush fBeg; rw [hh]; simp [hh]
  rw [e] at OK ⊢
  rw [hh] at htl
  simp only at htl
  refine ⟨OK,rfl,rfl,rfl,⟨rfl,h.ix,fun _=>rfl,h.st⟩,⟨fun y=>absurd y (by rw [← hlen]; simp only; omega),h.tl⟩,?_⟩
  show s.told.map tp=if (⟨d,G.ix,true,[]⟩::G.st:List Fm)=[] then _ else toldS xs s.tl (lvl { s with g:=⟨⟨d,s.g.ix,true,[]⟩::s.g.st,[],0,b+1,s.g.last⟩ }) (⟨d,G.ix,true,[]⟩::G.st)
  rw [if_neg (by simp),T0,toldS,kids_nil]
  have e2:lvl { s with g:=⟨⟨d,s.g.ix,true,[]⟩::s.g.st,[],0,b+1,s.g.last⟩ }=lvl s:=by unfold lvl; simp only [hh]
  rw [e2]
  simp
 | none =>
  rw [hh] at htl
  simp only at htl
  obtain ⟨hd',hhd⟩:∃hd',hd'=if headS xs<xs.length∧0<(ctAt (fTly xs s d) (headS xs)).its then some s.g.st.length else none:=⟨_,rfl⟩
  have e:fPush xs s d b=⟨⟨⟨d,s.g.ix,false,[]⟩::s.g.st,[],0,b+1,s.g.last⟩,s.tl++[fTly xs s d],hd',s.told⟩:=by unfold fPush fBeg; rw [hh,hhd]; simp
  have h01:hd'=some s.g.st.length∨hd'=none:=by
   rw [hhd]; split
   ·exact Or.inl rfl
   exact Or.inr rfl
  clear hhd
  rw [e] at OK ⊢
  have hin:∀m,m<s.g.st.length→heldI hd' m=false:=fun m hm=>by
   rcases h01 with y | y
   ·rw [y]; simp [heldI]; omega
   rw [y]; rfl
  have gd:∀i,i<s.tl.length→s.tl.getD i []=(s.tl++[fTly xs s d]).getD i []:=fun i hi=>by
   rw [List.getD_eq_getElem?_getD,List.getD_eq_getElem?_getD,List.getElem?_append_left hi]
  refine ⟨OK,rfl,rfl,rfl,⟨rfl,h.ix,fun _=>rfl,h.st.out hin⟩,⟨fun _=>?_,TlR.app _ (by omega) h.tl⟩,?_⟩
  ·simp only
   rw [← hlen,← htl]
   have:(s.tl++[fTly xs s d]).getD s.tl.length []=fTly xs s d:=by rw [List.getD_eq_getElem?_getD]; simp
   rw [this]
   have hst:=h.st
   cases hs:s.g.st with
   | nil =>
    rw [hs] at hst
    cases hG:G.st with
    | nil=>unfold fTly; rw [hs]
    | cons P Q=>rw [hG] at hst; exact hst.elim
   | cons p q =>
    rw [hs] at hst
    cases hG:G.st with
    | nil=>rw [hG] at hst; exact hst.elim
    | cons P Q =>
     rw [hG] at hst
     obtain ⟨q1,q2,q3,q4⟩:=hst
     have hfr:=h.ok.fr
     rw [hs,hh] at hfr
     have hw:p.ws=[]:=hfr.2.2.1 rfl
     simp only
     have hne:s.tl≠[]:=fun y=>by rw [y,hs] at htl; simp at htl
     have hq:Q.length<s.tl.length:=by rw [htl,hs,← q4.len]; simp
     rw [← gd _ hq]
     unfold fTly
     rw [hs]
     simp only
     rw [hw,last_at s.tl [] hne,q1,h.ix]
     have e3:s.tl.getD Q.length []=s.tl[s.tl.length - 1]'(by omega):=by
      rw [List.getD_eq_getElem?_getD,List.getElem?_eq_getElem hq]
      have:Q.length=s.tl.length - 1:=by rw [htl,hs,← q4.len]; simp
      simp [this]
     rw [e3]
     rfl
  show s.told.map tp=if (⟨d,G.ix,true,[]⟩::G.st:List Fm)=[] then _ else toldS xs (s.tl++[fTly xs s d]) (lvl ⟨⟨⟨d,s.g.ix,false,[]⟩::s.g.st,[],0,b+1,s.g.last⟩,s.tl++[fTly xs s d],hd',s.told⟩) (⟨d,G.ix,true,[]⟩::G.st)
  rw [if_neg (by simp),T0,toldS,kids_nil]
  have e3:∀{b:Prop} [Decidable b],(if b then List.map tp [] else [])=([]:List (Dat×Nat)):=by intro b _; split<;>rfl
  rw [e3,List.append_nil]
  apply toldS_congr
  intro i hi
  refine ⟨?_,fun _=>gd i (by omega)⟩
  have:lvl s=s.g.st.length:=by unfold lvl; rw [hh]
  rw [this]
  rcases h01 with y | y
  ·unfold lvl; simp only [y]
  unfold lvl; simp only [y,List.length_cons]; omega
theorem tw_cls {xs:List Sg} (hs:SrtOk xs) {s:Fw} {G:Gs} (h:TW xs s G) {f F:Fm} {r R:List Fm} (es:s.g.st=f::r) (eG:G.st=F::R) (hi:ixOk G.st G.ix) (hl:R.length≤8) (hdp:DeepS G.st) (to:Nat):TW xs { fCls xs s (f.tv to) r.length with g:=gClose s.g f r to } (gClose G F R to):=by
 have OK:=fOk_cls h.ok es to
 have hst:=h.st
 rw [es,eG] at hst
 rw [eG] at hi hdp
 obtain ⟨d1,d2,d3,d4⟩:=hst
 obtain ⟨i1,i2,i3⟩:=hi
 have hlen:=d4.len
 have T0:s.told.map tp=toldS xs s.tl (lvl s) (F::R):=by rw [h.told,eG,if_neg (by simp)]
 have htR:TlR xs s.tl (F::R):=by have:=h.tl; rw [eG] at this; exact this
 have hfr:=h.ok.fr
 rw [es] at hfr
 obtain ⟨f1,f2,f3,f4⟩:=hfr
 by_cases hc:s.hd.isSome=true∧s.hd≠some r.length
 ·obtain ⟨k,hk⟩:∃k,s.hd=some k:=Option.isSome_iff_exists.1 hc.1
  have hk1:=h.ok.hd k hk
  rw [es] at hk1
  have hk2:k<r.length:=by
   have:k≠r.length:=fun e=>hc.2 (by rw [hk,e])
   simp at hk1; omega
  have ekp:f.kp=true:=by rw [f1,hk]; simp [heldB,hk2]
  have e:{ fCls xs s (f.tv to) r.length with g:=gClose s.g f r to }={ s with g:=gClose s.g f r to }:=by unfold fCls; rw [if_pos hc]
  rw [e] at OK ⊢
  have ew:f.ws=F.ws:=d3 (by rw [hk]; simp [heldI]; omega)
  have et:f.tv to=F.tv to:=by unfold Fm.tv; rw [d1,ew]
  cases r with
  | nil=>simp at hk2
  | cons p q =>
   cases R with
   | nil=>exact d4.elim
   | cons P Q =>
    obtain ⟨p1,p2,p3,p4⟩:=d4
    have hql:=p4.len
    have hkq:k≤q.length:=by simp at hk2; omega
    have pw:p.ws=P.ws:=p3 (by rw [hk]; simp [heldI]; omega)
    have eg:(gClose s.g f (p::q) to).st={ p with ws:=p.ws++[f.tv to] }::q:=by simp [gClose,gOn,gKeep,ekp]
    have eG2:(gClose G F (P::Q) to).st={ P with ws:=P.ws++[F.tv to] }::Q:=by simp [gClose,gOn,gKeep,i2]
    refine ⟨OK,h.nm,?_,h.bd,?_,?_,?_⟩
    ·show f.ix+1=F.ix+1
     rw [d2]
    ·show FrR s.hd (gClose s.g f (p::q) to).st (gClose G F (P::Q) to).st
     rw [eg,eG2]
     exact ⟨p1,p2,fun _=>(by rw [et]; simp [pw]),p4⟩
    ·show TlR xs s.tl (gClose G F (P::Q) to).st
     rw [eG2]
     exact htR.2
    show s.told.map tp=if (gClose G F (P::Q) to).st=[] then _ else toldS xs s.tl (lvl { s with g:=gClose s.g f (p::q) to }) (gClose G F (P::Q) to).st
    have e2:lvl { s with g:=gClose s.g f (p::q) to }=k:=by unfold lvl; simp only [hk]
    have e3:lvl s=k:=by unfold lvl; simp only [hk]
    rw [eG2,if_neg (by simp),T0,e2,e3,toldS,toldS,toldS,if_neg (by simp; omega),if_neg (by omega),if_neg (by omega)]
    simp
 have hk:s.hd=none∨s.hd=some r.length:=by
  cases hh:s.hd with
  | none=>exact Or.inl rfl
  | some k =>
   have:k=r.length:=Decidable.byContradiction fun y=>hc ⟨by rw [hh]; rfl,fun z=>y (by rw [hh] at z; exact Option.some.inj z)⟩
   exact Or.inr (by rw [this])
 have hkp:f.kp=false:=by rcases hk with y | y<;>rw [f1,y]<;>simp [heldB]
 have htl:s.tl.length=r.length+1:=by
  have:=h.ok.tl
  rcases hk with y | y
  ·rw [y,es] at this; simpa using this
  rw [y] at this; exact this
 have e:{ fCls xs s (f.tv to) r.length with g:=gClose s.g f r to }=⟨gClose s.g f r to,s.tl.dropLast,none,s.told++cntT xs 10 (f.tv to) (s.tl.getLastD [])⟩:=by unfold fCls; rw [if_neg hc]
 rw [e] at OK ⊢
 have hne:s.tl≠[]:=fun y=>by rw [y] at htl; simp at htl
 obtain ⟨T,hT⟩:∃T,T=s.tl.getLastD []:=⟨_,rfl⟩
 have hT2:s.tl.getD R.length []=T:=by
  rw [hT,last_at s.tl [] hne,List.getD_eq_getElem?_getD,List.getElem?_eq_getElem (by omega)]
  have:R.length=s.tl.length - 1:=by omega
  simp [this]
 rw [← hT] at OK ⊢
 have hD:Deep (9 - R.length+1) (F.tv to):=hdp.1
 have TT:(s.told++cntT xs 10 (f.tv to) T).map tp=toldS xs s.tl R.length R++(cntT xs (9 - R.length+1) (F.tv to) T).map tp:=by
  rw [List.map_append,T0,toldS,hT2]
  rcases hk with y | y
  ·have fw:f.ws=[]:=f3 (by rw [y]; rfl)
   have lv:lvl s=R.length+1:=by unfold lvl; simp only [y,es,List.length_cons]; omega
   rw [lv,if_pos (by omega),cntT_succ xs 9,cntT_succ]
   have k0:kidsT xs 9 (f.tv to).d.kind (f.tv to).ws T=[]:=by show kidsT xs 9 _ f.ws T=[]; rw [fw]; rfl
   rw [k0,List.nil_append,List.map_append,own_tp xs (t:=f.tv to) (t':=F.tv to) (by unfold Fm.tv; rw [d1]),List.append_assoc,toldS_congr (m':=R.length) (tl':=s.tl) (fun i hi=>⟨by omega,fun _=>rfl⟩)]
   rfl
  have fw:f.ws=F.ws:=d3 (by rw [y]; simp [heldI])
  have lv:lvl s=R.length:=by unfold lvl; simp only [y]; omega
  rw [lv,if_neg (by omega),List.append_nil]
  have et:f.tv to=F.tv to:=by unfold Fm.tv; rw [d1,fw]
  rw [et,cntT_deep xs T hD (by omega)]
 have eg:(gClose s.g f r to).st=r:=by simp [gClose,hkp,gOn_false]
 have gd:∀i,i<s.tl.dropLast.length→s.tl.dropLast.getD i []=s.tl.getD i []:=fun i hi=>by
  rw [List.length_dropLast] at hi
  rw [List.getD_eq_getElem?_getD,List.getD_eq_getElem?_getD,List.getElem?_dropLast,if_pos hi]
 have hdl:s.tl.dropLast.length=R.length:=by rw [List.length_dropLast]; omega
 have d5:FrR none r R:=d4.out (fun _ _=>rfl)
 have eix:(gClose s.g f r to).ix=(gClose G F R to).ix:=by
  show f.ix+1=F.ix+1
  rw [d2]
 cases R with
 | nil =>
  have r0:r=[]:=List.eq_nil_of_length_eq_zero (by simpa using hlen)
  refine ⟨OK,h.nm,eix,h.bd,?_,trivial,?_⟩
  ·show FrR none (gClose s.g f r to).st []
   rw [eg,r0]; trivial
  show (s.told++cntT xs 10 (f.tv to) T).map tp=if (gClose G F [] to).st=[] then (match (gClose G F [] to).last with | none=>[] | some t=>(cntT xs 10 t (tlOut xs.length)).map tp) else _
  have:(gClose G F [] to).st=[]:=rfl
  rw [if_pos this,TT]
  have hTo:T=tlOut xs.length:=by rw [← hT2]; exact htR.1 (by simp; omega)
  rw [hTo]
  rfl
 | cons P Q =>
  have eG2:(gClose G F (P::Q) to).st={ P with ws:=P.ws++[F.tv to] }::Q:=by simp [gClose,gOn,gKeep,i2]
  have hQ:Q.length<s.tl.length:=by simp at hlen; omega
  have hQ2:Q.length+1<s.tl.length:=by simp at hlen; omega
  have hTo:T=tlOf xs P.d.kind 0 F.ix ⟨F.d,[]⟩ (s.tl.getD Q.length []):=by rw [← hT2]; exact htR.1 (by omega)
  refine ⟨OK,h.nm,eix,h.bd,?_,?_,?_⟩
  ·show FrR none (gClose s.g f r to).st (gClose G F (P::Q) to).st
   rw [eg,eG2]
   cases r with
   | nil=>exact d5.elim
   | cons p q=>exact ⟨d5.1,d5.2.1,fun y=>(by cases y),d5.2.2.2⟩
  ·show TlR xs s.tl.dropLast (gClose G F (P::Q) to).st
   rw [eG2]
   exact TlR.congr (l:={ P with ws:=P.ws++[F.tv to] }::Q) (by rw [List.length_dropLast]; omega) (fun i _ hi=>gd i hi) htR.2
  show (s.told++cntT xs 10 (f.tv to) T).map tp=if (gClose G F (P::Q) to).st=[] then _ else toldS xs s.tl.dropLast (lvl ⟨gClose s.g f r to,s.tl.dropLast,none,s.told++cntT xs 10 (f.tv to) T⟩) (gClose G F (P::Q) to).st
  have lv:lvl ⟨gClose s.g f r to,s.tl.dropLast,none,s.told++cntT xs 10 (f.tv to) T⟩=Q.length+1:=by
   unfold lvl
   simp only [eg]
   simpa using hlen
  have hz:=h.ok.z Q.length hQ (Or.inr hQ2)
  have hcl:=(h.ok.ct Q.length hQ).len
  have eP:s.tl.getD Q.length []=s.tl[Q.length]:=by rw [List.getD_eq_getElem?_getD,List.getElem?_eq_getElem hQ]; rfl
  rw [← eP] at hz hcl
  rw [eG2,if_neg (by simp),TT,lv,toldS,toldS,if_pos (by simp),if_pos (by simp),gd Q.length (by rw [hdl]; simp)]
  rw [kids_app hs hcl hz,List.map_append,← List.append_assoc]
  congr 1
  ·congr 1
   exact toldS_congr (fun i hi=>⟨by simp,fun _=>(gd i (by rw [hdl]; simp; omega)).symm⟩)
  have i4:F.ix=P.ws.length:=i3.1
  rw [hTo,i4,tl_swap hs hcl hz P.d.kind 0 0 P.ws.length (c:=⟨F.d,[]⟩) (c':=⟨(F.tv to).d,[]⟩) rfl]
  have e9:9 - (P::Q).length+1=9 - Q.length:=by simp at hl ⊢; omega
  rw [e9]
end Tr
namespace Tr
theorem gDat_eq {xs:List Sg} {s:Fw} {G:Gs} (h:TW xs s G) (t:Tok):gDat s.g t=gDat G t:=by
 unfold gDat
 rw [h.nm,h.ix]
 have:gPath s.g.st G.ix G.nm=gPath G.st G.ix G.nm:=by
  have hst:=h.st
  cases hs:s.g.st with
  | nil =>
   cases hG:G.st with
   | nil=>rfl
   | cons P Q=>rw [hs,hG] at hst; exact hst.elim
  | cons p q =>
   cases hG:G.st with
   | nil=>rw [hs,hG] at hst; exact hst.elim
   | cons P Q =>
    rw [hs,hG] at hst
    show kPath p.d.kind p.d.path _ _=kPath P.d.kind P.d.path _ _
    rw [hst.1]
 rw [this]
theorem tw_take {xs:List Sg} (hx:∀g ∈ xs,0<g.l.length) (hso:SrtOk xs) {s:Fw} {G:Gs} (h:TW xs s G) (hf:GF G) (hi:ixOk G.st G.ix) {t:Tok} (ht:TokOk G.sh t) (h1:t.k=0∨t.k=3→G.st=[]→G.last=none):TW xs (fTake xs s t) (gTake G t true):=by
 have hd:=gDat_eq h t
 have hbd:G.sh.bd=G.bd:=rfl
 have hlen:=h.st.len
 unfold fTake
 by_cases k0:t.k=0
 ·rw [if_pos k0]
  have P:=tw_push hx h (gDat s.g t) (b:=t.frm) (by rw [h.bd]; exact (ht.k0 k0).2.2.2.2) (h1 (Or.inl k0))
  have e1:gTake s.g t s.hd.isSome=⟨⟨gDat s.g t,s.g.ix,s.hd.isSome,[]⟩::s.g.st,[],0,t.frm+1,s.g.last⟩:=by unfold gTake; rw [if_pos k0]; rfl
  have e2:gTake G t true=⟨⟨gDat s.g t,G.ix,true,[]⟩::G.st,[],0,t.frm+1,G.last⟩:=by unfold gTake; rw [if_pos k0,hd]; rfl
  rw [e1,e2]
  exact P
 rw [if_neg k0]
 by_cases k1:t.k=1
 ·rw [if_pos k1]
  cases hs:s.g.st with
  | nil =>
   have hG:G.st=[]:=List.eq_nil_of_length_eq_zero (by rw [← hlen,hs]; rfl)
   have e2:gTake G t true=G:=by unfold gTake; rw [if_neg k0,if_pos k1,hG]
   rw [e2]; exact h
  | cons f r =>
   cases hG:G.st with
   | nil=>rw [hs,hG] at hlen; simp at hlen
   | cons F R =>
    have h8:=hf.len
    have C:=tw_cls hso h hs hG hi (by rw [hG] at h8; simp at h8; omega) hf.d t.to
    have e1:gTake s.g t true=gClose s.g f r t.to:=by unfold gTake; rw [if_neg k0,if_pos k1,hs]
    have e2:gTake G t true=gClose G F R t.to:=by unfold gTake; rw [if_neg k0,if_pos k1,hG]
    simp only
    rw [e1,e2]
    exact C
 rw [if_neg k1]
 by_cases k2:t.k=2
 ·rw [if_pos k2]
  have e1:gTake s.g t true={ s.g with nm:=t.t }:=by unfold gTake; rw [if_neg k0,if_neg k1,if_pos k2]
  have e2:gTake G t true={ G with nm:=t.t }:=by unfold gTake; rw [if_neg k0,if_neg k1,if_pos k2]
  rw [e1,e2]
  exact ⟨⟨h.ok.n,h.ok.fr,h.ok.tl,h.ok.hd,h.ok.ct,h.ok.z⟩,rfl,h.ix,h.bd,h.st,h.tl,h.told⟩
 rw [if_neg k2]
 have k3:=ht.k3 (by have:=ht.k; omega)
 have P:=tw_push hx h (gDat s.g t) (b:=t.frm) (by rw [h.bd]; exact k3.2.2.2.2) (h1 (Or.inr (by have:=ht.k; omega)))
 have hdp:DeepS (⟨gDat s.g t,G.ix,true,[]⟩::G.st):=⟨fun c hc=>(by cases hc),hf.d⟩
 have Q:=tw_cls hso P (f:=⟨gDat s.g t,s.g.ix,s.hd.isSome,[]⟩) (r:=s.g.st) (F:=⟨gDat s.g t,G.ix,true,[]⟩) (R:=G.st) rfl rfl ⟨rfl,rfl,hi⟩ hf.len hdp t.to
 have e:gTake s.g t s.hd.isSome=gClose { s.g with nm:=[],bd:=t.frm+1 } (gBegin s.g t s.hd.isSome) s.g.st t.to:=by unfold gTake; rw [if_neg k0,if_neg k1,if_neg k2]
 have e2:gTake G t true=gClose ⟨⟨gDat s.g t,G.ix,true,[]⟩::G.st,[],0,t.frm+1,G.last⟩ ⟨gDat s.g t,G.ix,true,[]⟩ G.st t.to:=by unfold gTake; rw [if_neg k0,if_neg k1,if_neg k2]; unfold gBegin; rw [hd]; rfl
 rw [e,e2]
 have e3:({ fCls xs (fBeg xs s (gDat s.g t)) ((gBegin s.g t true).tv t.to) s.g.st.length with g:=gClose { s.g with nm:=[],bd:=t.frm+1 } (gBegin s.g t s.hd.isSome) s.g.st t.to }:Fw)={ fCls xs (fPush xs s (gDat s.g t) t.frm) ((⟨gDat s.g t,s.g.ix,s.hd.isSome,[]⟩:Fm).tv t.to) s.g.st.length with g:=gClose (fPush xs s (gDat s.g t) t.frm).g ⟨gDat s.g t,s.g.ix,s.hd.isSome,[]⟩ s.g.st t.to }:=by
  unfold fPush fCls
  simp only
  split
  ·rfl
  rfl
 rw [e3]; exact Q
def OneL:Gs→List Tok→Prop
 | _,[]=>True
 | G,t::r=>(t.k=0∨t.k=3→G.st=[]→G.last=none)∧OneL (gTake G t true) r
theorem tw_run {xs:List Sg} (hx:∀g ∈ xs,0<g.l.length) (hso:SrtOk xs):∀{ts:List Tok} {s:Fw} {G:Gs},TW xs s G→GF G→ixOk G.st G.ix→OkL G.sh ts→OneL G ts→TW xs (fRun xs s ts) (gRun G ts)
 | [],_,_,h,_,_,_,_=>h
 | t::r,s,G,h,hf,hi,ho,h1=>by
  have:=tw_run hx hso (ts:=r) (tw_take hx hso h hf hi ho.1 h1.1) (gf_take hf hi ho.1) (ix_take hi) (by rw [sh_take G t true ho.1]; exact ho.2) h1.2
  exact this
structure Nx (z:Sn) (x:Sx):Prop where
 a:x.ts=[]∨(∃t,x.ts=[t])∨(z.op≠[]∧∃t t',x.ts=[t,t']∧t'.k=1)
 b:z.op=[]→z.st=5→x.ts=[]
 c:x.z.op=[]→x.z.st≠5→x.z.st≤10→z.op=[]∧z.st≠5∧x.ts=[]
theorem nx_wrong {z z':Sn} {c:Nat} (hc:11≤c):Nx z ⟨{ z' with st:=c },[]⟩:=⟨Or.inl rfl,fun _ _=>rfl,fun _ _ h=>absurd h (by simp only; omega)⟩
theorem nx_next {z:Sn} {s:Sh} (hok:SOk z) (hlk:Lk z s) (hst:z.st≤10) (hat:z.at'<4000000) (b:Nat):Nx z (sNext z b):=by
 have S:=stp_next hok hlk hst hat b
 have OK:=S.ok
 have SH:z.op≠[]→Nx z (sShut z):=fun h=>⟨Or.inr (Or.inl ⟨_,rfl⟩),fun e _=>absurd e h,fun _ e _=>absurd rfl e⟩
 have BH:∀b,Nx z (sBehind z b)∧((sBehind z b).ts=[]∨(z.op≠[]∧∃t,(sBehind z b).ts=[t]∧t.k=1))∧((sBehind z b).z.op=[]→(sBehind z b).z.st≠5→(sBehind z b).z.st≤10→False):=fun b=>by
  unfold sBehind
  by_cases m:mayF z.op b=false
  ·rw [if_pos m]; exact ⟨nx_wrong (by omega),Or.inl rfl,fun _ _ h=>absurd h (by simp [Sn.to])⟩
  rw [if_neg m]
  by_cases bl:isBl b=true
  ·rw [if_pos bl]; exact ⟨⟨Or.inl rfl,fun _ _=>rfl,fun _ h _=>absurd rfl h⟩,Or.inl rfl,fun _ h _=>absurd rfl h⟩
  rw [if_neg bl]
  have hne:=mayF_ne (by simpa using m) (by simpa using bl)
  by_cases b4:b≠44
  ·rw [if_pos b4]; exact ⟨SH hne,Or.inr ⟨hne,_,rfl,rfl⟩,fun _ h _=>absurd rfl h⟩
  rw [if_neg b4]
  split
  ·exact ⟨⟨Or.inl rfl,fun _ _=>rfl,fun h _ _=>absurd h hne⟩,Or.inl rfl,fun h _ _=>hne h⟩
  exact ⟨⟨Or.inl rfl,fun _ _=>rfl,fun h _ _=>absurd h hne⟩,Or.inl rfl,fun h _ _=>hne h⟩
 have BG:z.st≠5→Nx z (sBegin z b):=fun h5=>by
  have LT:∀k c,Nx z (sLot z k c):=fun k c=>by
   unfold sLot
   split
   ·exact nx_wrong (by omega)
   exact ⟨Or.inr (Or.inl ⟨_,rfl⟩),fun _ e=>absurd e h5,fun e _ _=>absurd e (by simp)⟩
  unfold sBegin
  split
  ·exact LT _ _
  split
  ·exact LT _ _
  split
  ·exact ⟨Or.inl rfl,fun _ _=>rfl,fun e _ _=>⟨e,h5,rfl⟩⟩
  split
  ·exact ⟨Or.inl rfl,fun _ _=>rfl,fun e _ _=>⟨e,h5,rfl⟩⟩
  split
  ·exact ⟨Or.inl rfl,fun _ _=>rfl,fun e _ _=>⟨e,h5,rfl⟩⟩
  split
  ·exact ⟨Or.inl rfl,fun _ _=>rfl,fun e _ _=>⟨e,h5,rfl⟩⟩
  unfold sBNum
  split
  ·exact ⟨Or.inl rfl,fun _ _=>rfl,fun e _ _=>⟨e,h5,rfl⟩⟩
  split
  ·exact ⟨Or.inl rfl,fun _ _=>rfl,fun e _ _=>⟨e,h5,rfl⟩⟩
  exact ⟨Or.inl rfl,fun _ _=>rfl,fun _ _ h=>absurd h (by simp)⟩
 unfold sNext at OK ⊢
 by_cases h6:z.st=6
 ·rw [if_pos h6] at OK ⊢
  have h5:z.st≠5:=by omega
  unfold sStr at OK ⊢
  split
  ·exact nx_wrong (by omega)
  rename_i q1
  rw [if_neg q1] at OK
  split
  ·exact ⟨Or.inl rfl,fun _ _=>rfl,fun e _ _=>⟨e,h5,rfl⟩⟩
  rename_i q2
  rw [if_neg q2] at OK
  split
  ·rename_i q3
   rw [if_pos q3] at OK
   unfold sEndS at OK ⊢
   split
   ·exact ⟨Or.inr (Or.inl ⟨_,rfl⟩),fun _ e=>absurd e h5,fun _ e _=>absurd rfl e⟩
   rename_i q4
   rw [if_neg q4] at OK
   exact ⟨Or.inr (Or.inl ⟨_,rfl⟩),fun _ e=>absurd e h5,fun e _ _=>absurd e ((OK (by simp)).ne (by simp))⟩
  exact ⟨Or.inl rfl,fun _ _=>rfl,fun e _ _=>⟨e,h5,rfl⟩⟩
 rw [if_neg h6] at OK ⊢
 by_cases h7:z.st=7
 ·rw [if_pos h7]
  have h5:z.st≠5:=by omega
  unfold sEsc
  split
  ·exact nx_wrong (by omega)
  exact ⟨Or.inl rfl,fun _ _=>rfl,fun e _ _=>⟨e,h5,rfl⟩⟩
 rw [if_neg h7] at OK ⊢
 by_cases h8:z.st=8∨z.st=9
 ·rw [if_pos h8]
  have h5:z.st≠5:=by omega
  unfold sNum
  split
  ·exact nx_wrong (by omega)
  split
  ·exact ⟨Or.inl rfl,fun _ _=>rfl,fun e _ _=>⟨e,h5,rfl⟩⟩
  split
  ·exact nx_wrong (by omega)
  obtain ⟨_,b2,b3⟩:=BH b
  refine ⟨?_,fun _ e=>absurd e h5,fun e1 e2 e3=>(b3 e1 e2 e3).elim⟩
  rcases b2 with y | ⟨y0,t,y,yk⟩
  ·exact Or.inr (Or.inl ⟨sNumT z,by simp [y]⟩)
  exact Or.inr (Or.inr ⟨y0,sNumT z,t,by simp [y],yk⟩)
 rw [if_neg h8] at OK ⊢
 by_cases h10:z.st=10
 ·rw [if_pos h10]
  have h5:z.st≠5:=by omega
  unfold sWord
  split
  ·exact nx_wrong (by omega)
  split
  ·exact ⟨Or.inr (Or.inl ⟨_,rfl⟩),fun _ e=>absurd e h5,fun _ e _=>absurd rfl e⟩
  exact ⟨Or.inl rfl,fun _ _=>rfl,fun e _ _=>⟨e,h5,rfl⟩⟩
 rw [if_neg h10] at OK ⊢
 by_cases bl:isBl b=true
 ·rw [if_pos bl]
  exact ⟨Or.inl rfl,fun _ _=>rfl,fun e e2 _=>⟨e,e2,rfl⟩⟩
 rw [if_neg bl] at OK ⊢
 unfold sBetw at OK ⊢
 by_cases h5:z.st=5
 ·rw [if_pos h5]; exact (BH b).1
 rw [if_neg h5] at OK ⊢
 split
 ·exact ⟨Or.inl rfl,fun _ _=>rfl,fun e _ _=>⟨e,h5,rfl⟩⟩
 split
 ·rename_i q
  exact SH (hok.ne (by omega))
 split
 ·exact BG h5
 split
 ·exact ⟨Or.inl rfl,fun _ _=>rfl,fun e _ _=>⟨e,h5,rfl⟩⟩
 exact nx_wrong (by omega)
theorem one_run:∀(l:List UInt8) {z:Sn} {G:Gs},SOk z→Lk z G.sh→z.st≤10→z.at'+l.length≤4000000→(z.op=[]→z.st≠5→G.last=none)→OneL G (sRun z l).ts∧((sRun z l).e=0→(sRun z l).z.op=[]→(sRun z l).z.st≠5→(gRun G (sRun z l).ts).last=none)
 | [],z,G,_,_,_,_,h=>⟨trivial,fun _ e1 e2=>h e1 e2⟩
 | b::l,z,G,h1,h2,h3,h4,h=>by
  have hl:z.at'+(l.length+1)≤4000000:=by simpa using h4
  have S:=stp_next h1 h2 h3 (by omega) b.toNat
  have N:=nx_next h1 h2 h3 (by omega) b.toNat
  have hop:z.op=[]↔G.st=[]:=by
   rw [← h2.op]
   show ((G.st.map fk).reverse)=[]↔_
   simp
  have hone:∀t:Tok,(t.k=0∨t.k=3→z.op=[]→z.st≠5)→(t.k=0∨t.k=3→G.st=[]→G.last=none):=fun t ht hk hG=>h (hop.2 hG) (ht hk (hop.2 hG))
  have L1:OneL G (sNext z b.toNat).ts:=by
   rcases N.a with e | ⟨t,e⟩ | ⟨ne,t,t',e,ek⟩
   ·rw [e]; trivial
   ·rw [e]
    refine ⟨hone t (fun _ o e5=>?_),trivial⟩
    have:=N.b o e5
    rw [e] at this; cases this
   rw [e]
   exact ⟨hone t (fun _ o=>absurd o ne),fun hk=>(by omega),trivial⟩
  rw [sRun]
  by_cases c12:(sNext z b.toNat).z.st=12
  ·rw [if_pos c12]; exact ⟨L1,fun e=>(by cases e)⟩
  rw [if_neg c12]
  by_cases c11:(sNext z b.toNat).z.st=11
  ·rw [if_pos c11]; exact ⟨L1,fun e=>(by cases e)⟩
  rw [if_neg c11]
  have c10:(sNext z b.toNat).z.st≤10:=by have:=S.st; omega
  have hat:=S.at'
  have o1:=S.ok c10
  have O:SOk { (sNext z b.toNat).z with at':=(sNext z b.toNat).z.at'+1 }:=⟨o1.op,o1.ne,o1.tk,o1.st,o1.w,o1.n,o1.m,o1.x⟩
  have I:=one_run l (G:=gRun G (sNext z b.toNat).ts) O (by rw [gRun_sh S.tok]; exact S.lk c10) c10 (by simp only [hat]; omega) (fun e1 e2=>by
   obtain ⟨n1,n2,n3⟩:=N.c e1 e2 c10
   rw [n3]; exact h n1 n2)
  simp only
  rw [gRun_app]
  refine ⟨?_,I.2⟩
  exact OneL_app L1 I.1
 where
 OneL_app:∀{a b:List Tok} {G:Gs},OneL G a→OneL (gRun G a) b→OneL G (a++b)
 | [],_,_,_,h=>h
 | _::_,_,_,⟨h1,h2⟩,h=>⟨h1,OneL_app h2 h⟩
theorem fInit_tw (xs:List Sg):TW xs fInit gInit:=⟨fInit_ok xs,rfl,rfl,rfl,trivial,trivial,rfl⟩
theorem told_text {xs:List Sg} (hx:∀g ∈ xs,0<g.l.length) (hso:SrtOk xs) {l:List UInt8} (hl:l.length≤4000000) (h:txErr l=0) {t:Tv} (ht:txVal l=some t):(fRun xs fInit (txTs l)).told.map tp=(cntT xs 10 t (tlOut xs.length)).map tp:=by
 obtain ⟨h1,h2,_⟩:=tx_ok hl h
 have R:=run_ok' l sInit_ok.1 sInit_ok.2 (by simp [sInit]) (by simp [sInit]; omega)
 have he:(sRun sInit l).e=0:=by
  unfold txErr at h
  by_cases x:(sRun sInit l).e≠0
  ·rw [if_pos x] at h; exact h
  simpa using x
 have O:=one_run l (G:=gInit) sInit_ok.1 sInit_ok.2 (by simp [sInit]) (by simp [sInit]; omega) (fun _ _=>rfl)
 have O2:OneL gInit (txTs l):=by
  unfold txTs
  refine one_run.OneL_app O.1 ?_
  unfold sEnd
  by_cases e9:(sRun sInit l).z.st=9
  ·rw [if_pos e9]
   refine ⟨fun _ hG=>O.2 he ?_ (by omega),trivial⟩
   have lk:=(R.ok he).2.2.2
   have sh:=gRun_sh (g:=gInit) R.tok
   rw [show shRun ⟨[],0⟩ (sRun sInit l).ts=(gRun gInit (sRun sInit l).ts).sh from sh.symm] at lk
   have:(gRun gInit (sRun sInit l).ts).sh.op=[]:=by simp [Gs.sh,hG]
   rw [← lk.op]; exact this
  rw [if_neg e9]; trivial
 have W:=tw_run hx hso (fInit_tw xs) gInit_gf (show ixOk gInit.st gInit.ix from trivial) h1 O2
 rw [W.told,if_pos h2]
 unfold txVal at ht
 rw [ht]
end Tr
namespace Go.Proofs.YtcbadebjpogmlaaGreatDoor
open Go.RowKit Tr Go.Conc
structure QH (w:World) (gq:Nat) (xs:List Sg):Prop where
 ex:∃b tt Dp,Blk w gq #[fvp b] 77∧OkD Dp w (fun w=>PlanV w b tt xs)∧∀k,Dp k→k<w.heap.size
 pos:∀g ∈ xs,0<g.l.length
 sel:selN xs≤10
theorem QH.len {w:World} {gq:Nat} {xs:List Sg} (h:QH w gq xs):xs.length≤10:=Nat.le_trans (len_sel xs h.pos) h.sel
theorem QH.keep {w w':World} {gq:Nat} {xs:List Sg} (h:QH w gq xs) (k:Keeps w w'):QH w' gq xs:=by
 obtain ⟨b,tt,Dp,h1,h2,h3⟩:=h.ex
 exact ⟨⟨b,tt,Dp,h1.fr k id,h2.keep (fun j hj=>k.block j (h3 j hj) id),fun j hj=>Nat.lt_of_lt_of_le (h3 j hj) k.size⟩,h.pos,h.sel⟩
theorem qh_of {w:World} {gq:Nat} {tt:ByteArray} {s:List UInt8} (h:QryV w gq tt (pQuery s)) (hs:selN (pQuery s)≤10):QH w gq (pQuery s):=by
 obtain ⟨b,D,h1,h2⟩:=h
 exact ⟨⟨b,tt,D,(h2.self).1,fun w' s=>(h2 w' s).2,fun k hk=>h1.lt hk⟩,query_len s,hs⟩
theorem m_right {w:World} {s:ByteArray} (he:EV w) (hs:s.size≤120) (hf:FinP (bs s)) (hc:C (bs s) (s.size+1)≤10):Calls Tryz.prog 26 #[.string s] w fun r w'=>∃gq,r=.returned (.tuple #[.pointer (some ⟨gq,0,none⟩),.int .i64 0,.int .i64 0])∧QH w' gq (pQuery (bs s))∧Keeps w w':=by
 refine (m_comp (by unfold maxLen; omega) he).mono ?_
 rintro r w' ⟨k,h | h | h | h⟩
 ·omega
 ·obtain ⟨_,e,p,h1,_⟩:=h
  exact (h1.notFin hf).elim
 ·omega
 obtain ⟨_,_,_,gq,tt,rfl,h1,_,h3⟩:=h
 exact ⟨gq,rfl,qh_of h1 h3,k⟩
theorem q_select {w:World} {gq:Nat} {xs:List Sg} (h:QH w gq xs) (he:EN w) (s:ByteArray) (hs:s.size≤1100000):Calls Tryz.prog 18 #[.pointer (some ⟨gq,0,none⟩),.string s] w (SelP s xs w):=by
 obtain ⟨b,tt,Dp,h1,h2,h3⟩:=h.ex
 exact p_select h1 (fun w' k=>h2 w' (fun j hj=>k.block j (h3 j hj) id)) he h.pos h.sel s hs
theorem q_fed0 {w:World} {gq:Nat} {xs:List Sg} (h:QH w gq xs) (he:EN w) (s:ByteArray) (hs:s.size≤1100000) {lv:Value} (hi:IntsAt w lv) :
 Calls Tryz.prog 19 #[.pointer (some ⟨gq,0,none⟩),.string s,lv,.bool false] w fun r w'=>∃av,r=.returned (.tuple #[av,.int .i64 (stE (bs s):Nat),.int .i64 (stAt (bs s):Nat)])∧w'.ownsRow 0 44 4 av (stT xs (bs s)).length ((stT xs (bs s)).flatMap tcl)∧(∀k,av.ownBlock=some k→w.heap.size≤k)∧Keeps w w':=by
 obtain ⟨b,tt,Dp,h1,h2,h3⟩:=h.ex
 exact p_fed0 h1 h2 h3 he h.len h.sel h.pos s hs hi
end Go.Proofs.YtcbadebjpogmlaaGreatDoor
namespace Go.Proofs.YtcbadebjpogmlaaGreatDoor
open Go.RowKit Tr Go.Conc
def hq1:ByteArray:=⟨#[36,46,46,97]⟩
def hx1:ByteArray:=⟨#[123,34,97,34,58,91,49,44,123,34,97,34,58,50,125,93,125]⟩
def hq2:ByteArray:=⟨#[36,91,63,64,46,120,60,61,50,38,38,33,64,46,121,93]⟩
def hx2:ByteArray:=⟨#[91,123,34,120,34,58,50,125,44,123,34,120,34,58,49,44,34,121,34,58,48,125,44,123,34,120,34,58,51,125,93]⟩
def hq3:ByteArray:=⟨#[36,91,42,93,91,45,49,93]⟩
def hp1:ByteArray:=⟨#[91,91,49,44,50,93,44,91,51]⟩
def hp2:ByteArray:=⟨#[93,93]⟩
set_option maxRecDepth 100000
theorem fin1:FinP (bs hq1)∧C (bs hq1) (hq1.size+1)≤10:=by unfold FinP; decide +kernel
theorem fin2:FinP (bs hq2)∧C (bs hq2) (hq2.size+1)≤10:=by unfold FinP; decide +kernel
theorem fin3:FinP (bs hq3)∧C (bs hq3) (hq3.size+1)≤10:=by unfold FinP; decide +kernel
def ndP (v:Tv):List UInt8×Nat×Nat:=(v.d.path,v.d.frm,v.d.to)
def ndC (p:List UInt8×Nat×Nat):List Value:=[.string (bsb p.1),.int .i64 (p.2.1:Nat),.int .i64 (p.2.2:Nat)]
theorem nd_map (l:List Tv):l.flatMap ndCells=(l.map ndP).flatMap ndC:=by rw [List.flatMap_map]; rfl
theorem ok1:txErr (bs hx1)=0∧(txVal (bs hx1)).map (fun t=>(nodesS (pQuery (bs hq1)) [t]).map ndP)=some [([36,91,39,97,39,93],5,16),([36,91,39,97,39,93,91,49,93,91,39,97,39,93],13,14)]:=by decide +kernel
theorem ok2:txErr (bs hx2)=0∧(txVal (bs hx2)).map (fun t=>(nodesS (pQuery (bs hq2)) [t]).map ndP)=some [([36,91,48,93],1,8)]:=by decide +kernel
def tkP (p:Tv×Nat):List UInt8×Nat×Nat×Nat:=(p.1.d.path,p.1.d.frm,p.1.d.to,p.2)
def tkC (p:List UInt8×Nat×Nat×Nat):List Value:=mtCells p.1 p.2.1 p.2.2.1 p.2.2.2
theorem tk_map (l:List (Tv×Nat)):l.flatMap tcl=(l.map tkP).flatMap tkC:=by rw [List.flatMap_map]; rfl
theorem ok3:stE (bs hp1)=0∧(stN (pQuery (bs hq3)) [] (bs hp1)).map tkP=[([36,91,48,93,91,49,93],4,5,1)]∧stE (bs hp1++bs hp2)=0∧(stN (pQuery (bs hq3)) (bs hp1) (bs hp2)).map tkP=[([36,91,49,93,91,48,93],8,9,1)]:=by decide +kernel
theorem stood:Tryz.prog.stoodInHeld 42=false:=by kernel_rfl
theorem sel_known {w w':World} {s:ByteArray} {xs:List Sg} {r:Ending} (h:SelP s xs w r w') (h0:txErr (bs s)=0) {l:List (List UInt8×Nat×Nat)} (h1:(txVal (bs s)).map (fun t=>(nodesS xs [t]).map ndP)=some l) (hl:0<l.length):∃g cap,r=.returned (.tuple #[.slice (some ⟨g,0,none⟩) l.length cap,.int .i64 0,.int .i64 0])∧(∀j,j<l.length * 3→w'.cell? ⟨g,j,none⟩=(l.flatMap ndC)[j]?)∧Keeps w w':=by
 obtain ⟨k,h | h⟩:=h
 ·exact absurd h0 h.1
 obtain ⟨_,t,sv,ht,rfl,ho⟩:=h
 rw [ht] at h1
 have e:(nodesS xs [t]).map ndP=l:=Option.some.inj h1
 have el:(nodesS xs [t]).length=l.length:=by rw [← e,List.length_map]
 rw [nd_map,e,el] at ho
 obtain ⟨g,cap,rfl,_,_⟩:=ho.form hl
 exact ⟨g,cap,rfl,fun j hj=>ho.cellAt j hj,k⟩
theorem told_known {w':World} {sv:Value} {n:Nat} {tl:List (Tv×Nat)} (ho:w'.ownsRow 0 44 4 sv n (tl.flatMap tcl)) (hn:n=tl.length) {l:List (List UInt8×Nat×Nat×Nat)} (h1:tl.map tkP=l) (hl:0<l.length):∃g cap,sv=.slice (some ⟨g,0,none⟩) l.length cap∧∀j,j<l.length * 4→w'.cell? ⟨g,j,none⟩=(l.flatMap tkC)[j]?:=by
 have el:n=l.length:=by rw [hn,← h1,List.length_map]
 subst el
 rw [tk_map,h1] at ho
 obtain ⟨g,cap,rfl,_,_⟩:=ho.form hl
 exact ⟨g,cap,rfl,fun j hj=>ho.cellAt j hj⟩
set_option maxHeartbeats 8000000 in
theorem p_head {w:World} (he:EN w):Calls Tryz.prog 25 #[] w fun r w'=>r=.returned (.bool true)∧Keeps w w':=by
 have HE:=hide he
 have hst:=stood
 clear he
 go_enter Tryz.func25,Tryz.ntmps25
 go_wp2_with fail
 refine (m_right (s:=hq1) HE.out.ev (by decide) fin1.1 fin1.2).mono ?_
 rintro r w1 ⟨gq,rfl,hQ,k1⟩
 have E1:=hide (HE.out.keep k1)
 have SEL:=hide (q_select hQ E1.out hx1 (by decide))
 have K1:=hide k1
 clear hQ k1
 go_wp2_with fail
 refine SEL.out.mono ?_
 intro r w2 hs2
 obtain ⟨g2,cap2,rfl,c2,k2⟩:=sel_known hs2 ok1.1 ok1.2 (by decide)
 have d0:w2.cell? ⟨g2,0,none⟩=some (.string ⟨#[36,91,39,97,39,93]⟩):=c2 0 (by decide)
 have d1:w2.cell? ⟨g2,1,none⟩=some (.int .i64 5):=c2 1 (by decide)
 have d2:w2.cell? ⟨g2,2,none⟩=some (.int .i64 16):=c2 2 (by decide)
 have d3:w2.cell? ⟨g2,3,none⟩=some (.string ⟨#[36,91,39,97,39,93,91,49,93,91,39,97,39,93]⟩):=c2 3 (by decide)
 have d4:w2.cell? ⟨g2,4,none⟩=some (.int .i64 13):=c2 4 (by decide)
 have d5:w2.cell? ⟨g2,5,none⟩=some (.int .i64 14):=c2 5 (by decide)
 have E2:=hide (E1.out.keep k2)
 have K2:=hide (K1.out.trans k2)
 clear hs2 c2 k2 E1 K1 SEL
 go_wp2_with fail
 refine (m_right (s:=hq2) E2.out.ev (by decide) fin2.1 fin2.2).mono ?_
 rintro r w3 ⟨gq3,rfl,hQ,k3⟩
 have E3:=hide (E2.out.keep k3)
 have SEL:=hide (q_select hQ E3.out hx2 (by decide))
 have K3:=hide (K2.out.trans k3)
 clear hQ k3 d0 d1 d2 d3 d4 d5 E2 K2
 go_wp2_with fail
 refine SEL.out.mono ?_
 intro r w4 hs2
 obtain ⟨g4,cap4,rfl,c2,k4⟩:=sel_known hs2 ok2.1 ok2.2 (by decide)
 have d0:w4.cell? ⟨g4,0,none⟩=some (.string ⟨#[36,91,48,93]⟩):=c2 0 (by decide)
 have E4:=hide (E3.out.keep k4)
 have K4:=hide (K3.out.trans k4)
 clear hs2 c2 k4 E3 K3 SEL
 go_wp2_with fail
 refine (m_right (s:=hq3) E4.out.ev (by decide) fin3.1 fin3.2).mono ?_
 rintro r w5 ⟨gq5,rfl,hQ,k5⟩
 have E5:=hide (E4.out.keep k5)
 have K5:=hide (K4.out.trans k5)
 have STR:Hid (Calls Tryz.prog 37 #[.pointer (some ⟨gq5,0,none⟩)] w5 fun r w'=>∃sb b tt Dp,r=.returned (.pointer (some ⟨sb,0,none⟩))∧FdI w5 sb b tt (pQuery (bs hq3)) Dp [] (.slice none 0 0) w'):=by
  obtain ⟨b,tt,Dp,h1,h2,h3⟩:=hQ.ex
  refine (s_stream h1 h2 h3 E5.out).mono ?_
  rintro res w' ⟨sb,r,f,Er,E,rfl,h1,h2,h3,h4,h5,h6,h7,h8,h9⟩
  refine ⟨sb,b,tt,Dp,rfl,⟨⟨_,st_new h1 h2 h3 h4 h5,fun k hk=>?_,⟨rfl,Or.inl ⟨rfl,rfl⟩⟩,fun k hk=>(by cases hk)⟩,h9⟩⟩
  rcases hk with y | y | y
  ·exact Or.inr (h7 k y)
  ·rcases h8 k y with u | u | u
   ·exact Or.inl (Or.inl u)
   ·exact Or.inl (Or.inr u)
   exact Or.inr u
  exact Or.inr (y▸h6)
 have HX:=hide (And.intro hQ.len (And.intro hQ.sel hQ.pos))
 clear hQ k5 d0 E4 K4
 go_wp2_with fail
 refine STR.out.mono ?_
 rintro r w6 ⟨sb,b,tt,Dp,rfl,hF⟩
 have FD:=hide (fd_feed HX.out.1 HX.out.2.1 HX.out.2.2 hF hp1 (by decide))
 clear hF STR
 go_wp2_with fail
 refine FD.out.mono ?_
 rintro r w7 ⟨sv,rfl,g1,g2,g3,Es,g4,g5,g6,g7⟩
 have eT:stT (pQuery (bs hq3)) ([]++bs hp1)=stN (pQuery (bs hq3)) [] (bs hp1):=by rw [stT_app]; rfl
 have F7:FdI w5 sb b tt (pQuery (bs hq3)) Dp ([]++bs hp1) sv w7:=⟨⟨Es,g4,g5,by rw [eT]; exact g1,fun k hk=>⟨(g6 k hk).2.2,(g6 k hk).1⟩⟩,g2⟩
 have FD2:=hide (fd_feed HX.out.1 HX.out.2.1 HX.out.2.2 F7 hp2 (by decide))
 have z1:stE ([]++bs hp1)=0:=ok3.1
 rw [z1]
 generalize hat1:stAt ([]++bs hp1)=at1
 clear g1 g2 g3 g4 g5 g6 g7 F7 FD hat1
 go_wp2_with fail
 refine FD2.out.mono ?_
 rintro r w8 ⟨sv8,rfl,g1,g2,g3,Es8,g4,g5,g6,g7⟩
 rw [eT] at g3
 obtain ⟨ga,ca,rfl,da⟩:=told_known g3 rfl ok3.2.1 (by decide)
 obtain ⟨gb,cb,rfl,db⟩:=told_known g1 rfl ok3.2.2.2 (by decide)
 have z2:stE ([]++bs hp1++bs hp2)=0:=ok3.2.2.1
 rw [z2]
 generalize hat2:stAt ([]++bs hp1++bs hp2)=at2
 have d0:w8.cell? ⟨ga,0,none⟩=some (.string ⟨#[36,91,48,93,91,49,93]⟩):=da 0 (by decide)
 have d3:w8.cell? ⟨ga,3,none⟩=some (.int .i64 1):=da 3 (by decide)
 have d4:w8.cell? ⟨gb,0,none⟩=some (.string ⟨#[36,91,49,93,91,48,93]⟩):=db 0 (by decide)
 have KF:=hide (K5.out.trans g2)
 clear g1 g2 g3 g4 g5 g6 g7 da db FD2 eT z1 z2 HX E5 K5 hat2
 go_wp2
 go_ret
 exact ⟨rfl,KF.out⟩
end Go.Proofs.YtcbadebjpogmlaaGreatDoor
namespace Go.Proofs.YtcbadebjpogmlaaGreatDoor
open Go.RowKit Tr Go.Conc
set_option maxRecDepth 100000 in
set_option maxHeartbeats 2000000 in
theorem p_compiled {w:World} (he:EN w) {s:ByteArray} (hs:s.size≤120) (hf:FinP (bs s)) (hc:C (bs s) (s.size+1)≤10):Calls Tryz.prog 15 #[.string s] w fun r w'=>∃gq,r=.returned (.pointer (some ⟨gq,0,none⟩))∧QH w' gq (pQuery (bs s))∧Keeps w w':=by
 have HE:=hide he
 have FC:=hide (And.intro hf hc)
 clear he hf hc
 go_enter Tryz.func15,Tryz.ntmps15
 go_wp2_with fail
 refine (p_head HE.out).mono ?_
 rintro r w1 ⟨rfl,k1⟩
 have K1:=hide k1
 clear k1
 go_wp2_with fail
 refine (m_right (HE.out.keep K1.out).ev hs FC.out.1 FC.out.2).mono ?_
 rintro r w2 ⟨gq,rfl,hQ,k2⟩
 have HQ:=hide hQ
 have K2:=hide (K1.out.trans k2)
 clear hQ k2
 go_wp2
 go_ret
 exact ⟨gq,rfl,HQ.out,K2.out⟩
theorem ext_take (q:ByteArray) (n:Nat):bs (q.extract 0 n)=(bs q).take n:=by rw [bs_extract]; unfold sub; simp
end Go.Proofs.YtcbadebjpogmlaaGreatDoor
namespace Go.Proofs.YtcbadebjpogmlaaGreatDoor
open Go.ChangeShapes Go.WideShapes Go.ChangeAt Go.RowKit Go.ChangeMaps
theorem kSyntax:Tryz.prog.globalNamed "strconv.ErrSyntax"=some 6:=by kernel_rfl
theorem kSyntaxT:(Tryz.prog.globals[6]?).map (·.type)=some 180:=by kernel_rfl
theorem kErr:Tryz.prog.cellsOf 336=1:=by kernel_rfl
theorem kStr:Tryz.prog.cellsOf 9=1:=by kernel_rfl
theorem kStar: "*"++ "errors.errorString"= "*errors.errorString":=by decide
theorem kRow (u:TypeId) (h:Tryz.prog.typeName? 3 u=some "*errors.errorString"):u=334 :=
 typeName_ptr_named (nm:= "errors.errorString") (by rw [kStar]; kernel_rfl) (by kernel_rfl) (by decide) u (by rw [kStar]; exact h)
theorem kPowT:(Tryz.prog.globals[0]?).map (·.type)=some 277:=by kernel_rfl
theorem kPowC:Tryz.prog.cellsOf 277=20:=by kernel_rfl
theorem kU64C:Tryz.prog.cellsOf 258=1:=by kernel_rfl
theorem kPow:(Rows.laid_internal_strconv_uint64pow10:DataW Unit)=Lib.tabData .u64 Lib.pow10Tab:=by kernel_rfl
def lst:List (String×DataW Unit):=[("math/bits.deBruijn32tab",Rows.laid_math_bits_deBruijn32tab),("math/bits.deBruijn64tab",Rows.laid_math_bits_deBruijn64tab),("internal/strconv.uint64pow10",Rows.laid_internal_strconv_uint64pow10),("unicode/utf8.acceptRanges",Rows.laid_unicode_utf8_acceptRanges),("strconv.ErrRange",Rows.laid_strconv_ErrRange),("strconv.ErrSyntax",Rows.laid_strconv_ErrSyntax),("unicode/utf8.first",Rows.laid_unicode_utf8_first)]
theorem shMax:(((begin Tryz.prog (fun _ _=>0) default).world.heap[1]?).bind Obj.row?)=some (#[.int .i64 0],3):=by kernel_rfl
theorem shPow:((((begin Tryz.prog (fun _ _=>0) default).world.heap[0]?).bind Obj.row?).map (·.2))=some 277:=by kernel_rfl
theorem bdInt:Tryz.prog.buildable 3=true:=by kernel_rfl
theorem ctInt:Tryz.prog.cellTypes Tryz.prog.depth 3=some [3]:=by kernel_rfl
set_option maxRecDepth 100000 in
theorem en_of {W:World} (h:laidMetH Tryz.prog lst W) (hs:W.ShapedOpen Tryz.prog):EN W:=by
 have h2:laidMet Tryz.prog lst W:=h
 have hlt:∀{g:Nat} {v:Value},W.cell? ⟨g,0,none⟩=some v→g<W.heap.size:=fun {g v} hc=>World.block_lt_of_cell? W ⟨g,0,none⟩ hc
 obtain ⟨a,s,hv,_,_,_⟩:=laid_sentinel h2.tail.tail.tail.tail.tail kSyntax kSyntaxT Tryz.underlying180 kRow Tryz.underlying334 Tryz.underlying336 rfl rfl Tryz.underlying9 kErr kStr
 have hc:W.cell? ⟨6,0,none⟩=some (.iface 334 (.pointer (some a))):=by simpa using World.var?_cell kSyntax hv 0
 have h3:=h2.tail.tail
 rw [kPow] at h3
 have hT:=Lib.tabIs_of_head gPow kPowT Tryz.underlying277 Tryz.underlying258 kU64C kPowC h3
 obtain ⟨cs,hm,hz,hok⟩:=hs.1 1 _ _ (by decide +kernel) shMax
 obtain ⟨ts,t1,t2,t3⟩:=hok bdInt
 rw [ctInt] at t1
 obtain rfl:=Option.some.inj t1
 have hz1:cs.size=1:=hz
 obtain ⟨v,hv0⟩:∃v,cs[0]?=some v:=⟨cs[0],by simp [hz1]⟩
 obtain ⟨u,hu,hcell⟩:=t3 0 v hv0
 have hu:u=3:=by simpa using hu.symm
 subst hu
 unfold Cell.ok at hcell
 rw [Tryz.underlying3] at hcell
 have hmc:W.cell? ⟨1,0,none⟩=some v:=by
  have:Blk W 1 cs 3:=hm
  rw [this.cell 0]; exact hv0
 have hpl:0<W.heap.size:=by
  obtain ⟨y,hy,hy2⟩:=Option.map_eq_some_iff.1 shPow
  obtain ⟨cs2,hm2,_⟩:=hs.1 0 y.1 y.2 (by decide +kernel) hy
  exact lt_of_some hm2
 refine ⟨⟨⟨_,hc,Or.inr ⟨_,_,rfl⟩⟩,hlt hc⟩,hT,hpl,?_,hlt hmc⟩
 cases v with
 | int k m =>
  obtain ⟨rfl,_⟩:=hcell
  exact ⟨m,hmc⟩
 | _=>exact hcell.elim
section
variable {H:Type} {enc:TypeId×Value→H} {P:Program}
theorem post_keeps {f:Func} {s:ChangeSpec} {apart fresh handsOn again:Bool} {W W':World} {args:Array Value} {v:Value} {ds gs:List (DataW H)} {before pa pv:List MemPlace}
 (hW:DataW.Whole enc P f.params.toList s.vars apart W args.toList ds gs before)
 (hres:∀(b:Nat) (sp:Nat→Bool) (hd:Bool),DataW.TrodAll enc P W' b sp hd f.resultTypes.toList (v.resultList f.resultTypes.size) (s.fn H (ds++gs)).results [])
 (hargs:∀sp:Nat→Bool,(∀p ∈ before,sp p.block=true)→DataW.TrodAll enc P W' 0 sp true f.params.toList args.toList (s.fn H (ds++gs)).args pa)
 (hvars:∀sp:Nat→Bool,(∀p ∈ before,sp p.block=true)→DataW.TrodVars enc P W' sp s.vars (s.fn H (ds++gs)).vars pv)
 (hps:before=pa++pv) (hk:Keeps W W')
 (hok:∀(j:Nat) (t:TypeId) (r:Value),f.resultTypes[j]?=some t→(v.resultList f.resultTypes.size)[j]?=some r→Value.okWide P W' .any 0 t r) :
 s.post enc P f apart fresh handsOn again W args v W':=by
 have hlt:=hW.lt
 have hb:W.keptBut W' (· ∈ before):=(World.keptBut_refl W _).congr hk.os hk.output (fun i hi=>hk.block i hi id)
 refine ⟨ds,gs,before,[],pa,pv,hW,hres _ _ _,hargs _ (fun p hp=>by simpa using hlt p hp),hvars _ (fun p hp=>by simpa using hlt p hp),
  World.keptBut_mono (fun p hp=>⟨hp,Or.inr (List.mem_append.1 (hps▸hp))⟩) hb,fun _=>?_⟩
 obtain ⟨_,_,_,_,_,hz,hn⟩:=hW
 refine ⟨hok,_,_,([]++pa)++pv,⟨[]++pa,pv,trodAll_append (hargs _ (fun _ _=>rfl)) (hres _ _ _),hvars _ (fun _ _=>rfl),rfl,fun b off hp=>?_,fun ha=>?_⟩,fun p hp _=>?_⟩
 ·have hm:MemPlace.cell b off ∈ before:=by rw [hps]; simpa using hp
  rw [hk.frozen (p:=⟨b,off,none⟩) (hlt _ hm) id]
  exact hz b off hm
 ·have:=hn ha
  rw [hps] at this
  simpa using this
 rw [hps]; simpa using hp
end
end Go.Proofs.YtcbadebjpogmlaaGreatDoor
namespace Go.Proofs.YtcbadebjpogmlaaGreatDoor
open Go.RowKit Tr
def lb (l:List UInt8):ByteArray:=⟨l.toArray⟩
theorem bs_lb (l:List UInt8):bs (lb l)=l:=by simp [bs,lb]
def strs (l:List (List UInt8)):Array Value:=(l.map fun x=>Value.string (lb x)).toArray
theorem lit_cell (w:World) {l:List (List UInt8)} (T:TypeId) {k:Nat} (hk:k<l.length):(w.alloc (.cells (strs l) T)).cell? ⟨w.heap.size,k,none⟩=some (.string (lb (l.getD k []))):=by
 rw [(Blk.new w _ T).cell k]
 simp [strs,hk]
set_option linter.unusedSimpArgs false
theorem i_add (a i:Nat):((a+i:Nat):Int)=(a:Int)+(i:Int):=by omega
end Go.Proofs.YtcbadebjpogmlaaGreatDoor
