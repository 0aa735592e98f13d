import Derived.Test.YtcbadebjpogmlaaGreatDoorVsGa
import Derived.Test.YtcbadebjpogmlaaGreatDoorVsSk
import Derived.Test.YtcbadebjpogmlaaGreatDoorVsSq
import Derived.Laws.EntriesVeiled
import Derived.Test.YtcbadebjpogmlaaGreatDoorVsMkY
set_option maxHeartbeats 4000000
set_option maxRecDepth 100000
namespace Tr
structure Ct where
 pN:Nat
 al:Nat
def rU (pk L i:Nat) (c:Tv):List Sg->List Ct->List Ct
 | s::r,p0::p1::ps=>⟨(if s.deep=true then p0.al else p0.pN) * gI s.l pk L i c,p1.al+(if s.deep=true then p0.al else p0.pN) * gI s.l pk L i c⟩::rU pk L i c r (p1::ps)
 | _,_=>[]
def vR (xs:List Sg) (pk L i:Nat) (c:Tv) (par:List Ct):List Ct:=⟨0,(par.headD ⟨0,0⟩).al⟩::rU pk L i c xs par
def kL (n:Nat):List Ct:=⟨1,1⟩::List.replicate n ⟨0,0⟩
def eZ (tl:List Ct) (k:Nat):Ct:=tl.getD k ⟨0,0⟩
def Ux (xs:List Sg):Nat->Tv->List Ct->List (Tv×Nat)
 | 0,_,_=>[]
 | n+1,t,tl=>(t.ws.zipIdx.flatMap (λ p=>Ux xs n p.1 (vR xs t.d.kind t.ws.length p.2 p.1 tl)))++(if 0<(eZ tl xs.length).pN then [(t,(eZ tl xs.length).pN)] else [])
structure Fw where
 g:Gs
 tl:List (List Ct)
 hd:Option Nat
 told:List (Tv×Nat)
def On:Fw:=⟨bK,[],none,[]⟩
def Uy (xs:List Sg) (s:Fw) (d:dO):List Ct:=match s.g.st with
 | []=>kL xs.length
 | p::_=>vR xs p.d.kind p.ws.length s.g.ix ⟨d,[]⟩ (s.tl.getLastD [])
def Uz (xs:List Sg) (s:Fw) (d:dO):Fw :=
 if s.hd.isSome=true then s
 else { s with tl:=s.tl++[Uy xs s d],hd:=if oB xs<xs.length/\0<(eZ (Uy xs s d) (oB xs)).pN then some s.g.st.length else none }
def UA (xs:List Sg) (s:Fw) (t:Tv) (r:Nat):Fw :=
 if s.hd.isSome=true/\s.hd≠some r then s
 else { s with tl:=s.tl.dropLast,hd:=none,told:=s.told++Ux xs 10 t (s.tl.getLastD []) }
def UB (xs:List Sg) (s:Fw) (t:Tok):Fw :=
 if t.k=0 then { Uz xs s (jo s.g t) with g:=aR s.g t s.hd.isSome }
 else if t.k=1 then (match s.g.st with
  | []=>s
  | f::r=>{ UA xs s (f.tv t.to) r.length with g:=aR s.g t true })
 else if t.k=2 then { s with g:=aR s.g t true }
 else { UA xs (Uz xs s (jo s.g t)) ((aM s.g t true).tv t.to) s.g.st.length with g:=aR s.g t s.hd.isSome }
def Qd (xs:List Sg) (s:Fw) (ts:List Tok):Fw:=ts.foldl (UB xs) s
end Tr
namespace Go.Proofs.YtcbadebjpogmlaaGreatDoor
open Go.RowKit Tr
def RF (S:World->(Nat->Prop)->List Tok->Prop) (tell:Value) (r:Nat) (f:Sf) (ts:List Tok) (E:Nat->Prop) (w:World) (res:Ending) (w':World):Prop :=
 res=.returned (.tuple #[.int .i64 (f.e:Nat),.int .i64 ((if f.e=0 then 0 else f.z.at'):Nat)])/\∃E',RM S tell r f.z.st f.z (ts++f.ts) E' w'/\Ev E w E' w'
theorem RM.UC {S:World->(Nat->Prop)->List Tok->Prop} {f:Value} {V:List Tok->Tok->Prop} (hS:fG f S V) {tell:Value} {r s0:Nat} {z:Sn} {ts:List Tok} {E:Nat->Prop} {w:World} (h:RM S tell r s0 z ts E w) (s1:Nat):RM S tell r s1 z ts E (w.setCell ⟨r,0,none⟩ (.int .i64 (s1:Nat)))/\Ev E w E (w.setCell ⟨r,0,none⟩ (.int .i64 (s1:Nat))):=by
 obtain ⟨ov,bp,bv,D,h1,h2,h3,h4⟩:=h.ex
 exact RM.set hS h1 h2 h3 h4 (h1.b.set 0 _) ((Fr.refl (λ k=>k=r) w).setCell ⟨r,0,none⟩ (Or.inl rfl) _) rfl rfl
theorem RM.Zq {S:World->(Nat->Prop)->List Tok->Prop} {f:Value} {V:List Tok->Tok->Prop} (hS:fG f S V) {tell:Value} {r s0:Nat} {z:Sn} {ts:List Tok} {E:Nat->Prop} {w:World} (h:RM S tell r s0 z ts E w):RM S tell r s0 { z with at':=z.at'+1 } ts E (w.setCell ⟨r,1,none⟩ (.int .i64 ((z.at':Int)+1)))/\Ev E w E (w.setCell ⟨r,1,none⟩ (.int .i64 ((z.at':Int)+1))):=by
 obtain ⟨ov,bp,bv,D,h1,h2,h3,h4⟩:=h.ex
 exact RM.set hS h1 h2 h3 h4 (h1.b.set 1 _) ((Fr.refl (λ k=>k=r) w).setCell ⟨r,1,none⟩ (Or.inl rfl) _) rfl rfl
theorem K9 (z:Sn) (b:UInt8):aB z [b]=if (aq z b.toNat).z.st=12 then ⟨(aq z b.toNat).z,2,(aq z b.toNat).ts⟩ else if (aq z b.toNat).z.st=11 then ⟨(aq z b.toNat).z,3,(aq z b.toNat).ts⟩ else ⟨{ (aq z b.toNat).z with at':=(aq z b.toNat).z.at'+1 },0,(aq z b.toNat).ts⟩:=by
 rw [aB]
 simp [aB]
theorem FN {z:Sn} {l:List UInt8} {k:Nat} (hk:k<l.length) (h:(aB z (l.take k)).e=0):aB z (l.take (k+1))=⟨(aB (aB z (l.take k)).z [l[k]]).z,(aB (aB z (l.take k)).z [l[k]]).e,(aB z (l.take k)).ts++(aB (aB z (l.take k)).z [l[k]]).ts⟩:=by
 rw [List.take_succ_eq_append_getElem hk,jE _ _ _ h]
theorem nH {z:Sn} {l:List UInt8} {k:Nat} (h:(aB z (l.take k)).e≠0):aB z l=aB z (l.take k):=by
 have:=qc (l.take k) (l.drop k) z h
 rwa [List.take_append_drop] at this
theorem FO {z:Sn} {l:List UInt8} {k:Nat}:∃r,(aB z l).ts=(aB z (l.take k)).ts++r:=by
 have e:aB z l=aB z (l.take k++l.drop k):=by rw [List.take_append_drop]
 by_cases h:(aB z (l.take k)).e=0
 ·rw [e,jE _ _ _ h]; exact ⟨_,rfl⟩
 exact ⟨[],by rw [nH h,List.append_nil]⟩
theorem FQ {S:World->(Nat->Prop)->List Tok->Prop} {V:List Tok->Tok->Prop} {tell:Value} (hS:fG tell S V) {w:World} {r:Nat} {z:Sn} {ts:List Tok} {E:Nat->Prop} (h:RM S tell r z.st z ts E w) (hok:kI z) {sh:Sh} (hlk:Lk z sh) (hst:z.st<=10) (piece:ByteArray) (hl:z.at'+piece.size<=4000000) (hx:z.tx.length+piece.size<=4000000) (hV:VL V ts (aB z (bs piece)).ts) :
 Calls Tryz.prog 71 #[.pointer (some ⟨r,0,none⟩),.string piece] w (RF S tell r (aB z (bs piece)) ts E w):=by
 have HM:=aa h
 have HS:=aa hS
 have HV:=aa hV
 have HO:=aa (And.intro hok hlk)
 have HX:=aa hx
 clear h hS hV hok hlk hx
 go_enter Tryz.func71,Tryz.ntmps71
 go_wp2
 go_loopw [9] (λ i wr=>∃k:Nat,k<=piece.size/\i=.int .i64 k/\(aB z ((bs piece).take k)).e=0/\∃E',RM S tell r (aB z ((bs piece).take k)).z.st (aB z ((bs piece).take k)).z (ts++(aB z ((bs piece).take k)).ts) E' wr/\Ev E w E' wr) (λ i _=>piece.size - (intOf i).toNat)
 case atStart =>
  refine ⟨0,Nat.zero_le _,rfl,rfl,E,?_,Ev.refl _ _⟩
  simpa [aB] using HM.out
 case round =>
  obtain ⟨k,hk,rfl,h0,Ek,hM,hE⟩:=hrel
  have hlen:(bs piece).length=piece.size:=an piece
  have R:=lf ((bs piece).take k) HO.out.1 HO.out.2 hst (by simp [hlen]; omega)
  obtain ⟨r1,r2,r3,r4⟩:=R.ok h0
  have r5:=R.tx
  have hx:=HX.out
  simp only [List.length_take,hlen] at r3 r5
  rw [Nat.min_eq_left hk] at r3 r5
  by_cases hlt:k<piece.size
  ·have hb:((bs piece)[k]'(by omega)).toNat=piece[k].toNat:=(nI (by omega)).symm.trans (dR hlt)
   have eT:=FN (z:=z) (l:=bs piece) (k:=k) (by omega) h0
   rw [K9,hb] at eT
   have hVk:VL V (ts++(aB z ((bs piece).take k)).ts) (aq (aB z ((bs piece).take k)).z piece[k].toNat).ts:=by
    obtain ⟨q,hq⟩:=FO (z:=z) (l:=bs piece) (k:=k+1)
    have hv:=HV.out
    rw [hq] at hv
    have h2:=hv.app.1
    have e3:(aB z ((bs piece).take (k+1))).ts=(aB z ((bs piece).take k)).ts++(aq (aB z ((bs piece).take k)).z piece[k].toNat).ts:=by
     rw [eT]
     split
     ·rfl
     split<;>rfl
    rw [e3] at h2
    exact h2.app.2
   have bN:(aq (aB z ((bs piece).take k)).z piece[k].toNat).z.at'<=4000000:=by rw [(kN r1 r4 r2 (by omega) piece[k].toNat).at']; omega
   have CN:=aa (Qe HS.out hM rfl r1 (by omega) r2 (by omega) piece[k].toNat (UInt8.toNat_lt _) hVk)
   have ET:=aa eT
   have HE:=aa hE
   clear hM hE eT hVk R r1 r3 r4 r5 r2 hb hx HM HV HO HX
   have H0:=aa h0
   clear h0
   generalize aB z ((bs piece).take k)=fk at *
   go_wp2_with fail
   refine CN.out.mono ?_
   rintro res w1 ⟨rfl,E1,vK,Oo⟩
   have Km:=aa (HE.out.trans Oo)
   clear Oo HE CN
   obtain ⟨x,hx⟩:∃x,x=aq fk.z piece[k].toNat:=⟨_,rfl⟩
   rw [<-hx] at vK ET bN ⊢
   obtain ⟨M1,F1⟩:=RM.UC HS.out vK x.z.st
   obtain ⟨_,_,_,hrs⟩:=vK.rs
   have fz:=hrs.b.fz
   have q0:w1.cell? ⟨r,0,none⟩=some (.int .i64 (fk.z.st:Nat)):=hrs.b.cell 0
   clear hrs
   have rV:=aa (Km.out.trans F1)
   have d0:(w1.setCell ⟨r,0,none⟩ (.int .i64 (x.z.st:Nat))).cell? ⟨r,0,none⟩=some (.int .i64 (x.z.st:Nat)):=by
    obtain ⟨_,_,_,_,y,_⟩:=M1.ex
    exact y.b.cell 0
   have d1:(w1.setCell ⟨r,0,none⟩ (.int .i64 (x.z.st:Nat))).cell? ⟨r,1,none⟩=some (.int .i64 (x.z.at':Nat)):=by
    obtain ⟨_,_,_,_,y,_⟩:=M1.ex
    exact y.b.cell 1
   have K_:=aa M1
   have Tz:=aa hx
   clear vK F1 Km M1 hx
   by_cases c12:x.z.st=12
   ·rw [if_pos c12] at ET
    have jS:Hid (RF S tell r (aB z (bs piece)) ts E w (.returned (.tuple #[.int .i64 2,.int .i64 (x.z.at':Nat)])) (w1.setCell ⟨r,0,none⟩ (.int .i64 (x.z.st:Nat))).drew):=by
     have e:aB z (bs piece)=⟨x.z,2,fk.ts++x.ts⟩:=by rw [nH (l:=bs piece) (k:=k+1) (by rw [ET.out]; simp),ET.out]
     unfold Hid
     rw [e]
     exact ⟨rfl,E1,by rw [<-List.append_assoc]; exact RM.drewN HS.out K_.out 1,rV.out.drewN 1⟩
    clear ET rV K_
    rw [c12] at d0 d1 jS ⊢
    simp only [Int.cast_ofNat_Int] at d0 d1 jS ⊢
    clear c12
    go_wp2
    go_region
    all_goals
     go_wp2
     go_ret2
     exact jS.out
   rw [if_neg c12] at ET
   by_cases c11:x.z.st=11
   ·rw [if_pos c11] at ET
    have jS:Hid (RF S tell r (aB z (bs piece)) ts E w (.returned (.tuple #[.int .i64 3,.int .i64 (x.z.at':Nat)])) (w1.setCell ⟨r,0,none⟩ (.int .i64 (x.z.st:Nat))).drew):=by
     have e:aB z (bs piece)=⟨x.z,3,fk.ts++x.ts⟩:=by rw [nH (l:=bs piece) (k:=k+1) (by rw [ET.out]; simp),ET.out]
     unfold Hid
     rw [e]
     exact ⟨rfl,E1,by rw [<-List.append_assoc]; exact RM.drewN HS.out K_.out 1,rV.out.drewN 1⟩
    clear ET rV K_ c12
    rw [c11] at d0 d1 jS ⊢
    simp only [Int.cast_ofNat_Int] at d0 d1 jS ⊢
    clear c11
    go_wp2
    go_region
    all_goals
     go_wp2
     go_ret2
     exact jS.out
   rw [if_neg c11] at ET
   obtain ⟨M2,F2⟩:=RM.Zq HS.out K_.out
   have Qf:∀i,(w1.setCell ⟨r,0,none⟩ (.int .i64 (x.z.st:Nat))).frozen? ⟨r,i,none⟩=false:=by
    obtain ⟨_,_,_,hrs⟩:=K_.out.rs
    exact hrs.b.fz
   have M2':=aa M2
   have La:=aa (rV.out.trans F2)
   have Zr:IntKind.i64.wrap ((x.z.at':Int)+1)=(x.z.at':Int)+1:=by rw [IntWalk.i64_in _ (by omega)]
   have n12:((x.z.st:Int) == 12)=false:=cU
   have n11:((x.z.st:Int) == 11)=false:=cU
   clear M2 F2 K_ rV c12 c11 bN
   go_wp2
   go_roundw
   case rel=>exact ⟨k+1,by omega,by go_num,by rw [ET.out],E1,by rw [ET.out]; simpa using M2'.out,La.out⟩
   case measure=>simp [intOf]; omega
  have hks:k=piece.size:=by omega
  have e:aB z (bs piece)=aB z ((bs piece).take k):=by rw [List.take_of_length_le (by omega)]
  have HE:=aa hE
  have HMk:=aa hM
  have H0:=aa h0
  have EE:=aa e
  clear hM hE h0 e R r1 r2 r3 r4 r5 hx HM HV HO HX
  go_wp2
  go_ret2
  rw [EE.out]
  exact ⟨by rw [H0.out]; rfl,Ek,HMk.out,HE.out⟩
theorem RM.A_ {S:World->(Nat->Prop)->List Tok->Prop} {f:Value} {V:List Tok->Tok->Prop} (hS:fG f S V) {t0:Value} {r s0:Nat} {z:Sn} {ts:List Tok} {E:Nat->Prop} {w:World} (h:RM S t0 r s0 z ts E w) (t1:Value):RM S t1 r s0 z ts E (w.setCell ⟨r,14,none⟩ t1)/\Ev E w E (w.setCell ⟨r,14,none⟩ t1):=by
 obtain ⟨ov,bp,bv,D,h1,h2,h3,h4⟩:=h.ex
 have f0:Fr (λ k=>k=r) w (w.setCell ⟨r,14,none⟩ t1):=(Fr.refl (λ k=>k=r) w).setCell ⟨r,14,none⟩ (Or.inl rfl) _
 exact ⟨⟨ov,bp,bv,D,⟨h1.b.set 14 t1,aW h1.o f0 (λ k hk e=>by omega),aW h1.t f0 (λ k hk e=>by omega),h1.p,h1.e⟩,hS.keep h2 (λ k hk=>f0.block k (hS.lt h2 hk) (h3 k hk).1) f0.size,h3,h4⟩,⟨λ_=>Or.inl,f0.mono (λ k _ e=>(h4 k).2 (Or.inl e))⟩⟩
theorem RM.UD {S:World->(Nat->Prop)->List Tok->Prop} {f:Value} {V:List Tok->Tok->Prop} (hS:fG f S V) (t0:Value):∃N first cap,f=.func (.func N) first cap/\(∀args w,(callFunc N args).run Tryz.prog w=.ok (.enter N args) w) /\
 ∀{r s0:Nat} {z:Sn} {ts:List Tok} {E:Nat->Prop} {w:World} (t:Tok),RM S t0 r s0 z ts E w->V ts t->Calls Tryz.prog N (first.push (gD t)++cap) w λ res w'=>res=.returned (.tuple #[])/\∃E',RM S t0 r s0 z (ts++[t]) E' w'/\Ev E w E' w':=by
 obtain ⟨N,first,cap,hf,hE,hc⟩:=hS.call
 refine ⟨N,first,cap,hf,hE,λ{r s0 z ts E w} t h hV=>?_⟩
 obtain ⟨ov,bp,bv,D,h1,h2,h3,h4⟩:=h.ex
 refine (hc w D ts t h2 hV).mono ?_
 rintro res w' ⟨rfl,D',g1,g2,g3⟩
 have kb:∀k,k<w.heap.size->¬D k->w'.heap[k]?=w.heap[k]?:=λ k hk hn=>g3.block k hk hn
 have nr:¬D r:=λ x=>(h3 r x).1 rfl
 refine ⟨rfl,λ k=>k=r\/ov.ownBlock=some k\/bv.ownBlock=some k\/D' k,⟨ov,bp,bv,D',⟨(kb r h1.b.lt nr).trans h1.b,bJ h1.o (λ k hk=>kb k (h1.o.lt k hk).2 (λ x=>(h3 k x).2.1 hk)),bJ h1.t (λ k hk=>kb k (h1.t.lt k hk).2 (λ x=>(h3 k x).2.2 hk)),h1.p,h1.e⟩,g1,λ k hk=>?_,λ_=>Iff.rfl⟩,⟨λ k hk=>?_,g3.mono (λ k _ x=>(h4 k).2 (Or.inr (Or.inr (Or.inr x))))⟩⟩
 ·rcases g2 k hk with x | x
  ·exact h3 k x
  refine ⟨λ e=>by have:=h1.b.lt; omega,λ e=>by have:=(h1.o.lt k e).2; omega,λ e=>by have:=(h1.t.lt k e).2; omega⟩
 rcases hk with x | x | x | x
 ·exact Or.inl ((h4 k).2 (Or.inl x))
 ·exact Or.inl ((h4 k).2 (Or.inr (Or.inl x)))
 ·exact Or.inl ((h4 k).2 (Or.inr (Or.inr (Or.inl x))))
 rcases g2 k x with y | y
 ·exact Or.inl ((h4 k).2 (Or.inr (Or.inr (Or.inr y))))
 exact Or.inr y
theorem Qg {S:World->(Nat->Prop)->List Tok->Prop} {V:List Tok->Tok->Prop} {f:Value} (hS:fG f S V) {w:World} {r:Nat} {z:Sn} {ts:List Tok} {E:Nat->Prop} (h:RM S .nilFunc r z.st z ts E w) (hok:kI z) {sh:Sh} (hlk:Lk z sh) (hst:z.st<=10) (piece:ByteArray) (hl:z.at'+piece.size<=4000000) (hx:z.tx.length+piece.size<=4000000) (hV:VL V ts (aB z (bs piece)).ts) :
 Calls Tryz.prog 52 #[.pointer (some ⟨r,0,none⟩),.string piece,f] w (RF S .nilFunc r (aB z (bs piece)) ts E w):=by
 obtain ⟨N,first,cap,hf,_,_⟩:=hS.call
 obtain ⟨M1,F1⟩:=RM.A_ hS h f
 obtain ⟨_,_,_,hrs⟩:=h.rs
 have fz:=hrs.b.fz
 have q14:w.cell? ⟨r,14,none⟩=some .nilFunc:=hrs.b.cell 14
 have CF:=aa (FQ hS M1 hok hlk hst piece hl hx hV)
 have Km:=aa F1
 have HS:=aa hS
 clear hrs M1 F1 hS h hok hlk hV
 subst hf
 generalize aB z (bs piece)=rf at *
 go_enter Tryz.func52,Tryz.ntmps52
 go_wp2_with fail
 refine CF.out.mono ?_
 rintro res w1 ⟨rfl,E1,vK,Oo⟩
 obtain ⟨M2,F2⟩:=RM.A_ HS.out vK .nilFunc
 obtain ⟨_,_,_,hrs⟩:=vK.rs
 have Qf:=hrs.b.fz
 have p14:=hrs.b.cell 14
 simp [vL] at p14
 have TA:=aa M2
 have rV:=aa ((Km.out.trans Oo).trans F2)
 clear hrs M2 F2 vK Oo Km
 obtain ⟨av,Zt⟩:∃av:Nat,av=if rf.e=0 then 0 else rf.z.at':=⟨_,rfl⟩
 rw [<-Zt]
 have HAV:=aa Zt
 clear Zt
 go_wp2
 go_ret2
 exact ⟨by rw [<-HAV.out]; rfl,E1,TA.out,rV.out⟩
def RE (S:World->(Nat->Prop)->List Tok->Prop) (tell:Value) (r:Nat) (z:Sn) (ts:List Tok) (E:Nat->Prop) (w:World) (res:Ending) (w':World):Prop :=
 res=.returned (.tuple #[.int .i64 ((if cq z=true then 0 else 2:Nat):Int),.int .i64 ((if cq z=true then 0 else z.at':Nat):Int)])/\∃E',RM S tell r z.st z (ts++(if cq z=true then jn z else [])) E' w'/\Ev E w E' w'
theorem UE {S:World->(Nat->Prop)->List Tok->Prop} {V:List Tok->Tok->Prop} {f:Value} (hS:fG f S V) {w:World} {r:Nat} {z:Sn} {ts:List Tok} {E:Nat->Prop} (h:RM S .nilFunc r z.st z ts E w) (hok:kI z) (hV:cq z=true->VL V ts (jn z)) :
 Calls Tryz.prog 54 #[.pointer (some ⟨r,0,none⟩),f] w (RE S .nilFunc r z ts E w):=by
 obtain ⟨N,first,cap,hf,hE,cV⟩:=RM.UD hS .nilFunc
 obtain ⟨ov,bp,bv,hrs⟩:=h.rs
 obtain ⟨ao,cp,rfl⟩:=ah hrs.o
 have c0:w.cell? ⟨r,0,none⟩=some (.int .i64 (z.st:Nat)):=hrs.b.cell 0
 have c1:w.cell? ⟨r,1,none⟩=some (.int .i64 (z.at':Nat)):=hrs.b.cell 1
 have c2:w.cell? ⟨r,2,none⟩=some (.slice ao z.op.length cp):=hrs.b.cell 2
 by_cases hs:z.st=5\/z.st=9
 ·by_cases ho:z.op=[]
  ·have hw:cq z=true:=by rcases hs with x | x<;>simp [cq,x,ho]
   have hl0:z.op.length=0:=by rw [ho]; rfl
   rw [hl0] at c2
   by_cases h9:z.st=9
   ·have n5:((z.st:Int) == 5)=false:=cU
    have hn:=hok.n (Or.inr h9)
    have hp:=Ba hn.1
    have NU:=aa (wm hrs (by omega) hn.2.2.2.1)
    have KP:Hid (∀W',ak w W'->RM S .nilFunc r z.st z ts E W'/\Ev E w E W'):=λ W' k=>RM.keeps hS h k
    have eE:jn z=[cz z]:=by unfold jn; rw [if_pos h9]
    have hv:=hV hw
    rw [eE] at hv
    have TE:Hid (∀W,RM S .nilFunc r z.st z ts E W->Calls Tryz.prog N (first.push (gD (cz z))++cap) W λ res w'=>res=.returned (.tuple #[])/\∃E',RM S .nilFunc r z.st z (ts++[cz z]) E' w'/\Ev E W E' w'):=λ W hW=>cV _ hW hv.1
    have wo:Hid (∀E' w',RM S .nilFunc r z.st z (ts++[cz z]) E' w'->Ev E w E' w'->RE S .nilFunc r z ts E w (.returned (.tuple #[.int .i64 0,.int .i64 0])) w'):=λ E' w' h1 h2=>by
     unfold RE
     rw [if_pos hw,if_pos hw,if_pos hw,eE]
     exact ⟨rfl,E',h1,h2⟩
    rw [h9] at c0
    generalize gD (cz z)=tg at *
    clear h hok hV cV hrs hs ho hw hl0 h9 hS n5 hn hp hv eE
    subst hf
    go_enter Tryz.func54,Tryz.ntmps54
    go_wp2_with fail
    refine NU.out.mono ?_
    rintro res w1 ⟨rfl,hk⟩
    have M1:=aa (KP.out _ hk).1
    have Km:=aa (KP.out _ hk).2
    clear hk
    go_wp2_with fail
    refine (TE.out _ M1.out).mono ?_
    rintro res w2 ⟨rfl,E2,rW,wq⟩
    have jS:=aa (wo.out E2 w2 rW (Km.out.trans wq))
    clear rW wq
    go_wp2
    go_ret2
    exact jS.out
   have h5:z.st=5:=by omega
   have jS:Hid (RE S .nilFunc r z ts E w (.returned (.tuple #[.int .i64 0,.int .i64 0])) w):=by
    have e:jn z=[]:=by unfold jn; rw [if_neg h9]
    unfold Hid RE
    rw [if_pos hw,if_pos hw,if_pos hw,e,List.append_nil]
    exact ⟨rfl,E,h,Ev.refl _ _⟩
   rw [h5] at c0
   clear h hok hV cV hrs hs ho hw hl0 h9 h5 hS
   subst hf
   go_enter Tryz.func54,Tryz.ntmps54
   go_wp2
   go_ret2
   exact jS.out
  have hw:cq z=false:=by simp [cq,ho]
  have jS:Hid (RE S .nilFunc r z ts E w (.returned (.tuple #[.int .i64 2,.int .i64 (z.at':Nat)])) w.drew):=by
   unfold Hid RE
   rw [hw]
   simp only [Bool.false_eq_true,if_false,List.append_nil]
   exact ⟨rfl,E,RM.drewN hS h 1,(Ev.refl _ _).drewN 1⟩
  have hpos:(0:Int)<(z.op.length:Int):=by have:=List.length_pos_iff.2 ho; omega
  have Oq:=hok.op.1
  generalize z.op.length=L at *
  rcases hs with hs | hs
  ·rw [hs] at c0
   clear h hok hV cV hrs ho hw hS hs
   subst hf
   go_enter Tryz.func54,Tryz.ntmps54
   go_wp2
   go_region
   all_goals
    go_wp2
    go_ret2
    exact jS.out
  rw [hs] at c0
  clear h hok hV cV hrs ho hw hS hs
  subst hf
  go_enter Tryz.func54,Tryz.ntmps54
  go_wp2
  go_region
  all_goals
   go_wp2
   go_ret2
   exact jS.out
 have hw:cq z=false:=by simp only [cq]; rw [Bool.and_eq_false_iff]; left; simp; omega
 have jS:Hid (RE S .nilFunc r z ts E w (.returned (.tuple #[.int .i64 2,.int .i64 (z.at':Nat)])) w.drew):=by
  unfold Hid RE
  rw [hw]
  simp only [Bool.false_eq_true,if_false,List.append_nil]
  exact ⟨rfl,E,RM.drewN hS h 1,(Ev.refl _ _).drewN 1⟩
 have n5:((z.st:Int) == 5)=false:=cU
 have n9:((z.st:Int) == 9)=false:=cU
 generalize z.st=st at *
 clear h hok hV cV hrs hw hS hs
 subst hf
 go_enter Tryz.func54,Tryz.ntmps54
 go_wp2
 go_region
 all_goals
  go_wp2
  go_ret2
  exact jS.out
theorem wu {w:World} {s:ByteArray} (h:120<s.size) (hs:s.size<=maxLen):Calls Tryz.prog 40 #[.string s] w (λ r w'=>r=.returned (.tuple #[.pointer none,.int .i64 1,.int .i64 0])/\w'=w):=by
 unfold maxLen at hs
 have hd:(120:Int)<(s.size:Int):=by omega
 go_enter Tryz.func40,Tryz.ntmps40
 go_wp2
 go_ret3
 exact ⟨rfl,rfl⟩
structure EV (w:World):Prop where
 v:∃ev,w.cell? ⟨6,0,none⟩=some ev/\(ev=.nilIface\/∃te pe,ev=.iface te pe)
 lt:6<w.heap.size
theorem EV.keep {w w':World} (h:EV w) (f:ak w w'):EV w':=by
 obtain ⟨⟨ev,h1,h2⟩,h4⟩:=h
 exact ⟨⟨ev,(f.cell (p:=⟨6,0,none⟩) h4 id).trans h1,h2⟩,Nat.lt_of_lt_of_le h4 f.size⟩
theorem EV.er {w:World} (h:EV w) {g:Nat} (hg:6<g):Er g w:=⟨h.v,by omega,h.lt⟩
theorem FU.keeps {g:Nat} {w0 w w':World} (k:ak w0 w) (h:FU g w w') (hg:w0.heap.size<=g):ak w0 w' :=
 ⟨h.os.trans k.os,h.tape.trans k.tape,h.output.trans k.output,Nat.le_trans k.size h.size,λ i hi _=>(h.low i (by omega) (Nat.lt_of_lt_of_le hi k.size)).trans (k.block i hi id)⟩
def UF (s:ByteArray) (w:World) (r:Ending) (w':World):Prop :=
 ak w w'/\((∃e p:Nat,EX (bs s) e p/\r=.returned (.tuple #[.pointer none,.int .i64 e,.int .i64 p])) \/
  (Fin (bs s)/\10<C (bs s) (s.size+1)/\r=.returned (.tuple #[.pointer none,.int .i64 1,.int .i64 0])) \/
  (Fin (bs s)/\C (bs s) (s.size+1)<=10/\∃(b:Nat) (tt:ByteArray) (D:Nat->Prop),r=.returned (.tuple #[.pointer (some ⟨b,0,none⟩),.int .i64 0,.int .i64 0])/\(Ft D w.heap.size w'/\fR D w' (λ w=>oD w b tt (cK (bs s))))/\bs tt=T (bs s) (s.size+1)/\fJ (cK (bs s))<=10))
theorem Qh {w:World} {s:ByteArray} (h:s.size<=120) (he:EV w):Calls Tryz.prog 40 #[.string s] w (UF s w):=by
 have hd:¬(120:Int)<(s.size:Int):=by omega
 have HE:=aa he
 clear he
 go_enter Tryz.func40,Tryz.ntmps40
 go_wp2_with fail
 refine (Lb h).mono ?_
 rintro r w1 ⟨hk,hr⟩
 have K1:=aa hk
 clear hk
 rcases hr with ⟨e,p,hee,rfl⟩ | ⟨hf,rfl⟩
 ·have hne:e≠0:=by have:=hee.st; omega
  have Lc:((e:Int) != 0)=true:=by rw [bne_iff_ne]; omega
  have HX:=aa hee
  clear hee
  go_wp2
  go_ret3
  exact ⟨K1.out,Or.inl ⟨e,p,HX.out,rfl⟩⟩
 have HF:=aa hf
 clear hf
 go_wp2_with fail
 refine (Ld s w1 (by omega)).mono ?_
 rintro r w2 ⟨rfl,eK⟩
 have K2:Hid (ak w w2):=K1.out.trans (Fr.aL eK)
 clear eK K1
 have M3:Hid (Mk w2.heap.size s 0 [] 0 (.pointer none) (.slice none 0 0) (w2.alloc (.cells #[.string s,.int .i64 0,.pointer none,.slice none 0 0,.int .i64 0] 141))) :=
  ⟨ay.new _ _ _,Or.inl rfl,World.ownsRow_nil _ _ _ _,Nat.zero_le _⟩
 have K3:=aa (K2.out.alloc (.cells #[.string s,.int .i64 0,.pointer none,.slice none 0 0,.int .i64 0] 141))
 have hG:6<w2.heap.size:=Nat.lt_of_lt_of_le HE.out.lt K2.out.size
 have E3:=aa ((HE.out.keep K3.out).er hG)
 have uz:w.heap.size<=w2.heap.size:=K2.out.size
 clear K2
 go_wp2_with fail
 refine (Qi (by omega) HF.out E3.out hG M3.out).mono ?_
 rintro r w4 ⟨b,tt,D4,rfl,⟨_,FV,zh⟩,hgb,UG,hc4,CX,hsel⟩
 have Zu:=aa hsel
 clear hsel
 have CY:=aa (FV.low (show w.heap.size<=_ from K3.out.size))
 have UH:=aa zh
 have K4:Hid (ak w w4):=CX.keeps K3.out uz
 have HT:=aa UG
 have hcl:=Le (bs s) (s.size+1)
 obtain ⟨cc,Zv⟩:∃cc,cc=C (bs s) (s.size+1):=⟨_,rfl⟩
 rw [<-Zv] at hc4 hcl
 have HC:=aa Zv
 clear FV zh UG CX K3 E3 M3 Zv
 by_cases h10:10<cc
 ·have Yk:=aa h10
  have Qj:(10:Int)<(cc:Int):=by omega
  go_wp2
  go_ret3
  exact ⟨K4.out,Or.inr (Or.inl ⟨HF.out,by rw [<-HC.out]; exact Yk.out,rfl⟩)⟩
 have Yk:=aa h10
 have Qj:¬(10:Int)<(cc:Int):=by omega
 go_wp2
 go_ret3
 exact ⟨K4.out,Or.inr (Or.inr ⟨HF.out,by rw [<-HC.out]; have:=Yk.out; omega,b,tt,D4,rfl,⟨CY.out,UH.out⟩,HT.out,by rw [Zu.out,<-HC.out]; have:=Yk.out; omega⟩)⟩
end Go.Proofs.YtcbadebjpogmlaaGreatDoor
