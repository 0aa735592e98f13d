import Derived.Test.YtcbadebjpogmlaaGreatDoorVsRefF
import Derived.Test.YtcbadebjpogmlaaGreatDoorVsMkA
import Derived.Laws.AppendOwn
import Derived.Maps.AppendAt
set_option maxHeartbeats 1000000
set_option maxRecDepth 100000
namespace Go.Proofs.YtcbadebjpogmlaaGreatDoor
open Go.RowKit Tr
def e_ (d:dO):Nat:=if d.kind=1 then 3 else if d.kind=2 then 4 else if d.kind=3 then (if d.s=lN then 2 else if d.s=jq then 1 else 0) else if d.kind=4 then 5 else 6
def jX (d:dO):List UInt8:=if d.kind=2 then d.s.take 9 else []
def bZ (l:List UInt8):ByteArray:=⟨l.toArray⟩
theorem h_ (l:List UInt8):bs (bZ l)=l:=by simp [bs,bZ]
def ld (d:dO) (par:Value) (ix:Nat) (sv:Value):Array Value :=
 #[.int .i64 (e_ d:Nat),.int .i64 (d.ai:Nat),.int .i64 (d.to:Nat),.int .i64 d.n,.string (bZ (jX d)),par,.int .i64 (ix:Nat),.string (bZ d.name),sv]
def iS (A:Nat->Nat) (t:Tv):Value:=.pointer (some ⟨A t.d.ai,0,none⟩)
structure FD (d:dO):Prop where
 k:d.kind=1\/d.kind=2\/d.kind=3\/d.kind=4\/d.kind=5
 w:d.kind=3->d.s=lN\/d.s=jq\/d.s=qd
 s:d.kind=1->d.s=[]
 n:d.kind=2\/d.kind=3->d.n=0
def PT (w:World) (A:Nat->Nat) (D:Nat->Prop):Nat->Value->Nat->Tv->Prop
 | 0,_,_,_=>False
 | n+1,par,ix,t=>D (A t.d.ai)/\FD t.d/\t.ws.length<=4000000/\(∃sv,ay w (A t.d.ai) (ld t.d par ix sv) 130/\(∀k,sv.ownBlock=some k->D k)/\w.ownsRow 0 71 1 sv t.ws.length (t.ws.map (iS A))) /\
  ∀i (h:i<t.ws.length),PT w A D n (iS A t) i (t.ws[i])
theorem bJ {w w':World} {base:Nat} {e:TypeId} {sz:Nat} {v:Value} {n:Nat} {xs:List Value} (h:w.ownsRow base e sz v n xs) (hk:∀k,v.ownBlock=some k->w'.heap[k]?=w.heap[k]?):w'.ownsRow base e sz v n xs:=by
 refine ⟨h.1,?_⟩
 rcases h.2 with x | ⟨k,cap,cur,h1,h2,h3,h4⟩
 ·exact Or.inl x
 exact Or.inr ⟨k,cap,cur,h1,h2,(hk k (by rw [h1]; rfl)).trans h3,h4⟩
theorem PT.keep {w w':World} {A:Nat->Nat} {D:Nat->Prop} (hD:∀k,D k->w'.heap[k]?=w.heap[k]?):∀(n:Nat) (par:Value) (ix:Nat) (t:Tv),PT w A D n par ix t->PT w' A D n par ix t
 | 0,_,_,_,h=>h
 | n+1,_,_,_,⟨h2,hd,hl,⟨sv,h3,h4,h5⟩,h6⟩=>⟨h2,hd,hl,⟨sv,(hD _ h2).trans h3,h4,bJ h5 (λ k hk=>hD k (h4 k hk))⟩,λ i hi=>PT.keep hD n _ i _ (h6 i hi)⟩
structure PC (w:World) (A:Nat->Nat) (t:Tv) (par:Value) (ix:Nat) (sv:Value):Prop where
 b:ay w (A t.d.ai) (ld t.d par ix sv) 130
 o:w.ownsRow 0 71 1 sv t.ws.length (t.ws.map (iS A))
 d:FD t.d
 l:t.ws.length<=4000000
theorem PT.pc {w:World} {A:Nat->Nat} {D:Nat->Prop} {n:Nat} {par:Value} {ix:Nat} {t:Tv} (h:PT w A D n par ix t):∃sv,PC w A t par ix sv:=by
 cases n with
 | zero=>exact absurd h id
 | succ n =>
  obtain ⟨_,hd,hl,⟨sv,h3,_,h5⟩,_⟩:=h
  exact ⟨sv,h3,h5,hd,hl⟩
theorem PT.KH {w:World} {A:Nat->Nat} {D:Nat->Prop} {n:Nat} {par:Value} {ix:Nat} {t:Tv} (h:PT w A D n par ix t) {i:Nat} (hi:i<t.ws.length):PT w A D (n - 1) (iS A t) i (t.ws[i]):=by
 cases n with
 | zero=>exact absurd h id
 | succ n=>exact h.2.2.2.2 i hi
theorem PC.at_ {w:World} {A:Nat->Nat} {t:Tv} {par:Value} {ix:Nat} {sv:Value} (h:PC w A t par ix sv) {k:Nat} (hk:k<t.ws.length):∃g cap,sv=.slice (some ⟨g,0,none⟩) t.ws.length cap/\w.cell? ⟨g,k,none⟩=some (.pointer (some ⟨A (t.ws[k]).d.ai,0,none⟩)):=by
 obtain ⟨g,cap,hv,_,qg⟩:=h.o.form (by omega)
 refine ⟨g,cap,hv,?_⟩
 have h2:=h.o
 rw [hv] at h2
 have:=h2.cellAt k (by omega)
 rw [this]
 simp [iS,hk]
def iw (A:Nat->Nat) (o:Option Tv):Value:=match o with
 | none=>.pointer none
 | some t=>iS A t
theorem dW (w:World) (a b:Nat):(w.drewN a).drewN b=w.drewN (a+b):=by induction b with
 | zero=>rfl
 | succ b ih=>first | (show ((w.drewN a).drewN b).drew=(w.drewN (a+b)).drew; rw [ih]) | simp [World.drewN,Nat.add_assoc]
theorem yQ {a b:Nat} (h:a≠b):((a:Int) == (b:Int))=false:=cU
theorem Ts {a b:ByteArray} (h:bs a≠bs b):(a.toList == b.toList)=false:=by
 rw [beq_eq_false_iff_ne]
 intro e
 apply h
 rw [Lib.toList_data,Lib.toList_data] at e
 exact e
theorem Kf {a b:ByteArray} (h:bs a=bs b):(a.toList == b.toList)=true:=by
 rw [beq_iff_eq,Lib.toList_data,Lib.toList_data]
 exact h
theorem pq {d:dO} (h:FD d):(e_ d=6↔d.kind=5)/\(e_ d=5↔d.kind=4)/\(e_ d=4↔d.kind=2)/\(e_ d=3↔d.kind=1):=by
 unfold e_
 rcases h.k with e | e | e | e | e<;>rw [e]<;>simp
 split<;>(try simp)<;>split<;>simp
theorem Kg {w:World} {A:Nat->Nat} {D:Nat->Prop} {n:Nat} {par:Value} {ix:Nat} {t:Tv} (h:PT w A D n par ix t) (nm:ByteArray) :
 Calls Tryz.prog 297 #[.pointer (some ⟨A t.d.ai,0,none⟩),.string nm] w λ r w'=>r=.returned (iw A (bE t ⟨true,bs nm,0⟩ t.ws.length))/\∃k,w'=w.drewN k:=by
 obtain ⟨sv,hc⟩:=h.pc
 have HP:=aa h
 have HC:=aa hc
 have c0:w.cell? ⟨A t.d.ai,0,none⟩=some (.int .i64 (e_ t.d:Nat)):=hc.b.cell 0
 have c8:w.cell? ⟨A t.d.ai,8,none⟩=some sv:=hc.b.cell 8
 have hl:=hc.l
 have hk:=(pq hc.d).1
 obtain ⟨v0,y_,rfl⟩:=ah hc.o
 unfold bE
 simp only [if_true]
 by_cases h5:t.d.kind=5
 ·rw [if_pos h5,List.take_length]
  have e6:e_ t.d=6:=hk.2 h5
  rw [e6] at c0
  have c0':w.cell? ⟨A t.d.ai,0,none⟩=some (.int .i64 6):=c0
  clear c0 e6 hk h5 h hc
  go_enter Tryz.func297,Tryz.ntmps297
  go_wp2
  go_loopw [6,17] (λ_ i wr=>∃k q:Nat,k<=t.ws.length/\i=.int .i64 k/\(t.ws.take k).find? (λ c=>c.d.name == bs nm)=none/\wr=w.drewN q) (λ_ i _=>t.ws.length - (intOf i).toNat)
  case atStart=>exact ⟨0,0,Nat.zero_le _,rfl,rfl,rfl⟩
  case round =>
   obtain ⟨k,q,hk,rfl,hf,rfl⟩:=hrel
   have HF:=aa hf
   clear hf
   by_cases hlt:k<t.ws.length
   ·have hki:(k:Int)<(t.ws.length:Int):=by omega
    obtain ⟨g,cap,hv,hcell⟩:=HC.out.at_ hlt
    simp only [Value.slice.injEq,true_and] at hv
    obtain ⟨rfl,rfl⟩:=hv
    have iZ:=HP.out.KH hlt
    obtain ⟨iA,Fg⟩:=iZ.pc
    have d7:w.cell? ⟨A (t.ws[k]).d.ai,7,none⟩=some (.string (bZ (t.ws[k]).d.name)):=Fg.b.cell 7
    have HN:Hid (∀c,c=t.ws[k]->(c.d.name≠bs nm->(t.ws.take (k+1)).find? (λ c=>c.d.name == bs nm)=none)/\(c.d.name=bs nm->t.ws.find? (λ c=>c.d.name == bs nm)=some c)):=by
     rintro c rfl
     refine ⟨λ e=>?_,λ e=>?_⟩
     ·rw [List.take_succ_eq_append_getElem hlt,List.find?_append,HF.out]
      simp [e]
     have e3:=congrArg (List.find? (λ c:Tv=>c.d.name == bs nm)) (List.take_append_drop k t.ws).symm
     rw [e3,List.find?_append,HF.out,List.drop_eq_getElem_cons hlt,List.find?_cons_of_pos (by simp [e])]
     rfl
    have Bk:=aa (HN.out _ rfl)
    clear HN iZ Fg
    generalize t.ws[k]=c at *
    by_cases he:c.d.name=bs nm
    ·have hb:((bZ c.d.name).toList == nm.toList)=true:=Kf (by rw [h_]; exact he)
     have HR:=aa (Bk.out.2 he)
     clear he Bk
     go_wp2
     go_ret
     exact ⟨by rw [HR.out]; rfl,q,rfl⟩
    have hb:((bZ c.d.name).toList == nm.toList)=false:=Ts (by rw [h_]; exact he)
    have HR:=aa (Bk.out.1 he)
    clear he Bk
    go_wp2
    go_roundw
    case rel=>exact ⟨k+1,q,by omega,by go_num,HR.out,rfl⟩
    case measure=>simp [intOf]; omega
   have hki:¬(k:Int)<(t.ws.length:Int):=by omega
   have e:t.ws.take k=t.ws:=List.take_of_length_le (by omega)
   have HR:Hid (t.ws.find? (λ c=>c.d.name == bs nm)=none):=by rw [<-e]; exact HF.out
   clear HF e
   go_wp2
   go_ret
   exact ⟨by rw [HR.out]; rfl,q,rfl⟩
 rw [if_neg h5]
 have e6:e_ t.d≠6:=λ e=>h5 (hk.1 e)
 have e7:((e_ t.d:Int) != 6)=true:=by rw [bne_iff_ne]; omega
 clear hk h5 h hc e6
 generalize e_ t.d=kk at *
 go_enter Tryz.func297,Tryz.ntmps297
 go_wp2
 go_ret
 exact ⟨rfl,0,rfl⟩
theorem uj {w:World} {A:Nat->Nat} {D:Nat->Prop} {n:Nat} {par:Value} {ix:Nat} {t:Tv} (h:PT w A D n par ix t) (i:Int) :
 Calls Tryz.prog 301 #[.pointer (some ⟨A t.d.ai,0,none⟩),.int .i64 i] w λ r w'=>r=.returned (iw A (if t.d.kind=4 then idx t.ws i else none))/\∃k,w'=w.drewN k:=by
 obtain ⟨sv,hc⟩:=h.pc
 have HC:=aa hc
 have c0:w.cell? ⟨A t.d.ai,0,none⟩=some (.int .i64 (e_ t.d:Nat)):=hc.b.cell 0
 have c8:w.cell? ⟨A t.d.ai,8,none⟩=some sv:=hc.b.cell 8
 have hl:=hc.l
 have hk:=(pq hc.d).2.1
 obtain ⟨v0,y_,rfl⟩:=ah hc.o
 by_cases h4:t.d.kind=4
 ·rw [if_pos h4]
  have e5:e_ t.d=5:=hk.2 h4
  rw [e5] at c0
  have c0':w.cell? ⟨A t.d.ai,0,none⟩=some (.int .i64 5):=c0
  clear c0 e5 hk h4 h hc
  unfold idx
  by_cases hi:i<0
  ·rw [if_pos hi]
   go_enter Tryz.func301,Tryz.ntmps301
   go_wp2
   go_ret
   exact ⟨rfl,0,rfl⟩
  rw [if_neg hi]
  obtain ⟨k,rfl⟩:∃k:Nat,i=k:=⟨i.toNat,by omega⟩
  have hkn:((k:Int).toNat)=k:=by omega
  rw [hkn]
  by_cases hlt:k<t.ws.length
  ·have hki:(k:Int)<(t.ws.length:Int):=by omega
   obtain ⟨g,cap,hv,hcell⟩:=HC.out.at_ hlt
   simp only [Value.slice.injEq,true_and] at hv
   obtain ⟨rfl,rfl⟩:=hv
   rw [List.getElem?_eq_getElem hlt]
   generalize t.ws[k]=c at *
   clear hkn
   go_enter Tryz.func301,Tryz.ntmps301
   go_wp2
   go_ret
   exact ⟨rfl,0,rfl⟩
  have hki:¬(k:Int)<(t.ws.length:Int):=by omega
  have akm:(t.ws.length:Int)<=(k:Int):=by omega
  rw [List.getElem?_eq_none (by omega)]
  clear hkn
  go_enter Tryz.func301,Tryz.ntmps301
  go_wp2
  go_ret
  exact ⟨rfl,0,rfl⟩
 rw [if_neg h4]
 have e5:e_ t.d≠5:=λ e=>h4 (hk.1 e)
 have e7:((e_ t.d:Int) != 5)=true:=by rw [bne_iff_ne]; omega
 clear hk h4 h hc e5
 generalize e_ t.d=kk at *
 go_enter Tryz.func301,Tryz.ntmps301
 go_wp2
 go_ret
 exact ⟨rfl,0,rfl⟩
def cQ (c:Kt):dO:=⟨c.k,c.n,c.t,[],[],0,0,-1⟩
structure qC (c:Kt):Prop where
 k:c.k=1\/c.k=2\/c.k=3
 w:c.k=3->c.t=lN\/c.t=jq\/c.t=qd
 s:c.k=1->c.t=[]
 n:c.k=2\/c.k=3->c.n=0
 l:c.t.length<=8
theorem qC.d {c:Kt} (h:qC c):FD (cQ c):=⟨by rcases h.k with e | e | e<;>simp [cQ,e],h.w,h.s,h.n⟩
theorem EJ {s c:List UInt8} (h:c.length<=8):(s.take 9=c.take 9)↔s=c:=by
 rw [List.take_of_length_le (l:=c) (by omega)]
 constructor
 ·intro e
  by_cases hs:s.length<=9
  ·rwa [List.take_of_length_le hs] at e
  exfalso
  have:=congrArg List.length e
  rw [List.length_take] at this
  omega
 intro e
 rw [e,List.take_of_length_le (by omega)]
theorem uk:∀(n:Nat) (s c:List UInt8),c.length<n->gG (s.take n) c=gG s c
 | 0,_,_,h=>absurd h (Nat.not_lt_zero _)
 | _+1,_,[],_=>by simp [gG]
 | _+1,[],_::_,_=>rfl
 | n+1,a::x,b::y,h=>by
  simp only [List.take_succ_cons,gG]
  rw [uk n x y (by simpa using h)]
theorem nj:∀(x y:List UInt8),Go.Op.bytesLess x y=gG x y
 | _,[]=>by simp [Go.Op.bytesLess,gG]
 | [],_::_=>rfl
 | a::x,b::y=>by simp [Go.Op.bytesLess,gG,nj x y]
theorem N_ {d:dO} {c:Kt} (hd:FD d) (hc:qC c):(decide (d.kind<4) && d.kind == c.k && d.n == c.n && d.s == c.t) =
 (if e_ d=e_ (cQ c) then (if e_ d=3 then d.n == c.n else if e_ d=4 then decide (jX d=jX (cQ c)) else true) else false):=by
 have p1:=pq hd
 have p2:=pq hc.d
 have hk2:(cQ c).kind=c.k:=rfl
 rw [hk2] at p2
 rcases hc.k with e | e | e
 ·have q2:e_ (cQ c)=3:=p2.2.2.2.2 e
  rw [q2]
  by_cases h:d.kind=1
  ·have q1:e_ d=3:=p1.2.2.2.2 h
   rw [if_pos q1,if_pos q1]
   simp [h,e,hd.s h,hc.s e]
  have q1:e_ d≠3:=λ x=>h (p1.2.2.2.1 x)
  rw [if_neg q1]
  simp [h,e]
 ·have q2:e_ (cQ c)=4:=p2.2.2.1.2 e
  rw [q2]
  by_cases h:d.kind=2
  ·have q1:e_ d=4:=p1.2.2.1.2 h
   rw [if_pos q1,if_neg (by omega),if_pos q1]
   have e3:jX d=d.s.take 9:=by simp [jX,h]
   have e4:jX (cQ c)=c.t.take 9:=by simp [jX,cQ,e]
   rw [e3,e4]
   rw [Bool.eq_iff_iff]
   simp [h,e,hd.n (Or.inl h),hc.n (Or.inl e),EJ hc.l]
  have q1:e_ d≠4:=λ x=>h (p1.2.2.1.1 x)
  rw [if_neg q1]
  simp [h,e]
 have q2:e_ (cQ c)<3:=by
  unfold e_; rw [hk2,e]; simp; split<;>(try simp)<;>split<;>simp
 by_cases h:d.kind=3
 ·have q1:e_ d<3:=by unfold e_; rw [h]; simp; split<;>(try simp)<;>split<;>simp
  rw [if_neg (c:=e_ d=3) (by omega),if_neg (c:=e_ d=4) (by omega)]
  have f1:e_ d=if d.s=lN then 2 else if d.s=jq then 1 else 0:=by unfold e_; rw [h]; simp
  have f2:e_ (cQ c)=if c.t=lN then 2 else if c.t=jq then 1 else 0:=by unfold e_; simp only [cQ,e]; rfl
  rw [f1,f2]
  rcases hd.w h with x | x | x<;>rcases hc.w e with y | y | y<;>rw [x,y]<;>simp [h,e,hd.n (Or.inr h),hc.n (Or.inr e)]<;>decide
 have q1:e_ d≠e_ (cQ c):=by
  intro x
  have:=p1.2.1
  rcases hd.k with z | z | z | z | z
  ·have:=p1.2.2.2.2 z; omega
  ·have:=p1.2.2.1.2 z; omega
  ·exact h z
  ·have:=p1.2.1.2 z; omega
  have:=p1.1.2 z; omega
 rw [if_neg q1]
 simp [h,e]
theorem Oa {d:dO} {c:Kt} (hd:FD d) (hc:qC c):(d.kind == c.k && ((d.kind == 1 && decide (d.n<c.n)) || (d.kind == 2 && gG d.s c.t))) =
 (if e_ d=e_ (cQ c) then (if e_ d=3 then decide (d.n<c.n) else if e_ d=4 then gG (jX d) (jX (cQ c)) else false) else false):=by
 have p1:=pq hd
 have p2:=pq hc.d
 have hk2:(cQ c).kind=c.k:=rfl
 rw [hk2] at p2
 by_cases h1:d.kind=1
 ·have q1:e_ d=3:=p1.2.2.2.2 h1
  rw [q1]
  by_cases h:c.k=1
  ·rw [p2.2.2.2.2 h]; simp [h1,h]
  rw [if_neg (λ x=>h (p2.2.2.2.1 x.symm))]
  simp [h1]; omega
 by_cases h2:d.kind=2
 ·have q1:e_ d=4:=p1.2.2.1.2 h2
  rw [q1]
  by_cases h:c.k=2
  ·rw [p2.2.2.1.2 h]
   have e3:jX d=d.s.take 9:=by simp [jX,h2]
   have e4:jX (cQ c)=c.t:=by simp [jX,cQ,h]; exact List.take_of_length_le (by have:=hc.l; omega)
   rw [e3,e4,uk 9 d.s c.t (by have:=hc.l; omega)]
   simp [h2,h]
  rw [if_neg (λ x=>h (p2.2.2.1.1 x.symm))]
  simp [h2]; omega
 have q3:e_ d≠3:=λ x=>h1 (p1.2.2.2.1 x)
 have q4:e_ d≠4:=λ x=>h2 (p1.2.2.1.1 x)
 rw [if_neg q3,if_neg q4]
 simp [h1,h2]
theorem Ob {w:World} {A:Nat->Nat} {t:Tv} {par:Value} {ix:Nat} {sv:Value} (h:PC w A t par ix sv) {b:Nat} {c:Kt} {sc pc:Value} (hb:ay w b (ld (cQ c) pc 0 sc) 130) (hc:qC c) :
 Calls Tryz.prog 292 #[.pointer (some ⟨A t.d.ai,0,none⟩),.pointer (some ⟨b,0,none⟩)] w λ r w'=>r=.returned (.bool (dP c (some t)))/\∃k,w'=w.drewN k:=by
 have E:dP c (some t)=_:=N_ h.d hc
 rw [E]
 have c0:w.cell? ⟨A t.d.ai,0,none⟩=some (.int .i64 (e_ t.d:Nat)):=h.b.cell 0
 have c3:w.cell? ⟨A t.d.ai,3,none⟩=some (.int .i64 t.d.n):=h.b.cell 3
 have c4:w.cell? ⟨A t.d.ai,4,none⟩=some (.string (bZ (jX t.d))):=h.b.cell 4
 have d0:w.cell? ⟨b,0,none⟩=some (.int .i64 (e_ (cQ c):Nat)):=hb.cell 0
 have d3:w.cell? ⟨b,3,none⟩=some (.int .i64 c.n):=hb.cell 3
 have d4:w.cell? ⟨b,4,none⟩=some (.string (bZ (jX (cQ c)))):=hb.cell 4
 have HS:Hid (((bZ (jX t.d)).toList == (bZ (jX (cQ c))).toList)=decide (jX t.d=jX (cQ c))):=by
  show _=_
  by_cases x:jX t.d=jX (cQ c)
  ·rw [Kf (by rw [h_,h_]; exact x),decide_eq_true x]
  rw [Ts (by rw [h_,h_]; exact x),decide_eq_false x]
 clear h hb hc E
 generalize e_ t.d=k1 at *
 generalize e_ (cQ c)=k2 at *
 generalize hq:decide (jX t.d=jX (cQ c))=bq at *
 generalize jX t.d=x1 at *
 generalize jX (cQ c)=x2 at *
 generalize t.d.n=n1 at *
 generalize c.n=n2 at *
 clear hq
 by_cases h12:k1=k2
 ·subst h12
  rw [if_pos rfl]
  by_cases h3:k1=3
  ·subst h3
   clear HS c4 d4
   rw [if_pos rfl]
   go_enter Tryz.func292,Tryz.ntmps292
   go_wp2
   go_quiet (fail)
   go_wp2
   go_quiet (fail)
   go_wp2
   go_ret
   exact ⟨rfl,_,by rw [dW]⟩
  rw [if_neg h3]
  have e3:=yQ h3
  by_cases h4:k1=4
  ·subst h4
   rw [if_pos rfl,<-HS.out]
   clear HS
   go_enter Tryz.func292,Tryz.ntmps292
   go_wp2
   go_quiet (fail)
   go_wp2
   go_quiet (fail)
   go_wp2
   go_ret
   exact ⟨rfl,_,by rw [dW]⟩
  rw [if_neg h4]
  have e4:=yQ h4
  clear HS c4 d4 c3 d3
  go_enter Tryz.func292,Tryz.ntmps292
  go_wp2
  go_quiet (fail)
  go_wp2
  go_ret
  exact ⟨rfl,_,rfl⟩
 rw [if_neg h12]
 have WC:((k1:Int) != (k2:Int))=true:=by rw [bne_iff_ne]; omega
 clear HS c4 d4 c3 d3
 go_enter Tryz.func292,Tryz.ntmps292
 go_wp2
 go_quiet (fail)
 go_wp2
 go_ret
 exact ⟨rfl,_,rfl⟩
def Sm (D:Nat->Prop) (w w':World):Prop:=∀k,D k->w'.heap[k]?=w.heap[k]?
def fR (D:Nat->Prop) (w:World) (P:World->Prop):Prop:=∀w',Sm D w w'->P w'
structure Ft (D:Nat->Prop) (B:Nat) (w:World):Prop where
 ge:∀k,D k->B<=k
 ty:∀k,D k->∃cs T fz,w.heap[k]?=some (.cells cs T fz)/\T≠5
theorem Ft.lt {D:Nat->Prop} {B:Nat} {w:World} (h:Ft D B w) {k:Nat} (hk:D k):k<w.heap.size:=by
 obtain ⟨cs,T,fz,h1,_⟩:=h.ty k hk
 exact bH h1
theorem Ft.keep {D:Nat->Prop} {B:Nat} {w w':World} (h:Ft D B w) (s:Sm D w w'):Ft D B w':=⟨h.ge,λ k hk=>by rw [s k hk]; exact h.ty k hk⟩
theorem Ft.low {D:Nat->Prop} {B B':Nat} {w:World} (h:Ft D B w) (hb:B'<=B):Ft D B' w:=⟨λ k hk=>Nat.le_trans hb (h.ge k hk),h.ty⟩
theorem Ft.or {D D':Nat->Prop} {B:Nat} {w:World} (h:Ft D B w) (h':Ft D' B w):Ft (λ k=>D k\/D' k) B w :=
 ⟨λ k hk=>hk.elim (h.ge k) (h'.ge k),λ k hk=>hk.elim (h.ty k) (h'.ty k)⟩
theorem Ft.none (B:Nat) (w:World):Ft (λ_=>False) B w:=⟨λ_ h=>h.elim,λ_ h=>h.elim⟩
theorem Ft.one {w:World} {b B:Nat} {cs:Array Value} {T:TypeId} (h:ay w b cs T) (hT:T≠5) (hb:B<=b):Ft (λ k=>k=b) B w :=
 ⟨λ k hk=>by omega,λ k hk=>by subst hk; exact ⟨cs,T,_,h,hT⟩⟩
theorem fR.self {D:Nat->Prop} {w:World} {P:World->Prop} (h:fR D w P):P w:=h w (λ_ _=>rfl)
theorem fR.keep {D:Nat->Prop} {w w':World} {P:World->Prop} (h:fR D w P) (s:Sm D w w'):fR D w' P:=λ w'' s'=>h w'' (λ k hk=>(s' k hk).trans (s k hk))
theorem fR.more {D D':Nat->Prop} {w:World} {P:World->Prop} (h:fR D w P) (hd:∀k,D k->D' k):fR D' w P:=λ w' s=>h w' (λ k hk=>s k (hd k hk))
theorem Sm.fr {K:Nat->Prop} {D:Nat->Prop} {B:Nat} {w w':World} (h:Ft D B w) (f:Fr K w w') (hk:∀k,B<=k->¬K k):Sm D w w':=λ k hd=>f.block k (h.lt hd) (hk k (h.ge k hd))
theorem Sm.grown {D:Nat->Prop} {B:Nat} {w w':World} (h:Ft D B w) {row:Option Nat} (hg:w.grownBy w' row) (hr:∀k,D k->row≠some k):Sm D w w':=λ k hd=>hg.block k (h.lt hd) (λ e=>hr k hd e.symm)
theorem ay.sm {D:Nat->Prop} {w w':World} {b:Nat} {cs:Array Value} {T:TypeId} (h:ay w b cs T) (s:Sm D w w') (hd:D b):ay w' b cs T:=(s b hd).trans h
structure Row (T:TypeId) (B:Nat) (P:Nat->World->Value->Prop) (D:Nat->Prop) (sv:Value) (fs:List Value) (w:World):Prop where
 o:w.ownsRow B T 1 sv fs.length fs
 ft:Ft D B w
 ne:∀k,D k->sv.ownBlock≠some k
 ok:∀i (h:i<fs.length),fR D w (λ w'=>P i w' fs[i])
theorem Row.fr {K:Nat->Prop} {T:TypeId} {B:Nat} {P:Nat->World->Value->Prop} {D:Nat->Prop} {sv:Value} {fs:List Value} {w w':World} (h:Row T B P D sv fs w) (f:Fr K w w') (hk:∀k,B<=k->¬K k):Row T B P D sv fs w':=by
 have s:=Sm.fr h.ft f hk
 refine ⟨?_,h.ft.keep s,h.ne,λ i hi=>(h.ok i hi).keep s⟩
 refine ⟨h.o.1,?_⟩
 rcases h.o.2 with x | ⟨k,cap,cur,h1,h2,h3,h4⟩
 ·exact Or.inl x
 exact Or.inr ⟨k,cap,cur,h1,h2,(f.block k (bH h3) (hk k h2)).trans h3,h4⟩
theorem Row.below {T:TypeId} {B:Nat} {P:Nat->World->Value->Prop} {D:Nat->Prop} {sv:Value} {fs:List Value} {w w':World} (h:Row T B P D sv fs w) (f:Below w.heap.size w w'):Row T B P D sv fs w' :=
 h.fr (K:=λ_=>False) (Fr.aL f) (λ_ _ x=>x)
theorem Row.low {T:TypeId} {B B':Nat} {P:Nat->World->Value->Prop} {D:Nat->Prop} {sv:Value} {fs:List Value} {w:World} (h:Row T B P D sv fs w) (hb:B'<=B):Row T B' P D sv fs w:=by
 refine ⟨?_,h.ft.low hb,h.ne,h.ok⟩
 refine ⟨h.o.1,?_⟩
 rcases h.o.2 with x | ⟨k,cap,cur,h1,h2,h3⟩
 ·exact Or.inl x
 exact Or.inr ⟨k,cap,cur,h1,Nat.le_trans hb h2,h3⟩
theorem Row.nil (T:TypeId) (B:Nat) (P:Nat->World->Value->Prop) (w:World):Row T B P (λ_=>False) (.slice none 0 0) [] w :=
 ⟨World.ownsRow_nil _ _ _ _,Ft.none _ _,λ_ h=>h.elim,λ_ h=>absurd h (Nat.not_lt_zero _)⟩
theorem Row.one {T:TypeId} {B:Nat} {P:Nat->World->Value->Prop} {D:Nat->Prop} {f:Value} {w:World} (hB:B<=w.heap.size) (ft:Ft D B w) (ok:fR D w (λ w'=>P 0 w' f)) :
 Row T B P D (.slice (some ⟨w.heap.size,0,none⟩) 1 1) [f] (w.alloc (.cells #[f] T)):=by
 have s:Sm D w (w.alloc (.cells #[f] T)):=Sm.fr (K:=λ_=>False) ft ((Fr.refl _ w).alloc _) (λ_ _ x=>x)
 refine ⟨⟨rfl,Or.inr ⟨w.heap.size,1,#[f],rfl,hB,heap_alloc_new w _,Nat.le_refl _,by unfold maxLen; decide,rfl,rfl⟩⟩,ft.keep s,λ k hk e=>?_,λ i hi=>?_⟩
 ·have h1:=ft.lt hk
  have h2:w.heap.size=k:=Option.some.inj e
  omega
 have e:i=0:=by simpa using hi
 subst e
 exact ok.keep s
theorem Row.push {T:TypeId} {B:Nat} {P:Nat->World->Value->Prop} {D D2:Nat->Prop} {sv jG:Value} {fs:List Value} {f:Value} {W W':World} {A:Nat} (h:Row T B P D sv fs W) (hA:∀k,sv.ownBlock=some k->k<A) (hBA:B<=A)
 (ft:Ft D2 A W) (ok:fR D2 W (λ w'=>P fs.length w' f)) (ho:W'.ownsRow B T 1 jG (fs.length+1) (fs++[f])) (hg:W.grownBy W' sv.ownBlock) (hb:jG.ownBlock=sv.ownBlock\/jG.ownBlock=some W.heap.size) :
 Row T B P (λ k=>D k\/D2 k) jG (fs++[f]) W':=by
 have n2:∀k,D2 k->sv.ownBlock≠some k:=λ k hk e=>by have h1:=hA k e; have h2:=ft.ge k hk; omega
 have s1:Sm D W W':=Sm.grown h.ft hg h.ne
 have s2:Sm D2 W W':=Sm.grown ft hg n2
 refine ⟨by simpa using ho,(h.ft.keep s1).or ((ft.keep s2).low hBA),λ k hk e=>?_,λ i hi=>?_⟩
 ·rcases hb with x | x
  ·rw [x] at e
   exact hk.elim (λ y=>h.ne k y e) (λ y=>n2 k y e)
  rw [x] at e
  have e2:W.heap.size=k:=Option.some.inj e
  have:k<W.heap.size:=hk.elim (λ y=>h.ft.lt y) (λ y=>ft.lt y)
  omega
 by_cases hl:i<fs.length
 ·have:=((h.ok i hl).keep s1).more (D':=λ k=>D k\/D2 k) (λ k=>Or.inl)
  rw [show (fs++[f])[i]=fs[i] from List.getElem_append_left hl]
  exact this
 have e:i=fs.length:=by simp at hi; omega
 subst e
 have:=(ok.keep s2).more (D':=λ k=>D k\/D2 k) (λ k=>Or.inr)
 rw [show (fs++[f])[fs.length]=f by simp]
 exact this
structure bP {α:Type} (T:TypeId) (sz:Nat) (cl:α->List Value) (B:Nat) (P:Nat->World->α->Prop) (D:Nat->Prop) (sv:Value) (fs:List α) (w:World):Prop where
 o:w.ownsRow B T sz sv fs.length (fs.flatMap cl)
 ft:Ft D B w
 ne:∀k,D k->sv.ownBlock≠some k
 ok:∀i (h:i<fs.length),fR D w (λ w'=>P i w' fs[i])
theorem bP.fr {α:Type} {K:Nat->Prop} {T:TypeId} {sz:Nat} {cl:α->List Value} {B:Nat} {P:Nat->World->α->Prop} {D:Nat->Prop} {sv:Value} {fs:List α} {w w':World} (h:bP T sz cl B P D sv fs w) (f:Fr K w w') (hk:∀k,B<=k->¬K k):bP T sz cl B P D sv fs w':=by
 have s:=Sm.fr h.ft f hk
 refine ⟨?_,h.ft.keep s,h.ne,λ i hi=>(h.ok i hi).keep s⟩
 refine ⟨h.o.1,?_⟩
 rcases h.o.2 with x | ⟨k,cap,cur,h1,h2,h3,h4⟩
 ·exact Or.inl x
 exact Or.inr ⟨k,cap,cur,h1,h2,(f.block k (bH h3) (hk k h2)).trans h3,h4⟩
theorem bP.alloc {α:Type} {T:TypeId} {sz:Nat} {cl:α->List Value} {B:Nat} {P:Nat->World->α->Prop} {D:Nat->Prop} {sv:Value} {fs:List α} {w:World} (h:bP T sz cl B P D sv fs w) (o:Obj):bP T sz cl B P D sv fs (w.alloc o) :=
 h.fr (K:=λ_=>False) ((Fr.refl _ w).alloc o) (λ_ _ x=>x)
theorem bP.below {α:Type} {T:TypeId} {sz:Nat} {cl:α->List Value} {B:Nat} {P:Nat->World->α->Prop} {D:Nat->Prop} {sv:Value} {fs:List α} {w w':World} (h:bP T sz cl B P D sv fs w) (f:Below w.heap.size w w'):bP T sz cl B P D sv fs w' :=
 h.fr (K:=λ_=>False) (Fr.aL f) (λ_ _ x=>x)
theorem bP.low {α:Type} {T:TypeId} {sz:Nat} {cl:α->List Value} {B B':Nat} {P:Nat->World->α->Prop} {D:Nat->Prop} {sv:Value} {fs:List α} {w:World} (h:bP T sz cl B P D sv fs w) (hb:B'<=B):bP T sz cl B' P D sv fs w:=by
 refine ⟨?_,h.ft.low hb,h.ne,h.ok⟩
 refine ⟨h.o.1,?_⟩
 rcases h.o.2 with x | ⟨k,cap,cur,h1,h2,h3⟩
 ·exact Or.inl x
 exact Or.inr ⟨k,cap,cur,h1,Nat.le_trans hb h2,h3⟩
theorem bP.nil {α:Type} (T:TypeId) (sz:Nat) (cl:α->List Value) (B:Nat) (P:Nat->World->α->Prop) (w:World):bP T sz cl B P (λ_=>False) (.slice none 0 0) [] w :=
 ⟨World.ownsRow_nil _ _ _ _,Ft.none _ _,λ_ h=>h.elim,λ_ h=>absurd h (Nat.not_lt_zero _)⟩
theorem bP.sm {α:Type} {T:TypeId} {sz:Nat} {cl:α->List Value} {B:Nat} {P:Nat->World->α->Prop} {D:Nat->Prop} {sv:Value} {fs:List α} {w w':World} (h:bP T sz cl B P D sv fs w) (s:Sm (λ k=>D k\/sv.ownBlock=some k) w w'):bP T sz cl B P D sv fs w':=by
 have s1:Sm D w w':=λ k hk=>s k (Or.inl hk)
 refine ⟨?_,h.ft.keep s1,h.ne,λ i hi=>(h.ok i hi).keep s1⟩
 refine ⟨h.o.1,?_⟩
 rcases h.o.2 with x | ⟨k,cap,cur,h1,h2,h3,h4⟩
 ·exact Or.inl x
 exact Or.inr ⟨k,cap,cur,h1,h2,(s k (Or.inr (by rw [h1]; rfl))).trans h3,h4⟩
theorem bP.Hq {α:Type} {T:TypeId} {sz:Nat} {cl:α->List Value} {B:Nat} {P:Nat->World->α->Prop} {D:Nat->Prop} {sv:Value} {fs:List α} {w:World} (h:bP T sz cl B P D sv fs w) (hT:T≠5):Ft (λ k=>D k\/sv.ownBlock=some k) B w:=by
 refine h.ft.or ⟨λ k hk=>(h.o.lt k hk).1,λ k hk=>?_⟩
 rcases h.o.2 with ⟨x,_⟩ | ⟨k2,cap,cur,x1,_,x3,_⟩
 ·rw [x] at hk; cases hk
 rw [x1] at hk
 have e:k2=k:=Option.some.inj hk
 subst e
 exact ⟨cur,T,_,x3,hT⟩
theorem bP.one {α:Type} {T:TypeId} {sz:Nat} {cl:α->List Value} {B:Nat} {P:Nat->World->α->Prop} {D:Nat->Prop} {f:α} {w:World} (ft:Ft D B w) (ok:fR D w (λ w'=>P 0 w' f))
 (ho:(w.alloc (.cells (cl f).toArray T)).ownsRow B T sz (.slice (some ⟨w.heap.size,0,none⟩) 1 1) 1 ([f].flatMap cl)) :
 bP T sz cl B P D (.slice (some ⟨w.heap.size,0,none⟩) 1 1) [f] (w.alloc (.cells (cl f).toArray T)):=by
 have s:Sm D w (w.alloc (.cells (cl f).toArray T)):=Sm.fr (K:=λ_=>False) ft ((Fr.refl _ w).alloc _) (λ_ _ x=>x)
 refine ⟨ho,ft.keep s,λ k hk e=>?_,λ i hi=>?_⟩
 ·have h1:=ft.lt hk
  have h2:w.heap.size=k:=Option.some.inj e
  omega
 have e:i=0:=by simpa using hi
 subst e
 exact ok.keep s
theorem bP.push {α:Type} {T:TypeId} {sz:Nat} {cl:α->List Value} {B:Nat} {P:Nat->World->α->Prop} {D D2:Nat->Prop} {sv jG:Value} {fs:List α} {f:α} {W W':World} {A:Nat} (h:bP T sz cl B P D sv fs W) (hA:∀k,sv.ownBlock=some k->k<A) (hBA:B<=A)
 (ft:Ft D2 A W) (ok:fR D2 W (λ w'=>P fs.length w' f)) (ho:W'.ownsRow B T sz jG (fs.length+1) (fs.flatMap cl++cl f)) (hg:W.grownBy W' sv.ownBlock) (hb:jG.ownBlock=sv.ownBlock\/jG.ownBlock=some W.heap.size) :
 bP T sz cl B P (λ k=>D k\/D2 k) jG (fs++[f]) W':=by
 have n2:∀k,D2 k->sv.ownBlock≠some k:=λ k hk e=>by have h1:=hA k e; have h2:=ft.ge k hk; omega
 have s1:Sm D W W':=Sm.grown h.ft hg h.ne
 have s2:Sm D2 W W':=Sm.grown ft hg n2
 refine ⟨by simpa using ho,(h.ft.keep s1).or ((ft.keep s2).low hBA),λ k hk e=>?_,λ i hi=>?_⟩
 ·rcases hb with x | x
  ·rw [x] at e
   exact hk.elim (λ y=>h.ne k y e) (λ y=>n2 k y e)
  rw [x] at e
  have e2:W.heap.size=k:=Option.some.inj e
  have:k<W.heap.size:=hk.elim (λ y=>h.ft.lt y) (λ y=>ft.lt y)
  omega
 by_cases hl:i<fs.length
 ·have:=((h.ok i hl).keep s1).more (D':=λ k=>D k\/D2 k) (λ k=>Or.inl)
  rw [show (fs++[f])[i]=fs[i] from List.getElem_append_left hl]
  exact this
 have e:i=fs.length:=by simp at hi; omega
 subst e
 have:=(ok.keep s2).more (D':=λ k=>D k\/D2 k) (λ k=>Or.inr)
 rw [show (fs++[f])[fs.length]=f by simp]
 exact this
theorem Tt {w:World} {A:Nat->Nat} {t:Tv} {par:Value} {ix:Nat} {sv:Value} (h:PC w A t par ix sv) {b:Nat} {c:Kt} {sc pc:Value} (hb:ay w b (ld (cQ c) pc 0 sc) 130) (hc:qC c) :
 Calls Tryz.prog 294 #[.pointer (some ⟨A t.d.ai,0,none⟩),.pointer (some ⟨b,0,none⟩)] w λ r w'=>r=.returned (.bool (fy c (some t)))/\∃k,w'=w.drewN k:=by
 have E:fy c (some t)=_:=Oa h.d hc
 rw [E]
 have c0:w.cell? ⟨A t.d.ai,0,none⟩=some (.int .i64 (e_ t.d:Nat)):=h.b.cell 0
 have c3:w.cell? ⟨A t.d.ai,3,none⟩=some (.int .i64 t.d.n):=h.b.cell 3
 have c4:w.cell? ⟨A t.d.ai,4,none⟩=some (.string (bZ (jX t.d))):=h.b.cell 4
 have d0:w.cell? ⟨b,0,none⟩=some (.int .i64 (e_ (cQ c):Nat)):=hb.cell 0
 have d3:w.cell? ⟨b,3,none⟩=some (.int .i64 c.n):=hb.cell 3
 have d4:w.cell? ⟨b,4,none⟩=some (.string (bZ (jX (cQ c)))):=hb.cell 4
 have HS:Hid (Go.Op.bytesLess (bZ (jX t.d)).toList (bZ (jX (cQ c))).toList=gG (jX t.d) (jX (cQ c))):=by
  show _=_
  rw [nj,Lib.toList_data,Lib.toList_data]
  rfl
 clear h hb hc E
 generalize e_ t.d=k1 at *
 generalize e_ (cQ c)=k2 at *
 generalize hq:gG (jX t.d) (jX (cQ c))=bq at *
 generalize jX t.d=x1 at *
 generalize jX (cQ c)=x2 at *
 generalize t.d.n=n1 at *
 generalize c.n=n2 at *
 clear hq
 by_cases h12:k1=k2
 ·subst h12
  rw [if_pos rfl]
  by_cases h3:k1=3
  ·subst h3
   clear HS c4 d4
   rw [if_pos rfl]
   go_enter Tryz.func294,Tryz.ntmps294
   go_wp2
   go_quiet (fail)
   go_wp2
   go_quiet (fail)
   go_wp2
   go_ret
   exact ⟨rfl,_,by rw [dW]⟩
  rw [if_neg h3]
  have e3:=yQ h3
  by_cases h4:k1=4
  ·subst h4
   rw [if_pos rfl,<-HS.out]
   clear HS
   go_enter Tryz.func294,Tryz.ntmps294
   go_wp2
   go_quiet (fail)
   go_wp2
   go_quiet (fail)
   go_wp2
   go_ret
   exact ⟨rfl,_,by rw [dW]⟩
  rw [if_neg h4]
  have e4:=yQ h4
  clear HS c4 d4 c3 d3
  go_enter Tryz.func294,Tryz.ntmps294
  go_wp2
  go_quiet (fail)
  go_wp2
  go_ret
  exact ⟨rfl,_,rfl⟩
 rw [if_neg h12]
 have WC:((k1:Int) != (k2:Int))=true:=by rw [bne_iff_ne]; omega
 clear HS c4 d4 c3 d3
 go_enter Tryz.func294,Tryz.ntmps294
 go_wp2
 go_quiet (fail)
 go_wp2
 go_ret
 exact ⟨rfl,_,rfl⟩
def dh (w:World) (f:Value) (φ:Tv->Bool):Prop:=∃N cap,f=.func (.func N) #[] cap/\(∀args w,(callFunc N args).run Tryz.prog w=.ok (.enter N args) w)/\∀(A:Nat->Nat) (D:Nat->Prop) (n:Nat) (par:Value) (ix:Nat) (t:Tv),PT w A D n par ix t ->
 ∀q,Calls Tryz.prog N (#[.pointer (some ⟨A t.d.ai,0,none⟩)]++cap) (w.drewN q) λ r w'=>r=.returned (.bool (φ t))/\∃k,w'=w.drewN k
theorem VQ {w:World} {f:Value} {φ:Tv->Bool} (h:dh w f φ) {b:Nat} (hb:ay w b #[f] 237):dh w (.func (.func 281) #[] #[.pointer (some ⟨b,0,none⟩)]) (λ t=>!(φ t)):=by
 obtain ⟨N,cap,rfl,hE,hN⟩:=h
 refine ⟨_,_,rfl,λ_ _=>rfl,λ A D n par ix t ht q=>?_⟩
 have c0:w.cell? ⟨b,0,none⟩=some (.func (.func N) #[] cap):=hb.cell 0
 have H:=aa (hN A D n par ix t ht)
 clear hN hb ht
 show Calls Tryz.prog 281 #[.pointer (some ⟨A t.d.ai,0,none⟩),.pointer (some ⟨b,0,none⟩)] _ _
 go_enter Tryz.func281,Tryz.ntmps281
 go_wp2_with fail
 refine (H.out _).mono ?_
 rintro r w1 ⟨rfl,k1,rfl⟩
 go_wp2
 go_ret
 exact ⟨rfl,k1,rfl⟩
theorem VR {w:World} {sv:Value} {fs:List Value} {φs:List (Tv->Bool)} {B:Nat} (ho:w.ownsRow B 237 1 sv fs.length fs) (hj:fs.length<=1000) (hl:φs.length=fs.length)
 (h:∀i (h1:i<fs.length) (h2:i<φs.length),dh w fs[i] φs[i]) {b:Nat} (hb:ay w b #[sv] 300):dh w (.func (.func 267) #[] #[.pointer (some ⟨b,0,none⟩)]) (λ t=>φs.any (λ φ=>φ t)):=by
 refine ⟨_,_,rfl,λ_ _=>rfl,λ A D n par ix t ht q=>?_⟩
 have c0:w.cell? ⟨b,0,none⟩=some sv:=hb.cell 0
 have HH:=aa h
 have HT:=aa ht
 obtain ⟨j,jU⟩:∃j,j=fs.length:=⟨_,rfl⟩
 rw [<-jU] at hj ho hl
 obtain ⟨v0,y_,rfl⟩:=ah ho
 have HO:=aa ho
 have HJ:=aa jU
 have HL:=aa hl
 clear h hb ht ho jU hl
 show Calls Tryz.prog 267 #[.pointer (some ⟨A t.d.ai,0,none⟩),.pointer (some ⟨b,0,none⟩)] _ _
 go_enter Tryz.func267,Tryz.ntmps267
 go_wp2
 go_loopw [5,8] (λ_ i wr=>∃k q:Nat,k<=j/\i=.int .i64 k/\(∀m (hm:m<φs.length),m<k->φs[m] t=false)/\wr=w.drewN q) (λ_ i _=>j - (intOf i).toNat)
 case atStart=>exact ⟨0,q,Nat.zero_le _,rfl,λ_ _ h=>absurd h (Nat.not_lt_zero _),rfl⟩
 case round =>
  obtain ⟨k,q,hk,rfl,hno,rfl⟩:=hrel
  have NO:=aa hno
  clear hno
  by_cases hlt:k<j
  ·have hlf:k<fs.length:=by have:=HJ.out; omega
   have vo:k<φs.length:=by have:=HL.out; omega
   obtain ⟨g,cap,hv,Bg,qg⟩:=HO.out.form (by omega)
   simp only [Value.slice.injEq,true_and] at hv
   obtain ⟨rfl,rfl⟩:=hv
   have hcell:w.cell? ⟨g,k,none⟩=some fs[k]:=(HO.out.cellAt k (by omega)).trans (List.getElem?_eq_getElem hlf)
   obtain ⟨N,cp,he,hE,hN⟩:=HH.out k hlf vo
   rw [he] at hcell
   have H:=aa (hN A D n par ix t HT.out)
   have HY:Hid (φs[k] t=true->φs.any (λ φ=>φ t)=true):=λ e=>List.any_eq_true.2 ⟨_,List.getElem_mem vo,e⟩
   have HN:Hid (φs[k] t=false->∀m (hm:m<φs.length),m<k+1->φs[m] t=false):=λ e m hm hmk=>by
    by_cases x:m=k
    ·subst x; exact e
    exact NO.out m hm (by omega)
   clear hN he
   generalize φs[k] t=bb at *
   cases bb
   ·go_wp2_with fail
    refine (H.out _).mono ?_
    rintro r w1 ⟨rfl,k1,rfl⟩
    go_wp2
    go_roundw
    case rel=>exact ⟨k+1,k1,by omega,by go_num,HN.out (by trivial),rfl⟩
    case measure=>simp [intOf]; omega
   go_wp2_with fail
   refine (H.out _).mono ?_
   rintro r w1 ⟨rfl,k1,rfl⟩
   go_wp2
   go_ret
   exact ⟨by rw [HY.out (by trivial)]; rfl,k1,rfl⟩
  have HR:Hid (φs.any (λ φ=>φ t)=false):=by
   show _=_
   rw [List.any_eq_false]; intro φ hφ; obtain ⟨m,hm,rfl⟩:=List.getElem_of_mem hφ; rw [NO.out m hm (by have:=HL.out; omega)]; decide
  go_wp2
  go_ret
  exact ⟨by rw [HR.out]; rfl,q,rfl⟩
theorem Rc {w:World} {sv:Value} {fs:List Value} {φs:List (Tv->Bool)} {B:Nat} (ho:w.ownsRow B 237 1 sv fs.length fs) (hj:fs.length<=1000) (hl:φs.length=fs.length)
 (h:∀i (h1:i<fs.length) (h2:i<φs.length),dh w fs[i] φs[i]) {b:Nat} (hb:ay w b #[sv] 300):dh w (.func (.func 278) #[] #[.pointer (some ⟨b,0,none⟩)]) (λ t=>φs.all (λ φ=>φ t)):=by
 refine ⟨_,_,rfl,λ_ _=>rfl,λ A D n par ix t ht q=>?_⟩
 have c0:w.cell? ⟨b,0,none⟩=some sv:=hb.cell 0
 have HH:=aa h
 have HT:=aa ht
 obtain ⟨j,jU⟩:∃j,j=fs.length:=⟨_,rfl⟩
 rw [<-jU] at hj ho hl
 obtain ⟨v0,y_,rfl⟩:=ah ho
 have HO:=aa ho
 have HJ:=aa jU
 have HL:=aa hl
 clear h hb ht ho jU hl
 show Calls Tryz.prog 278 #[.pointer (some ⟨A t.d.ai,0,none⟩),.pointer (some ⟨b,0,none⟩)] _ _
 go_enter Tryz.func278,Tryz.ntmps278
 go_wp2
 go_loopw [5,8] (λ_ i wr=>∃k q:Nat,k<=j/\i=.int .i64 k/\(∀m (hm:m<φs.length),m<k->φs[m] t=true)/\wr=w.drewN q) (λ_ i _=>j - (intOf i).toNat)
 case atStart=>exact ⟨0,q,Nat.zero_le _,rfl,λ_ _ h=>absurd h (Nat.not_lt_zero _),rfl⟩
 case round =>
  obtain ⟨k,q,hk,rfl,hno,rfl⟩:=hrel
  have NO:=aa hno
  clear hno
  by_cases hlt:k<j
  ·have hlf:k<fs.length:=by have:=HJ.out; omega
   have vo:k<φs.length:=by have:=HL.out; omega
   obtain ⟨g,cap,hv,Bg,qg⟩:=HO.out.form (by omega)
   simp only [Value.slice.injEq,true_and] at hv
   obtain ⟨rfl,rfl⟩:=hv
   have hcell:w.cell? ⟨g,k,none⟩=some fs[k]:=(HO.out.cellAt k (by omega)).trans (List.getElem?_eq_getElem hlf)
   obtain ⟨N,cp,he,hE,hN⟩:=HH.out k hlf vo
   rw [he] at hcell
   have H:=aa (hN A D n par ix t HT.out)
   have HY:Hid (φs[k] t=false->φs.all (λ φ=>φ t)=false):=λ e=>by rw [Bool.eq_false_iff]; intro x; rw [List.all_eq_true] at x; have:=x _ (List.getElem_mem vo); rw [e] at this; cases this
   have HN:Hid (φs[k] t=true->∀m (hm:m<φs.length),m<k+1->φs[m] t=true):=λ e m hm hmk=>by
    by_cases x:m=k
    ·subst x; exact e
    exact NO.out m hm (by omega)
   clear hN he
   generalize φs[k] t=bb at *
   cases bb
   ·go_wp2_with fail
    refine (H.out _).mono ?_
    rintro r w1 ⟨rfl,k1,rfl⟩
    go_wp2
    go_ret
    exact ⟨by rw [HY.out (by trivial)]; rfl,k1,rfl⟩
   go_wp2_with fail
   refine (H.out _).mono ?_
   rintro r w1 ⟨rfl,k1,rfl⟩
   go_wp2
   go_roundw
   case rel=>exact ⟨k+1,k1,by omega,by go_num,HN.out (by trivial),rfl⟩
   case measure=>simp [intOf]; omega
  have HR:Hid (φs.all (λ φ=>φ t)=true):=by
   show _=_
   rw [List.all_eq_true]; intro φ hφ; obtain ⟨m,hm,rfl⟩:=List.getElem_of_mem hφ; exact NO.out m hm (by have:=HL.out; omega)
  go_wp2
  go_ret
  exact ⟨by rw [HR.out]; rfl,q,rfl⟩
end Go.Proofs.YtcbadebjpogmlaaGreatDoor
