import Derived.Test.YtcbadebjpogmlaaGreatDoorVsRefF
import Derived.Test.YtcbadebjpogmlaaGreatDoorVsRefA
import Derived.Lib.Builder
import Derived.Lib.AppendStr
import Derived.Lib.UnsafeStr
import Derived.Lib.Strings
import Derived.Shelf.RegionOpenPlain
import Derived.Test.YtcbadebjpogmlaaGreatDoorVsBase
import Derived.Lib.AtoiErrMem
import Derived.Test.YtcbadebjpogmlaaGreatDoorVsPlain7
set_option maxHeartbeats 2000000
set_option maxRecDepth 100000
namespace Go.Proofs.YtcbadebjpogmlaaGreatDoor
open Go.RowKit Tr
theorem pz {w:World} (s p:ByteArray) :
 Calls Tryz.prog 157 #[.string s,.string p] w λ r w'=>r=.returned (.bool ((bs p).isPrefixOf (bs s)))/\w'=w:=by
 have e:(decide (p.size<=s.size) && ((bs s).take p.size == bs p))=(bs p).isPrefixOf (bs s):=by
  rw [<-an p,<-an s]; exact Lib.hasPrefix_of_take (bs s) (bs p)
 rw [<-e]
 clear e
 go_enter Tryz.func157,Tryz.ntmps157
 go_wp2
 ·rename_i h
  go_ret
  refine ⟨?_,rfl⟩
  show Ending.returned (Value.bool ((s.extract 0 p.size).toList == p.toList))=_
  rw [Lib.extract_toList,Lib.toList_data]
  simp [h,bs]
 rename_i h
 go_ret
 refine ⟨?_,rfl⟩
 show Ending.returned (Value.bool false)=_
 simp [h]
theorem gY {w:World} (s p:ByteArray) :
 Calls Tryz.prog 113 #[.string s,.string p] w λ r w'=>r=.returned (.bool ((bs p).isPrefixOf (bs s)))/\w'=w:=by
 go_enter Tryz.func113,Tryz.ntmps113
 go_wp2_with fail
 refine (pz _ _).mono ?_
 rintro r w' ⟨rfl,rfl⟩
 go_wp2
 go_ret
 exact ⟨rfl,rfl⟩
def L6 (q:ByteArray) (at':Nat) (p v:Value) (n:Nat):Array Value:=#[.string q,.int .i64 (at':Nat),p,v,.int .i64 (n:Nat)]
def tk (q:ByteArray) (a:Nat) (sign:ByteArray):Bool:=(bs sign).isPrefixOf ((bs q).drop a)
theorem VK {q:ByteArray} {a:Nat} {sign:ByteArray} (h:tk q a sign=true) (ha:a<=q.size):a+sign.size<=q.size:=by
 unfold tk at h
 have:=(List.isPrefixOf_iff_prefix.1 h).length_le
 rw [List.length_drop,an,an] at this
 omega
theorem qw (q:ByteArray) (a:Nat) (sign:ByteArray):(bs sign).isPrefixOf (bs (q.extract a q.size))=tk q a sign:=by
 unfold tk
 have:bs (q.extract a q.size)=(bs q).drop a:=by
  have e:=Lib.extract_toList q a q.size
  rw [Lib.toList_data] at e
  unfold bs
  rw [e,List.take_of_length_le (by simp)]
 rw [this]
structure Qt (g:Nat) (q:ByteArray) (p v:Value) (n:Nat) (w:World) (a:Nat) (w':World):Prop where
 b:ay w' g (L6 q a p v n) 141
 f:Fr (λ k=>k=g) w w'
 le:a<=q.size
theorem Qt.drewN {g:Nat} {q:ByteArray} {p v:Value} {n:Nat} {w0 w:World} {a:Nat} (h:Qt g q p v n w0 a w) (k:Nat):Qt g q p v n w0 a (w.drewN k):=⟨h.b,h.f.drewN k,h.le⟩
theorem Qt.at_ {g:Nat} {q:ByteArray} {p v:Value} {n:Nat} {w0 w:World} {a k:Nat} (h:Qt g q p v n w0 a w) (hk:k<=q.size):Qt g q p v n w0 k (w.setCell ⟨g,1,none⟩ (.int .i64 (k:Nat))) :=
 ⟨h.b.set 1 _,h.f.setCell _ (Or.inl rfl) _,hk⟩
theorem lB {w0 w:World} {g:Nat} {q:ByteArray} {a:Nat} {p v:Value} {n:Nat} (h:Qt g q p v n w0 a w) (hq:q.size<=1000) (sign:ByteArray) :
 Calls Tryz.prog 85 #[.pointer (some ⟨g,0,none⟩),.string sign] w λ r w'=>r=.returned (.bool (tk q a sign))/\Qt g q p v n w0 (if tk q a sign then a+sign.size else a) w':=by
 have H:=aa h
 have c0:w.cell? ⟨g,0,none⟩=some (.string q):=h.b.cell 0
 have c1:w.cell? ⟨g,1,none⟩=some (.int .i64 (a:Nat)):=h.b.cell 1
 have f1:=h.b.fz 1
 have e1:(a:Int)<=(q.size:Int):=by have:=h.le; omega
 have hle:Hid (tk q a sign=true->a+sign.size<=q.size):=λ x=>VK x h.le
 clear h
 by_cases ht:tk q a sign=true
 ·have hkl:a+sign.size<=q.size:=hle.out ht
  rw [ht,if_pos rfl]
  clear hle
  go_enter Tryz.func85,Tryz.ntmps85
  go_wp2_with fail
  go_quiet ((go_at_call 113; exact Calls.quiet_of_same (gY _ _)))
  rw [qw,ht]
  have H1:Hid (Qt g q p v n w0 a (w.drewN nq)):=H.out.drewN nq
  clear H c0 c1 f1
  generalize w.drewN nq=w1 at *
  have c1:w1.cell? ⟨g,1,none⟩=some (.int .i64 (a:Nat)):=H1.out.b.cell 1
  have f1:=H1.out.b.fz 1
  go_wp2
  go_ret
  exact ⟨rfl,H1.out.at_ hkl⟩
 have ht:tk q a sign=false:=by simpa using ht
 rw [ht]
 go_enter Tryz.func85,Tryz.ntmps85
 go_wp2_with fail
 go_quiet ((go_at_call 113; exact Calls.quiet_of_same (gY _ _)))
 rw [qw,ht]
 go_wp2
 go_ret
 exact ⟨rfl,H.out.b,H.out.f.drewN _,H.out.le⟩
theorem Df (c:Nat):(((bL c:Nat):Int) == 1)=isLet c:=by
 unfold bL
 split
 ·simp_all
 split
 ·simp_all
 split
 ·simp_all
 split<;>simp_all
theorem Dg (c:Nat):((((bL c:Nat):Int) == 2) || (((bL c:Nat):Int) == 3))=af c:=by
 unfold bL
 split
 ·rename_i h
  simp [isLet] at h
  have:af c=false:=by simp [af]; omega
  rw [this]; decide
 split
 ·rename_i h; subst h; decide
 split
 ·simp_all
 split<;>simp_all
theorem Dh (c:Nat):(!(((bL c:Nat):Int) == 0))=aO c:=by
 unfold bL aO
 split
 ·simp_all
 split
 ·rename_i h; subst h; decide
 split
 ·simp_all
 split<;>simp_all
theorem zG {w:World} (c:Nat) (hc:c<256):Calls Tryz.prog 193 #[.int .u8 (c:Int)] w λ r w'=>r=.returned (.bool (isLet c))/\w'=w:=by
 rw [<-Df]
 go_enter Tryz.func193,Tryz.ntmps193
 go_wp2_with fail
 refine (cZ c hc).mono ?_
 rintro r w' ⟨rfl,rfl⟩
 go_wp2
 go_ret
 exact ⟨rfl,rfl⟩
theorem zH {w:World} (c:Nat) (hc:c<256):Calls Tryz.prog 195 #[.int .u8 (c:Int)] w λ r w'=>r=.returned (.bool (aO c))/\w'=w:=by
 rw [<-Dh]
 go_enter Tryz.func195,Tryz.ntmps195
 go_wp2_with fail
 refine (cZ c hc).mono ?_
 rintro r w' ⟨rfl,rfl⟩
 go_wp2
 go_ret
 exact ⟨rfl,rfl⟩
theorem zI {w:World} (c k:Nat) (hk:∀w:World,Calls Tryz.prog 147 #[.int .u8 (c:Int)] w λ r w'=>r=.returned (.int .i64 (k:Nat))/\w'=w) (h2:k≠2) :
 Calls Tryz.prog 194 #[.int .u8 (c:Int)] w λ r w'=>r=.returned (.bool ((((k:Nat):Int) == 2) || (((k:Nat):Int) == 3)))/\w'=w:=by
 have H:=aa hk
 have h3:¬((k:Nat):Int)=2:=by omega
 clear hk h2
 go_enter Tryz.func194,Tryz.ntmps194
 go_wp2_with fail
 refine (H.out _).mono ?_
 rintro r w' ⟨rfl,rfl⟩
 go_wp2_with fail
 refine (H.out _).mono ?_
 rintro r w' ⟨rfl,rfl⟩
 go_wp2
 go_ret
 exact ⟨rfl,rfl⟩
theorem zJ {w:World} (c:Nat) (hk:∀w:World,Calls Tryz.prog 147 #[.int .u8 (c:Int)] w λ r w'=>r=.returned (.int .i64 2)/\w'=w) :
 Calls Tryz.prog 194 #[.int .u8 (c:Int)] w λ r w'=>r=.returned (.bool true)/\w'=w:=by
 have H:=aa hk
 clear hk
 go_enter Tryz.func194,Tryz.ntmps194
 go_wp2_with fail
 refine (H.out _).mono ?_
 rintro r w' ⟨rfl,rfl⟩
 go_wp2
 go_ret
 exact ⟨rfl,rfl⟩
theorem Di {w:World} (c:Nat) (hc:c<256):Calls Tryz.prog 194 #[.int .u8 (c:Int)] w λ r w'=>r=.returned (.bool (af c))/\w'=w:=by
 rw [<-Dg]
 by_cases h:bL c=2
 ·rw [h]
  refine zJ c (λ w=>?_)
  have:=cZ (w:=w) c hc
  rw [h] at this
  exact this
 exact zI c (bL c) (λ w=>cZ c hc) h
def mA (g:Nat) (w:World):Nat:=match w.cell? ⟨g,1,none⟩ with | some (.int _ n)=>n.toNat | _=>0
theorem Qt.mA {g:Nat} {q:ByteArray} {p v:Value} {n:Nat} {w0 w:World} {a:Nat} (h:Qt g q p v n w0 a w):mA g w=a:=by
 have c1:w.cell? ⟨g,1,none⟩=some (.int .i64 (a:Nat)):=h.b.cell 1
 simp [Go.Proofs.YtcbadebjpogmlaaGreatDoor.mA,c1]
theorem nI {q:ByteArray} {i:Nat} (h:i<q.size):bt (bs q) i=(q[i]).toNat:=by
 have e:(bs q)[i]?=some q[i]:=by
  unfold bs
  rw [List.getElem?_eq_getElem (by simpa using h)]
  rfl
 unfold bt
 rw [e]
structure c_ (ok:Nat->Bool) (q:ByteArray) (a k:Nat):Prop where
 ge:a<=k
 le:k<=q.size
 all:∀i,a<=i->i<k->ok (bt (bs q) i)=true
 stop:k<q.size->ok (bt (bs q) k)=false
theorem kS {w0 w:World} {g:Nat} {q:ByteArray} {a:Nat} {p v:Value} {n:Nat} (h:Qt g q p v n w0 a w) (hq:q.size<=1000) :
 Calls Tryz.prog 204 #[.pointer (some ⟨g,0,none⟩),.func (.func 193) #[] #[]] w λ r w'=>∃k,c_ isLet q a k/\r=.returned (.string (q.extract a k))/\Qt g q p v n w0 k w':=by
 have H:=aa h
 have c0:w.cell? ⟨g,0,none⟩=some (.string q):=h.b.cell 0
 have c1:w.cell? ⟨g,1,none⟩=some (.int .i64 (a:Nat)):=h.b.cell 1
 have hle:=h.le
 clear h
 go_enter Tryz.func204,Tryz.ntmps204
 go_wp2
 go_loopw [10] (λ_ wr=>∃k:Nat,a<=k/\k<=q.size/\(∀i,a<=i->i<k->isLet (bt (bs q) i)=true)/\Qt g q p v n w0 k wr) (λ_ wr=>q.size - mA g wr)
 case atStart=>exact ⟨a,Nat.le_refl _,hle,λ i h1 h2=>by omega,H.out⟩
 case round =>
  obtain ⟨k,OU,wT,hall,hQ⟩:=hrel
  have HA:=aa hall
  have HQ:=aa hQ
  clear hall hQ c0 c1 H
  have c0:wr.cell? ⟨g,0,none⟩=some (.string q):=HQ.out.b.cell 0
  have c1:wr.cell? ⟨g,1,none⟩=some (.int .i64 (k:Nat)):=HQ.out.b.cell 1
  have f1:=HQ.out.b.fz 1
  by_cases hlt:k<q.size
  ·have HC:Hid (∀w':World,Calls Tryz.prog 193 #[.int .u8 ((q[k]).toNat:Int)] w' λ r w2=>r=.returned (.bool (isLet (q[k]).toNat))/\w2=w'):=λ w'=>zG _ (q[k]).toNat_lt
   have eb:=nI hlt
   go_wp2_with fail
   go_quiet ((go_at_call 193; exact Calls.quiet_of_same (HC.out _)))
   have H1:Hid (Qt g q p v n w0 k (wr.drewN nq)):=HQ.out.drewN nq
   rw [<-eb]
   have HM:=aa HQ.out.mA
   clear HQ c0 c1 f1 eb HC
   generalize wr.drewN nq=w1 at *
   have c0:w1.cell? ⟨g,0,none⟩=some (.string q):=H1.out.b.cell 0
   have c1:w1.cell? ⟨g,1,none⟩=some (.int .i64 (k:Nat)):=H1.out.b.cell 1
   have f1:=H1.out.b.fz 1
   by_cases ho:isLet (bt (bs q) k)=true
   ·have HO:=aa ho
    rw [ho]
    clear ho
    go_wp2
    go_roundw
    case rel =>
     exact ⟨k+1,by omega,by omega,λ i h1 h2=>by
      by_cases e:i=k
      ·subst e; exact HO.out
      exact HA.out i h1 (by omega),H1.out.at_ (k:=k+1) (by omega)⟩
    case measure =>
     have e1:mA g wr=k:=HM.out
     have e2:mA g (w1.setCell ⟨g,1,none⟩ (.int .i64 ((k+1:Nat):Int)))=k+1:=(H1.out.at_ (k:=k+1) (by omega)).mA
     rw [e1]
     simp at e2 ⊢
     omega
   have ho:isLet (bt (bs q) k)=false:=by simpa using ho
   have HO:=aa ho
   rw [ho]
   clear ho
   go_wp2
   go_quiet (fail)
   go_wp2
   go_ret
   exact ⟨k,⟨OU,wT,HA.out,λ_=>HO.out⟩,rfl,H1.out.drewN _⟩
  have hk:k=q.size:=by omega
  subst hk
  go_wp2_with fail
  go_quiet (fail)
  go_wp2
  go_quiet (fail)
  go_wp2
  go_ret
  exact ⟨q.size,⟨OU,wT,HA.out,λ h=>absurd h (Nat.lt_irrefl _)⟩,rfl,(HQ.out.drewN _).drewN _⟩
theorem rY {w0 w:World} {g:Nat} {q:ByteArray} {a:Nat} {p v:Value} {n:Nat} (h:Qt g q p v n w0 a w) (hq:q.size<=1000) :
 Calls Tryz.prog 204 #[.pointer (some ⟨g,0,none⟩),.func (.func 194) #[] #[]] w λ r w'=>∃k,c_ af q a k/\r=.returned (.string (q.extract a k))/\Qt g q p v n w0 k w':=by
 have H:=aa h
 have c0:w.cell? ⟨g,0,none⟩=some (.string q):=h.b.cell 0
 have c1:w.cell? ⟨g,1,none⟩=some (.int .i64 (a:Nat)):=h.b.cell 1
 have hle:=h.le
 clear h
 go_enter Tryz.func204,Tryz.ntmps204
 go_wp2
 go_loopw [10] (λ_ wr=>∃k:Nat,a<=k/\k<=q.size/\(∀i,a<=i->i<k->af (bt (bs q) i)=true)/\Qt g q p v n w0 k wr) (λ_ wr=>q.size - mA g wr)
 case atStart=>exact ⟨a,Nat.le_refl _,hle,λ i h1 h2=>by omega,H.out⟩
 case round =>
  obtain ⟨k,OU,wT,hall,hQ⟩:=hrel
  have HA:=aa hall
  have HQ:=aa hQ
  clear hall hQ c0 c1 H
  have c0:wr.cell? ⟨g,0,none⟩=some (.string q):=HQ.out.b.cell 0
  have c1:wr.cell? ⟨g,1,none⟩=some (.int .i64 (k:Nat)):=HQ.out.b.cell 1
  have f1:=HQ.out.b.fz 1
  by_cases hlt:k<q.size
  ·have HC:Hid (∀w':World,Calls Tryz.prog 194 #[.int .u8 ((q[k]).toNat:Int)] w' λ r w2=>r=.returned (.bool (af (q[k]).toNat))/\w2=w'):=λ w'=>Di _ (q[k]).toNat_lt
   have eb:=nI hlt
   go_wp2_with fail
   go_quiet ((go_at_call 194; exact Calls.quiet_of_same (HC.out _)))
   have H1:Hid (Qt g q p v n w0 k (wr.drewN nq)):=HQ.out.drewN nq
   rw [<-eb]
   have HM:=aa HQ.out.mA
   clear HQ c0 c1 f1 eb HC
   generalize wr.drewN nq=w1 at *
   have c0:w1.cell? ⟨g,0,none⟩=some (.string q):=H1.out.b.cell 0
   have c1:w1.cell? ⟨g,1,none⟩=some (.int .i64 (k:Nat)):=H1.out.b.cell 1
   have f1:=H1.out.b.fz 1
   by_cases ho:af (bt (bs q) k)=true
   ·have HO:=aa ho
    rw [ho]
    clear ho
    go_wp2
    go_roundw
    case rel =>
     exact ⟨k+1,by omega,by omega,λ i h1 h2=>by
      by_cases e:i=k
      ·subst e; exact HO.out
      exact HA.out i h1 (by omega),H1.out.at_ (k:=k+1) (by omega)⟩
    case measure =>
     have e1:mA g wr=k:=HM.out
     have e2:mA g (w1.setCell ⟨g,1,none⟩ (.int .i64 ((k+1:Nat):Int)))=k+1:=(H1.out.at_ (k:=k+1) (by omega)).mA
     rw [e1]
     simp at e2 ⊢
     omega
   have ho:af (bt (bs q) k)=false:=by simpa using ho
   have HO:=aa ho
   rw [ho]
   clear ho
   go_wp2
   go_quiet (fail)
   go_wp2
   go_ret
   exact ⟨k,⟨OU,wT,HA.out,λ_=>HO.out⟩,rfl,H1.out.drewN _⟩
  have hk:k=q.size:=by omega
  subst hk
  go_wp2_with fail
  go_quiet (fail)
  go_wp2
  go_quiet (fail)
  go_wp2
  go_ret
  exact ⟨q.size,⟨OU,wT,HA.out,λ h=>absurd h (Nat.lt_irrefl _)⟩,rfl,(HQ.out.drewN _).drewN _⟩
theorem qy {w0 w:World} {g:Nat} {q:ByteArray} {a:Nat} {p v:Value} {n:Nat} (h:Qt g q p v n w0 a w) (hq:q.size<=1000) :
 Calls Tryz.prog 204 #[.pointer (some ⟨g,0,none⟩),.func (.func 195) #[] #[]] w λ r w'=>∃k,c_ aO q a k/\r=.returned (.string (q.extract a k))/\Qt g q p v n w0 k w':=by
 have H:=aa h
 have c0:w.cell? ⟨g,0,none⟩=some (.string q):=h.b.cell 0
 have c1:w.cell? ⟨g,1,none⟩=some (.int .i64 (a:Nat)):=h.b.cell 1
 have hle:=h.le
 clear h
 go_enter Tryz.func204,Tryz.ntmps204
 go_wp2
 go_loopw [10] (λ_ wr=>∃k:Nat,a<=k/\k<=q.size/\(∀i,a<=i->i<k->aO (bt (bs q) i)=true)/\Qt g q p v n w0 k wr) (λ_ wr=>q.size - mA g wr)
 case atStart=>exact ⟨a,Nat.le_refl _,hle,λ i h1 h2=>by omega,H.out⟩
 case round =>
  obtain ⟨k,OU,wT,hall,hQ⟩:=hrel
  have HA:=aa hall
  have HQ:=aa hQ
  clear hall hQ c0 c1 H
  have c0:wr.cell? ⟨g,0,none⟩=some (.string q):=HQ.out.b.cell 0
  have c1:wr.cell? ⟨g,1,none⟩=some (.int .i64 (k:Nat)):=HQ.out.b.cell 1
  have f1:=HQ.out.b.fz 1
  by_cases hlt:k<q.size
  ·have HC:Hid (∀w':World,Calls Tryz.prog 195 #[.int .u8 ((q[k]).toNat:Int)] w' λ r w2=>r=.returned (.bool (aO (q[k]).toNat))/\w2=w'):=λ w'=>zH _ (q[k]).toNat_lt
   have eb:=nI hlt
   go_wp2_with fail
   go_quiet ((go_at_call 195; exact Calls.quiet_of_same (HC.out _)))
   have H1:Hid (Qt g q p v n w0 k (wr.drewN nq)):=HQ.out.drewN nq
   rw [<-eb]
   have HM:=aa HQ.out.mA
   clear HQ c0 c1 f1 eb HC
   generalize wr.drewN nq=w1 at *
   have c0:w1.cell? ⟨g,0,none⟩=some (.string q):=H1.out.b.cell 0
   have c1:w1.cell? ⟨g,1,none⟩=some (.int .i64 (k:Nat)):=H1.out.b.cell 1
   have f1:=H1.out.b.fz 1
   by_cases ho:aO (bt (bs q) k)=true
   ·have HO:=aa ho
    rw [ho]
    clear ho
    go_wp2
    go_roundw
    case rel =>
     exact ⟨k+1,by omega,by omega,λ i h1 h2=>by
      by_cases e:i=k
      ·subst e; exact HO.out
      exact HA.out i h1 (by omega),H1.out.at_ (k:=k+1) (by omega)⟩
    case measure =>
     have e1:mA g wr=k:=HM.out
     have e2:mA g (w1.setCell ⟨g,1,none⟩ (.int .i64 ((k+1:Nat):Int)))=k+1:=(H1.out.at_ (k:=k+1) (by omega)).mA
     rw [e1]
     simp at e2 ⊢
     omega
   have ho:aO (bt (bs q) k)=false:=by simpa using ho
   have HO:=aa ho
   rw [ho]
   clear ho
   go_wp2
   go_quiet (fail)
   go_wp2
   go_ret
   exact ⟨k,⟨OU,wT,HA.out,λ_=>HO.out⟩,rfl,H1.out.drewN _⟩
  have hk:k=q.size:=by omega
  subst hk
  go_wp2_with fail
  go_quiet (fail)
  go_wp2
  go_quiet (fail)
  go_wp2
  go_ret
  exact ⟨q.size,⟨OU,wT,HA.out,λ h=>absurd h (Nat.lt_irrefl _)⟩,rfl,(HQ.out.drewN _).drewN _⟩
theorem wU {w0 w:World} {g:Nat} {q:ByteArray} {a:Nat} {p v:Value} {n:Nat} (h:Qt g q p v n w0 a w) (hq:q.size<=1000) :
 Calls Tryz.prog 241 #[.pointer (some ⟨g,0,none⟩)] w λ r w'=>∃k,c_ aO q a k/\r=.returned (.string (q.extract a k))/\Qt g q p v n w0 (if tk q k ⟨#[39]⟩ then k+1 else k) w':=by
 have H:=aa h
 clear h
 go_enter Tryz.func241,Tryz.ntmps241
 go_wp2_with fail
 refine (qy H.out hq).mono ?_
 rintro r w1 ⟨k,hk,rfl,h1⟩
 have H1:=aa h1
 have HK:=aa hk
 clear h1 hk H
 go_wp2_with fail
 refine (lB H1.out hq _).mono ?_
 rintro r w2 ⟨rfl,h2⟩
 have H2:=aa h2
 clear h2 H1
 go_wp2
 go_ret
 exact ⟨k,HK.out,rfl,H2.out⟩
theorem sizeBuilder:(Tryz.prog.info? 112).map (·.size)=some 2:=by kernel_rfl
theorem liesBuilder:liesAt Tryz.prog Tryz.prog.depth 141 (5 / Tryz.prog.cellsOf 141) 2 112 1=true:=by kernel_rfl
theorem infoByte:(Tryz.prog.info? 5).map (λ i=>(i.zero,i.size,i.bytes))=some (some (.int .u8 0),1,1):=by kernel_rfl
def Own (g:Nat) (p:Value):Prop:=p=.pointer none\/p=.pointer (some ⟨g,2,none⟩)
theorem nP {w:World} {g:Nat} {q:ByteArray} {a n:Nat} {v:Value} (h:ay w g (L6 q a (.pointer (some ⟨g,2,none⟩)) v n) 141) :
 Calls Tryz.prog 114 #[.pointer (some ⟨g,2,none⟩)] w λ r w'=>r=.returned (.tuple #[])/\w'=w:=by
 obtain ⟨j,hj,_⟩:=Option.map_eq_some_iff.1 sizeBuilder
 have c2:w.cell? ⟨g,2,none⟩=some (.pointer (some ⟨g,2,none⟩)):=h.cell 2
 clear h
 go_enter Tryz.func114,Tryz.ntmps114
 go_wp2
 rw [Lib.run_neq_ptr_same w _ Tryz.underlying109 hj]
 go_wp2
 go_end0
 exact ⟨rfl,rfl⟩
theorem mK {w:World} {g:Nat} {q:ByteArray} {a n:Nat} {v:Value} (h:ay w g (L6 q a (.pointer none) v n) 141) :
 Calls Tryz.prog 114 #[.pointer (some ⟨g,2,none⟩)] w λ r w'=>r=.returned (.tuple #[])/\w'=w.setCell ⟨g,2,none⟩ (.pointer (some ⟨g,2,none⟩)):=by
 obtain ⟨j,hj,hjs⟩:=Option.map_eq_some_iff.1 sizeBuilder
 have c2:w.cell? ⟨g,2,none⟩=some (.pointer none):=h.cell 2
 have f2:=h.fz 2
 have hsh:w.shape? g=some (141,5):=by unfold ay at h; simp [World.shape?,h,L6]
 clear h
 go_enter Tryz.func114,Tryz.ntmps114
 go_wp2
 rw [Lib.run_to_unsafe w ⟨g,2,none⟩ Tryz.underlying109 Tryz.underlying234 hj (by rw [hjs]; decide) hsh (by show 2<5; decide)]
 simp only [Result.andThen]
 rw [Oper.upon_value]
 go_wp2
 rw [run_callFunc_extern Tryz.func158 (by kernel_rfl) (by kernel_rfl) (by kernel_rfl) (e:=Extern.AbiNoEscape.same) (by kernel_rfl)]
 rw [Lib.run_noEscape]
 simp only [Result.andThen]
 rw [Oper.upon_value]
 go_wp2
 rw [Lib.run_from_unsafe w ⟨g,2,none⟩ Tryz.underlying234 Tryz.underlying109 hj hsh liesBuilder]
 simp only [Result.andThen]
 rw [Oper.upon_value]
 go_wp2
 go_end0
 exact ⟨rfl,rfl⟩
theorem wV {w:World} {g:Nat} {q:ByteArray} {a n:Nat} {p v:Value} (h:ay w g (L6 q a p v n) 141) (ho:Own g p) :
 Calls Tryz.prog 114 #[.pointer (some ⟨g,2,none⟩)] w λ r w'=>r=.returned (.tuple #[])/\ay w' g (L6 q a (.pointer (some ⟨g,2,none⟩)) v n) 141/\Fr (λ k=>k=g) w w':=by
 rcases ho with rfl | rfl
 ·refine (mK h).mono ?_
  rintro r w' ⟨rfl,rfl⟩
  exact ⟨rfl,h.set 2 _,(Fr.refl (λ k=>k=g) w).setCell ⟨g,2,none⟩ (Or.inl rfl) _⟩
 refine (nP h).mono ?_
 rintro r w' ⟨rfl,rfl⟩
 exact ⟨rfl,h,Fr.refl _ _⟩
def KG (g:Nat) (v:Value):Nat->Prop:=λ k=>k=g\/v.ownBlock=some k
structure Mk (g:Nat) (q:ByteArray) (a:Nat) (t:List UInt8) (n:Nat) (p v:Value) (w:World):Prop where
 b:ay w g (L6 q a p v n) 141
 o:Own g p
 row:w.ownsRow (g+1) 5 1 v t.length (Lib.byteCells t)
 le:a<=q.size
theorem uI {w:World} {B e n:Nat} {v:Value} {xs:List Value} (h:w.ownsRow B e 1 v n xs):∃ao cap,v=.slice ao n cap:=by
 rcases h.2 with ⟨hv,h0⟩ | ⟨g,cap,cur,hv,_⟩
 ·exact ⟨none,0,by rw [hv,h0]⟩
 exact ⟨_,_,hv⟩
theorem mL {w:World} {g:Nat} {q:ByteArray} {a:Nat} {t:List UInt8} {n:Nat} {p v:Value} (h:Mk g q a t n p v w) (s:ByteArray) (hlen:t.length+s.size<=1000000) :
 Calls Tryz.prog 86 #[.pointer (some ⟨g,2,none⟩),.string s] w λ r w'=>r=.returned (.tuple #[.int .i64 s.size,.nilIface]) /\
  ∃p' v',Mk g q a (t++bs s) n p' v' w'/\Fr (KG g v) w w':=by
 obtain ⟨i0,hi,hz0,hz1,dN⟩:=info_parts infoByte
 have H:=aa h
 have HI:=aa hi
 have ia:=aa hz0
 have gO:=aa hz1
 have ic:=aa dN
 clear h hi hz0 hz1 dN
 go_enter Tryz.func86,Tryz.ntmps86
 go_wp2_with fail
 refine (wV H.out.b H.out.o).mono ?_
 rintro r w1 ⟨rfl,b1,f1⟩
 have hg:=H.out.b.lt
 have hne:∀k,v.ownBlock=some k->g+1<=k/\k<w.heap.size:=λ k hk=>H.out.row.lt k hk
 have R1:Hid (w1.ownsRow (g+1) 5 1 v t.length (Lib.byteCells t)):=aW H.out.row f1 (λ k hk e=>by omega)
 have B1:=aa b1
 have F1:=aa f1
 have hs1:=f1.size
 have c3:w1.cell? ⟨g,3,none⟩=some v:=b1.cell 3
 clear b1 f1
 go_wp2_with (at_builtin; refine Lib.wpList_append_own_string _ rfl _ _ 110 9 rfl (g+1) 5 i0 Tryz.underlying110 Tryz.underlying9 HI.out ia.out gO.out ic.out _ _ _ rfl R1.out s rfl ?c3 ?c4 ?c5 ?_)
 case c3=>unfold maxLen; omega
 case c4=>omega
 case c5=>omega
 intro v' w2 qA hgrow _
 have B2:Hid (ay w2 g (L6 q a (.pointer (some ⟨g,2,none⟩)) v n) 141):=(hgrow.block g B1.out.lt (λ e=>by have:=hne g e.symm; omega)).trans B1.out
 have YB:w2.cell? ⟨g,3,none⟩=some v:=B2.out.cell 3
 have f3:=B2.out.fz 3
 have F2:Hid (Fr (KG g v) w w2):=(F1.out.mono (λ k _ e=>Or.inl e)).trans (Fr.grown (Fr.refl (KG g v) w1) hgrow (λ k hk=>Or.inr (Or.inr hk)))
 obtain ⟨ao,cap,rfl⟩:=uI qA
 have R2:=aa qA
 clear qA hgrow c3 hne
 go_wp2
 go_ret2
 refine ⟨rfl,.pointer (some ⟨g,2,none⟩),.slice ao (t.length+s.size) cap,⟨B2.out.set 3 _,Or.inr rfl,?_,H.out.le⟩,F2.out.setCell ⟨g,3,none⟩ (Or.inl (Or.inl rfl)) _⟩
 have e1:t.length+s.size=(t++bs s).length:=by rw [List.length_append,an]
 have e2:Lib.byteCells t++Lib.strCells s=Lib.byteCells (t++bs s):=by rw [Lib.byteCells_append]; rfl
 have R:=R2.out
 rw [e2] at R
 rw [e1] at R ⊢
 exact aW R ((Fr.refl (λ k=>k=g) w2).setCell ⟨g,3,none⟩ (Or.inl rfl) _) (λ k hk e=>by omega)
theorem Fr.freeze {K:Nat->Prop} {a w:World} (h:Fr K a w) (p:Addr) (hp:K p.block) (n:Nat):Fr K a (w.freeze p n):=by
 refine h.trans ?_
 unfold World.freeze
 split
 ·exact Fr.refl K w
 exact ⟨rfl,rfl,rfl,by simp,λ k hk hK=>by
  simp only [Array.getElem?_modify]
  rw [if_neg (λ e=>by subst e; exact hK hp)]⟩
theorem cellsByte:Tryz.prog.cellsOf 5=1:=by kernel_rfl
theorem GX {w:World} {g:Nat} {q:ByteArray} {a:Nat} {t:List UInt8} {n:Nat} {p v:Value} (h:Mk g q a t n p v w) (h0:t≠[]) :
 Calls Tryz.prog 88 #[.pointer (some ⟨g,2,none⟩)] w λ r w'=>r=.returned (.string ⟨t.toArray⟩)/\Fr (λ k=>v.ownBlock=some k) w w':=by
 have hown:=h.row
 have hl0:t.length≠0:=by simpa using h0
 obtain ⟨k,cap,cur,rfl,Bg,hg,hnc,hcm,hcs,Bq⟩:∃k cap cur,v=.slice (some ⟨k,0,none⟩) t.length cap/\g+1<=k/\w.heap[k]?=some (.cells cur 5 (0,0))/\t.length<=cap/\cap<=maxLen/\cur.size=cap * 1/\cur.toList.take (t.length * 1)=Lib.byteCells t:=by
  rcases hown.2 with ⟨_,hz⟩ | ⟨k,cap,cur,hv,r⟩
  ·exact absurd hz hl0
  exact ⟨k,cap,cur,hv,r⟩
 have c3:w.drew.cell? ⟨g,3,none⟩=some (.slice (some ⟨k,0,none⟩) t.length cap):=h.b.cell 3
 have hSD:(Builtin.unsafeSliceData_ #[110] 209 #[.slice (some ⟨k,0,none⟩) t.length cap]).run Tryz.prog w.drew=.ok (.pointer (some ⟨k,0,none⟩)) w.drew :=
  Lib.run_unsafeSliceData_row _ _ _ _ _ _ (by omega)
 have hUS:(Builtin.unsafeString_ #[209,3] 9 #[.pointer (some ⟨k,0,none⟩),.int .i64 t.length]).run Tryz.prog w.drew=.ok (.string ⟨t.toArray⟩) (w.drew.freeze ⟨k,0,none⟩ t.length):=by
  refine Lib.run_unsafeString_row w.drew 209 3 9 5 Tryz.underlying209 cellsByte k cur.size (by have hg':w.drew.heap[k]?=some (.cells cur 5 (0,0)):=hg; simp [World.shape?,hg']) t h0 (by omega) (by unfold maxLen at hcm; omega) ?_
  intro j x hx
  exact hown.cells (g:=k) rfl j (.int .u8 x.toNat) (by simp [Lib.byteCells,hx])
 have hFr:Hid (Fr (λ i=>(Value.slice (some ⟨k,0,none⟩) t.length cap).ownBlock=some i) w (w.drew.freeze ⟨k,0,none⟩ t.length)):=(Fr.refl (λ i=>(Value.slice (some ⟨k,0,none⟩) t.length cap).ownBlock=some i) w).drew.freeze ⟨k,0,none⟩ rfl _
 have mixed:Tryz.prog.follows Departure.mixedOrders=true:=by kernel_rfl
 clear h hown hg Bq hcs h0
 go_enter Tryz.func88,Tryz.ntmps88
 go_wp2
 go_region_o
 all_goals (go_wp2; go_ret; exact ⟨rfl,hFr.out⟩)
end Go.Proofs.YtcbadebjpogmlaaGreatDoor
namespace Go.Proofs.YtcbadebjpogmlaaGreatDoor
open Go.RowKit Tr Go.Shelf
theorem L7 (s:ByteArray) (w:World) (hlim:s.size<=281474976710656):Calls Tryz.prog 84 #[.string s] w λ e w'=>e=.returned (.string s)/\Below w.heap.size w w' :=
 Any.stringslite_Clone Tryz.FJ s w hlim
theorem Q7 (s:ByteArray) (n:Int) (hl:s.size<=18) (h:Lib.atoi s.data.toList=some n) (w:World) :
 Calls Tryz.prog 255 #[.string s] w λ e w'=>e=.returned (.tuple #[.int .i64 n,.nilIface])/\∃t,w'=Lib.bytesWorld w 5 t:=Any.strconv_Atoi Tryz.K8 s n hl h w
theorem zK (s:ByteArray) (hl:s.size<=18) (h:Lib.atoi s.data.toList=none) (ev:Value) (w:World) (hv:w.cell? ⟨6,0,none⟩=some ev) (hev:ev=.nilIface\/∃te pe,ev=.iface te pe) :
 Calls Tryz.prog 255 #[.string s] w λ e w'=>∃N,e=.returned (.tuple #[.int .i64 0,.iface 314 (.pointer (some ⟨N,0,none⟩))])/\Below w.heap.size w w' :=
 (Any.strconv_Atoi_err Tryz.FM s hl h ev w hv hev).mono (λ_ _ ⟨N,h1,_,_,h2⟩=>⟨N,h1,h2⟩)
theorem c_.eq {ok:Nat->Bool} {q:ByteArray} {a k:Nat} (h:c_ ok q a k) (aC:ok 256=false):bT ok (bs q) a=k:=by
 refine run_eq h.ge h.all ?_ (nQ ok (bs q) a aC)
 rcases Nat.lt_or_ge k q.size with hk | hk
 ·exact h.stop hk
 rw [iD (by rw [an]; exact hk)]; exact aC
theorem mM:∀(l:List UInt8) (acc n d:Nat) (b:UInt8),Lib.decFrom acc l=some n->Lib.digitVal b=some d->Lib.decFrom acc (l++[b])=some (n * 10+d)
 | [],acc,n,d,b,h,hb=>by
  cases h
  simp [Lib.decFrom,hb]
 | c::l,acc,n,d,b,h,hb=>by
  unfold Lib.decFrom at h
  show (match Lib.digitVal c with | some d=>Lib.decFrom (acc * 10+d) (l++[b]) | none=>none)=_
  cases hc:Lib.digitVal c with
  | none=>rw [hc] at h; cases h
  | some e=>rw [hc] at h; exact mM l _ n d b h hb
theorem Bw {c:Nat} (h:af c=true):c<256/\Lib.digitVal (UInt8.ofNat c)=some (c - 48):=by
 simp [af] at h
 refine ⟨by omega,?_⟩
 have e:(UInt8.ofNat c).toNat=c:=by simp; omega
 unfold Lib.digitVal
 rw [e,if_pos (by omega)]
theorem Bx {s:List UInt8} {a:Nat}:∀j,(∀i,a<=i->i<a+j->af (bt s i)=true)->Lib.decFrom 0 (sub s a (a+j))=some (iT s a j)
 | 0,_=>by simp [sub,Lib.decFrom,iT]
 | j+1,h=>by
  have hd:=Bw (h (a+j) (by omega) (by omega))
  rw [show a+(j+1)=a+j+1 by omega,gZ (by omega) hd.1,mM _ _ _ _ _ (Bx j (λ i h1 h2=>h i h1 (by omega))) hd.2]
  show some (iT s a j * 10+(bt s (a+j) - 48))=some (10 * iT s a j+(bt s (a+j) - 48))
  rw [Nat.mul_comm]
theorem zL {s:List UInt8} {a:Nat}:∀j,(∀i,a<=i->i<a+j->af (bt s i)=true)->iT s a j<10 ^ j
 | 0,_=>by simp [iT]
 | j+1,h=>by
  have:=zL j (λ i h1 h2=>h i h1 (by omega))
  have hd:=h (a+j) (by omega) (by omega)
  simp [af] at hd
  show 10 * iT s a j+(bt s (a+j) - 48)<10 ^ (j+1)
  rw [Nat.pow_succ]
  omega
theorem By {s:List UInt8} {a:Nat} (h0:bt s a≠48) (hd:af (bt s a)=true):∀j,0<j->0<iT s a j
 | 0,h=>absurd h (Nat.lt_irrefl _)
 | 1,_=>by
  simp [af] at hd
  show 0<10 * 0+(bt s (a+0) - 48)
  simp; omega
 | j+2,_=>by
  have:=By h0 hd (j+1) (by omega)
  show 0<10 * iT s a (j+1)+_
  omega
theorem c_.val {q:ByteArray} {a k:Nat} (h:c_ af q a k) (hk:k<=a+3):bY (bs q) a k<1000:=by
 have:=zL (s:=bs q) (a:=a) (k - a) (λ i h1 h2=>h.all i h1 (by have:=h.ge; omega))
 have e:(10:Nat) ^ (k - a)<=10 ^ 3:=Nat.pow_le_pow_right (by omega) (by omega)
 unfold bY
 omega
theorem c_.pos {q:ByteArray} {a k:Nat} (h:c_ af q a k) (hk:a<k) (h0:bt (bs q) a≠48):0<bY (bs q) a k:=By h0 (h.all a (Nat.le_refl _) hk) _ (by omega)
theorem GY {q:ByteArray} {a k:Nat} (h:c_ af q a k):Lib.atoi (q.extract a k).data.toList=if k=a then none else some ((bY (bs q) a k:Nat):Int):=by
 have e:(q.extract a k).data.toList=sub (bs q) a k:=cP q a k
 rw [e]
 by_cases hk:k=a
 ·rw [if_pos hk,hk,sub_self]; rfl
 rw [if_neg hk]
 have hlt:a<k:=by have:=h.ge; omega
 have h1:=Bw (h.all a (Nat.le_refl _) hlt)
 have hd:=h.all a (Nat.le_refl _) hlt
 have e2:sub (bs q) a k=UInt8.ofNat (bt (bs q) a)::sub (bs q) (a+1) k:=wW (b:=UInt8.ofNat (bt (bs q) a)) (by simp; omega) hlt
 have e3:=Bx (s:=bs q) (a:=a) (k - a) (λ i h1 h2=>h.all i h1 (by omega))
 rw [show a+(k - a)=k by omega] at e3
 simp [af] at hd
 rw [e2] at e3 ⊢
 have n1:(UInt8.ofNat (bt (bs q) a) == 45)=false:=by rw [beq_eq_false_iff_ne]; intro x; have:=congrArg UInt8.toNat x; simp at this; omega
 have n2:(UInt8.ofNat (bt (bs q) a) == 43)=false:=by rw [beq_eq_false_iff_ne]; intro x; have:=congrArg UInt8.toNat x; simp at this; omega
 simp only [Lib.atoi,n1,n2,Bool.false_eq_true,if_false,Lib.decNat,List.isEmpty_cons]
 rw [e3]
 rfl
structure Er (g:Nat) (w0:World):Prop where
 v:∃ev,w0.cell? ⟨6,0,none⟩=some ev/\(ev=.nilIface\/∃te pe,ev=.iface te pe)
 ne:6≠g
 lt:6<w0.heap.size
theorem Qt.below {g:Nat} {q:ByteArray} {p v:Value} {n:Nat} {w0 w w':World} {a:Nat} (h:Qt g q p v n w0 a w) (hb:Below w.heap.size w w'):Qt g q p v n w0 a w' :=
 ⟨h.b.fr (Fr.aL (K:=λ_=>False) hb) id,h.f.trans (Fr.aL hb),h.le⟩
theorem jc {w0 w:World} {g:Nat} {q:ByteArray} {a:Nat} {p v:Value} {n:Nat} (h:Qt g q p v n w0 a w) (hq:q.size<=1000) (he:Er g w0) (qB:∀k,c_ af q a k->k<=a+18) (i:Int) :
 Calls Tryz.prog 242 #[.pointer (some ⟨g,0,none⟩),.int .i64 i] w λ r w'=>∃k m,(c_ af q a k/\m=if k=a then i else ((bY (bs q) a k:Nat):Int))/\r=.returned (.int .i64 m)/\Qt g q p v n w0 k w':=by
 have H:=aa h
 have HE:=aa he
 have yV:=aa qB
 clear h he qB
 go_enter Tryz.func242,Tryz.ntmps242
 go_wp2_with fail
 refine (rY H.out hq).mono ?_
 rintro r w1 ⟨k,hk,rfl,h1⟩
 have H1:=aa h1
 have HK:=aa hk
 clear h1 hk H
 obtain ⟨ev,hv,hev⟩:=HE.out.v
 have VM:w1.cell? ⟨6,0,none⟩=some ev:=(H1.out.f.cell (p:=⟨6,0,none⟩) HE.out.lt HE.out.ne).trans hv
 have HV:=aa VM
 have HEV:=aa hev
 clear hv VM hev
 have VN:(q.extract a k).size<=18:=by
  have h1:=yV.out k HK.out
  have h2:=HK.out.le
  simp [ByteArray.size_extract]; omega
 have bN:=GY HK.out
 by_cases hka:k=a
 ·rw [if_pos hka] at bN
  have HA:=aa hka
  have OC:=aa bN
  clear hka bN
  go_wp2_with fail
  refine (zK _ VN OC.out ev _ HV.out HEV.out).mono ?_
  rintro r w2 ⟨N,rfl,hb⟩
  have H2:=aa (H1.out.below hb)
  clear hb H1 HV HEV
  go_wp2
  go_ret
  exact ⟨k,i,⟨HK.out,by rw [if_pos HA.out]⟩,rfl,H2.out⟩
 rw [if_neg hka] at bN
 have HA:=aa hka
 have OC:=aa bN
 clear hka bN
 go_wp2_with fail
 refine (Q7 _ _ VN OC.out _).mono ?_
 rintro r w2 ⟨rfl,t,rfl⟩
 have H2:=aa (H1.out.below (Lib.bytesWorld_below w1 5 t))
 clear H1 HV HEV
 go_wp2
 go_ret
 exact ⟨k,_,⟨HK.out,by rw [if_neg HA.out]⟩,rfl,H2.out⟩
end Go.Proofs.YtcbadebjpogmlaaGreatDoor
namespace Go.Proofs.YtcbadebjpogmlaaGreatDoor
open Go.RowKit Tr
theorem wX (s:List UInt8):∀(l:List UInt8) (a:Nat),l.isPrefixOf (s.drop a)=pfx s (l.map UInt8.toNat) a
 | [],a=>by simp [pfx]
 | c::l,a=>by
  simp only [List.map_cons,pfx]
  rw [<-wX s l (a+1)]
  unfold bt
  cases h:s[a]? with
  | none =>
   have:s.drop a=[]:=by simpa using h
   rw [this]
   have:=c.toNat_lt
   simp; omega
  | some d =>
   have hd:s.drop a=d::s.drop (a+1):=by
    obtain ⟨hl,he⟩:=List.getElem?_eq_some_iff.1 h
    rw [List.drop_eq_getElem_cons hl,he]
   rw [hd]
   simp only [List.isPrefixOf]
   congr 1
   by_cases e:c=d
   ·subst e; simp
   have:d.toNat≠c.toNat:=λ x=>e (UInt8.toNat_inj.1 x).symm
   have h1:(c == d)=false:=by simpa using e
   have h2:(d.toNat == c.toNat)=false:=by simpa using this
   rw [h1,h2]
theorem jZ (q:ByteArray) (a:Nat) (sign:ByteArray):tk q a sign=pfx (bs q) (nb sign) a:=wX (bs q) (bs sign) a
theorem s_ (q:ByteArray) {t:St} (he:t.e=0) (c:UInt8):tk q t.p ⟨#[c]⟩=aj (bs q) t c.toNat:=by
 rw [jZ]
 show (bt (bs q) t.p == c.toNat && true)=_
 simp [aj,he]
theorem nR {ok:Nat->Bool} {q:ByteArray} {a k K:Nat} (h:c_ ok q a k) (aC:ok 256=false) (hr:ok (bt (bs q) (run ok (bs q) K a))=false):run ok (bs q) K a=k:=by
 refine run_eq h.ge h.all ?_ hr
 rcases Nat.lt_or_ge k q.size with hk | hk
 ·exact h.stop hk
 rw [iD (by rw [an]; exact hk)]; exact aC
theorem j0 {q:ByteArray} (hf:bz (bs q)) {q0 c K n:Nat} {o:List UInt8} {t:St} {m:Bool} (he:t.e=0) (h:Live (bs q) q0 c K o n (aX (bs q) t m)) (hK:K=7\/K=9\/K=14\/K=18)
 {k:Nat} (hk:c_ af q t.p k):aX (bs q) t m={ t with p:=k }/\k<=t.p+3:=by
 have hnd:=jI hf h hK
 have L8:=h.e0
 unfold aX at hnd L8 ⊢
 split at hnd
 ·rename_i hc
  rw [if_pos hc] at L8
  simp [wrong,he] at L8
 rename_i hc
 rw [if_neg hc] at L8
 rw [if_neg hc]
 have hd:af (bt (bs q) t.p)=true:=by
  simp only [not_or] at hc
  have:=hc.1
  simpa [digit,he] using this
 split at hnd
 ·rename_i h48
  rw [if_pos h48]
  have e1:run af (bs q) 1 t.p=t.p+1:=by simp [run,hd]
  have:=nR (K:=1) hk (by decide) (by rw [e1]; exact hnd)
  rw [e1] at this
  subst this
  exact ⟨rfl,by omega⟩
 rename_i h48
 rw [if_neg h48]
 have e1:(dH af (bs q) 3 t)={ t with p:=run af (bs q) 3 t.p }:=by unfold dH; rw [if_pos he]
 rw [e1] at hnd ⊢
 have:=nR (K:=3) hk (by decide) hnd
 have h3:=gL af (bs q) 3 t.p
 rw [this] at h3 ⊢
 exact ⟨rfl,h3⟩
theorem Bz {q:ByteArray} {t:St} (he:t.e=0) (h0:(bC (bs q) t).e=0) (hn:isLet (bt (bs q) (bC (bs q) t).p)=false) {k:Nat} (hk:c_ isLet q t.p k):bC (bs q) t={ t with p:=k }:=by
 unfold bC at h0 hn ⊢
 rw [if_pos he] at h0 hn ⊢
 split at hn
 ·rename_i hr
  rw [if_pos hr] at h0
  cases h0
 rename_i hr
 rw [if_neg hr]
 rw [nR (K:=8) hk (by decide) hn]
theorem wY {q:ByteArray} {t:St} (h0:(aH (bs q) (dH aO (bs q) 8 t) 39).e=0) {k:Nat} (hk:c_ aO q t.p k) :
 aH (bs q) (dH aO (bs q) 8 t) 39={ t with p:=k+1 }/\tk q k ⟨#[39]⟩=true:=by
 obtain ⟨h1,h2⟩:=jd h0
 have he:t.e=0:=by
  have:=(aE h1).1
  unfold dH at this
  split at this
  ·assumption
  exact this
 have e1:(dH aO (bs q) 8 t)={ t with p:=run aO (bs q) 8 t.p }:=by unfold dH; rw [if_pos he]
 have hb:=(aE h1).2
 rw [e1] at hb
 have hn:aO (bt (bs q) (run aO (bs q) 8 t.p))=false:=by
  have hb':bt (bs q) (run aO (bs q) 8 t.p)=39:=hb
  rw [hb']; decide
 have e2:=nR (K:=8) hk (by decide) hn
 rw [h2,e1]
 rw [e1,e2] at h1
 rw [e2]
 refine ⟨rfl,?_⟩
 have:=s_ q (t:={ t with p:=k }) he 39
 exact this.trans h1
end Go.Proofs.YtcbadebjpogmlaaGreatDoor
