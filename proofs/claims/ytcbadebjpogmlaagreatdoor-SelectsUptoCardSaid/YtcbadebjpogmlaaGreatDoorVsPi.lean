import Derived.Test.YtcbadebjpogmlaaGreatDoorVsAf
import Derived.Test.YtcbadebjpogmlaaGreatDoorVsSq
import Derived.Test.YtcbadebjpogmlaaGreatDoorVsFa
import Derived.Test.YtcbadebjpogmlaaGreatDoorVsHc
import Derived.Test.YtcbadebjpogmlaaGreatDoorVsRefF
namespace Tr
structure Sim (i:Nat) (z z':Sn):Prop where
 st:z'.st=z.st
 op:z'.op=z.op.drop i
 s:z.st=6\/z.st=7->z'.tk.k=z.tk.k
 n:z.st=8\/z.st=9->z'.sz=z.sz/\z'.tk.n=z.tk.n
 w:z.st=10->z'.rs=z.rs
def Zs (p:List UInt8):Sn:=(aB az p).z
def Gt (p:List UInt8):Gs:=dB bK (aB az p).ts
theorem xM {p:List UInt8} {b:UInt8} (h:(aB az p).e=0):(aB az (p++[b])).e=0↔((aq (Zs p) b.toNat).z.st≠12/\(aq (Zs p) b.toNat).z.st≠11):=by
 rw [jE p [b] az h]
 show (aB (Zs p) [b]).e=0↔_
 rw [aB]
 split
 ·rename_i h1; simp [h1]
 rename_i h1
 split
 ·rename_i h2; simp [h2]
 rename_i h2; simp [aB,h1,h2]
theorem Ir {p:List UInt8} {b:UInt8} (h:(aB az (p++[b])).e=0):(aB az p).e=0:=by
 by_cases y:(aB az p).e=0
 ·exact y
 rw [qc p [b] az y] at h; exact h
structure Sc (p:List UInt8) (b:UInt8):Prop where
 e:(aB az p).e=0
 e2:(aB az (p++[b])).e=0
 ok:kI (Zs p)
 lk:Lk (Zs p) (Gt p).sh
 st:(Zs p).st<=10
 at':(Zs p).at'=p.length
 nst:(aq (Zs p) b.toNat).z.st<=10
 z:Zs (p++[b])={ (aq (Zs p) b.toNat).z with at':=(aq (Zs p) b.toNat).z.at'+1 }
 g:Gt (p++[b])=dB (Gt p) (aq (Zs p) b.toNat).ts
 tok:o_ (Gt p).sh (aq (Zs p) b.toNat).ts
structure Rn (p:List UInt8):Prop where
 ok:kI (Zs p)
 lk:Lk (Zs p) (Gt p).sh
 st:(Zs p).st<=10
 at':(Zs p).at'=p.length
theorem Ph {p:List UInt8} (hl:p.length<=4000000) (h:(aB az p).e=0):Rn p:=by
 have R:=lf p d_.1 d_.2 (by simp [az]) (by simp [az]; omega)
 obtain ⟨r1,r2,r3,r4⟩:=R.ok h
 refine ⟨r1,?_,r2,r3.trans (by simp [az])⟩
 have hg:(Gt p).sh=bQ ⟨[],0⟩ (aB az p).ts:=lu (g:=bK) R.tok
 rw [hg]; exact r4
theorem Wo {p:List UInt8} {b:UInt8} (hl:p.length<4000000) (h:(aB az (p++[b])).e=0):Sc p b:=by
 have h0:=Ir h
 have R:=Ph (by omega) h0
 have S:=kN R.ok R.lk R.st (by rw [R.at']; omega) b.toNat
 obtain ⟨n12,n11⟩:=(xM h0).1 h
 have e:aB (Zs p) [b]=⟨{ (aq (Zs p) b.toNat).z with at':=(aq (Zs p) b.toNat).z.at'+1 },0,(aq (Zs p) b.toNat).ts⟩:=by
  rw [aB,if_neg n12,if_neg n11]; simp [aB]
 have ea:=jE p [b] az h0
 have ez:(aB az p).z=Zs p:=rfl
 rw [ez,e] at ea
 refine ⟨h0,h,R.ok,R.lk,R.st,R.at',by have:=S.st; omega,?_,?_,S.tok⟩
 ·unfold Zs at *; rw [ea]
 unfold Gt; rw [ea,kO]
theorem Mu (g:Gs) {t:Tok} (h:t.k=2):(aR g t true).st=g.st/\(aR g t true).last=g.last:=by
 unfold aR; rw [if_neg (by omega),if_neg (by omega),if_pos h]; exact ⟨rfl,rfl⟩
def NB (s:List UInt8):Prop:=∃c r,s=c::r/\cJ c.toNat=false
structure aaW (s:List UInt8):Prop where
 e:cw s=0
 v:∃u,ja s=some u/\u.d.ai=0/\u.d.to=s.length/\u.d.path=[36]
theorem nI {s:List UInt8} {i:Nat} (h:i<s.length):bt s i=(s[i]).toNat:=by simp [bt,h]
def Goes (z:Sn) (s:List UInt8) (z':Sn):Prop:=(aB z s).e=0/\(aB z s).z=z'
structure Beh (z z':Sn):Prop where
 op:z'.op=z.op
 st:z'.st=5\/z'.st=9
def VS (n:Nat) (s:List UInt8):Prop:=∀z:Sn,z.st=0\/z.st=1->z.op.length+n<=8->z.tx=[]->∃z',Goes z s z'/\Beh z z'/\z'.tx=[]
theorem mH (l:List Nat) (k:Nat):jg (l++[k])=(k == 6):=by simp [jg]
theorem It {z:Sn} (hst:z.st=0\/z.st=1) {b:Nat} (hb:cJ b=false) (Fa:b≠93):aq z b=bn z b:=by
 rcases hst with x | x<;>simp [aq,x,hb,bV,Fa]
structure Iu (p:List UInt8) (i a:Nat):Prop where
 lt:a<p.length
 nb:NB (p.drop a)
 e:(aB az (p.drop a)).e=0
 s:Sim i (Zs p) (Zs (p.drop a))
structure Own (p:List UInt8) (u:Tv):Prop where
 lt:u.d.ai<u.d.to
 le:u.d.to<=p.length
 o:aaW ((p.take u.d.to).drop u.d.ai)
def TB (p:List UInt8):List Fm->Prop
 | []=>True
 | f::r=>Iu p r.length f.d.ai/\TB p r
def Wp (p:List UInt8) (v:Tv):Prop:=∀u ∈ au 10 v,Own p u
def ClO (p:List UInt8) (st:List Fm):Prop:=∀f ∈ st,∀w ∈ f.ws,Wp p w
structure J (p:List UInt8):Prop where
 fr:TB p (Gt p).st
 mak:6<=(Zs p).st->(Zs p).tk.k=3->Iu p (Zs p).op.length (Zs p).tk.ai
 cl:ClO p (Gt p).st
 la:∀v,(Gt p).last=some v->Wp p v
def Zi (s:List UInt8) (i:Nat):Sn:=Zs (s.take i)
def Gi (s:List UInt8) (i:Nat):Gs:=Gt (s.take i)
structure Oi (s:List UInt8) (i:Nat):Prop where
 e:(aB az (s.take i)).e=0
 le:i<=s.length
 ml:s.length<=4000000
theorem Oi.rn {s:List UInt8} {i:Nat} (h:Oi s i):Rn (s.take i):=Ph (by rw [List.length_take]; have:=h.ml; omega) h.e
theorem Oi.at' {s:List UInt8} {i:Nat} (h:Oi s i):(Zi s i).at'=i:=by
 have:=h.rn.at'
 rw [List.length_take,Nat.min_eq_left h.le] at this
 exact this
theorem Dt {s:List UInt8} {i:Nat} (h:i<s.length):s.take (i+1)=s.take i++[s[i]]:=List.take_succ_eq_append_getElem h
theorem Iv {s:List UInt8} {i:Nat} (h:i<s.length):bt s i=(s[i]).toNat:=by simp [bt,h]
theorem Oi.step {s:List UInt8} {i:Nat} (h:Oi s i) (hb:bt s i≠256) {x:Sx} (hx:aq (Zi s i) (bt s i)=x) (h10:x.z.st<=10):Oi s (i+1)/\Zi s (i+1)={ x.z with at':=x.z.at'+1 }/\Gi s (i+1)=dB (Gi s i) x.ts:=by
 have hl:i<s.length:=cD (by have:=BW s i; omega)
 have ml:=h.ml
 have e:=Dt hl
 rw [Iv hl] at hx
 have hx':aq (Zs (s.take i)) (s[i]).toNat=x:=hx
 have he:(aB az (s.take i++[s[i]])).e=0:=(xM h.e).2 (by rw [hx']; omega)
 have S:=Wo (p:=s.take i) (by rw [List.length_take]; omega) he
 refine ⟨⟨by rw [e]; exact he,by omega,h.ml⟩,?_,?_⟩
 ·unfold Zi; rw [e,S.z,hx']
 unfold Gi; rw [e,S.g,hx']
def Bd (s:List UInt8) (e i:Nat):Prop:=Oi s i/\((e=2/\i<s.length/\(aq (Zi s i) (bt s i)).z.st=12)\/(e=3/\i<s.length/\(aq (Zi s i) (bt s i)).z.st=11)\/(e=2/\i=s.length/\cq (Zi s i)=false))
theorem Bd.wrong {s:List UInt8} {i:Nat} (h:Oi s i) (hb:bt s i≠256) (hx:(aq (Zi s i) (bt s i)).z.st=12):Bd s 2 i:=⟨h,Or.inl ⟨rfl,cD (by have:=BW s i; omega),hx⟩⟩
theorem Bd.ends {s:List UInt8} {i:Nat} (h:Oi s i) (hb:bt s i=256) (hw:cq (Zi s i)=false):Bd s 2 i:=by
 have:i=s.length:=by
  rcases Nat.lt_or_ge i s.length with y | y
  ·have:=tF y; omega
  have:=h.le; omega
 exact ⟨h,Or.inr (Or.inr ⟨rfl,this,hw⟩)⟩
theorem j9 {z:Sn} (h:(z.st≠5/\z.st≠9)\/z.op≠[]):cq z=false:=by
 unfold cq
 rcases h with ⟨h1,h2⟩ | h
 ·simp [h1,h2]
 cases ho:z.op with
 | nil=>exact absurd ho h
 | cons a l=>simp
structure At (s:List UInt8) (i st:Nat) (op:List Nat) (fs:List Fm) (ix:Nat) (nm:List UInt8):Prop where
 o:Oi s i
 st:(Zi s i).st=st
 op:(Zi s i).op=op
 fs:(Gi s i).st=fs
 ix:(Gi s i).ix=ix
 nm:(Gi s i).nm=nm
theorem At.blank {s:List UInt8} {i st:Nat} {op:List Nat} {fs:List Fm} {ix:Nat} {nm:List UInt8} (h:At s i st op fs ix nm) (h5:st<=5) (hb:cJ (bt s i)=true):At s (i+1) st op fs ix nm:=by
 have eK:bt s i≠256:=λ y=>by rw [y] at hb; cases hb
 have hs:=h.st
 have e:aq (Zi s i) (bt s i)=(Zi s i).to st:=by
  unfold aq
  rw [if_neg (by omega),if_neg (by omega),if_neg (by omega),if_neg (by omega),if_pos hb,hs]
 obtain ⟨a,b,c⟩:=h.o.step eK e (by simp [Sn.to]; omega)
 exact ⟨a,by rw [b]; rfl,by rw [b]; exact h.op,by rw [c]; exact h.fs,by rw [c]; exact h.ix,by rw [c]; exact h.nm⟩
theorem At.Ix {s:List UInt8} {st:Nat} {op:List Nat} {fs:List Fm} {ix:Nat} {nm:List UInt8} (h5:st<=5):∀(k:Nat) {i:Nat},At s i st op fs ix nm->At s (run cJ s k i) st op fs ix nm
 | 0,_,h=>h
 | k+1,i,h=>by
  rw [run]
  split
  ·rename_i hb; exact At.Ix h5 k (h.blank h5 hb)
  exact h
theorem At.sk {s:List UInt8} {i st:Nat} {op:List Nat} {fs:List Fm} {ix:Nat} {nm:List UInt8} (h:At s i st op fs ix nm) (h5:st<=5):At s (sk s i) st op fs ix nm:=h.Ix h5 _
structure Is (s:List UInt8) (i k f:Nat) (acc:List UInt8) (op:List Nat) (fs:List Fm) (ix:Nat) (nm:List UInt8):Prop where
 a:At s i 6 op fs ix nm
 tx:(Zi s i).tx=acc
 tk:(Zi s i).tk=⟨k,4,f,0,0,[]⟩
structure Bs (s:List UInt8) (p k f:Nat) (t:List UInt8) (op:List Nat) (fs:List Fm) (ix:Nat) (nm:List UInt8):Prop where
 o:Oi s p
 op:(Zi s p).op=op
 ge:f<p
 r:(k=3/\(Zi s p).st=5/\∃j,Oi s j/\(Gi s j).st=fs/\(Gi s j).ix=ix/\(Gi s j).nm=nm/\Gi s p=aR (Gi s j) ⟨3,4,f,p,0,t⟩ true)\/(k=2/\(Zi s p).st=4/\(Gi s p).st=fs/\(Gi s p).ix=ix/\(Gi s p).nm=t)
theorem pR {s:List UInt8} {k f:Nat} (hk:k=2\/k=3) {op:List Nat} {fs:List Fm} {ix:Nat} {nm:List UInt8}:∀(n i:Nat) (acc:List UInt8),Is s i k f acc op fs ix nm->f<i->s.length - i<n->((eN s n i acc).e=0/\Bs s (eN s n i acc).p k f (eN s n i acc).t op fs ix nm)\/((eN s n i acc).e=2/\Bd s 2 (eN s n i acc).p/\(Gi s (eN s n i acc).p).st=fs/\(Zi s (eN s n i acc).p).st≠9)
 | 0,i,_,_,_,h=>absurd h (by omega)
 | n+1,i,acc,h,hf,hn=>by
  have st:=h.a.st
  have at':=h.a.o.at'
  rw [eN]
  by_cases fI:bt s i=34
  ·rw [if_pos fI]
   left
   refine ⟨rfl,?_⟩
   have e:aq (Zi s i) (bt s i)=fP (Zi s i):=by
    unfold aq gf
    rw [if_pos st,if_neg (by omega),if_neg (by omega),if_pos fI]
   have ek:(Zi s i).tk.k=k:=by rw [h.tk]
   rcases hk with rfl | rfl
   ·have e2:fP (Zi s i)=⟨{ Zi s i with st:=4,tk:={ (Zi s i).tk with t:=(Zi s i).tx },tx:=[] },[{ (Zi s i).tk with t:=(Zi s i).tx }]⟩:=by unfold fP; rw [if_neg (by omega)]
    obtain ⟨a,b,c⟩:=h.a.o.step (by omega) (e.trans e2) (by simp)
    refine ⟨a,by rw [b]; exact h.a.op,show f<i+1 by omega,Or.inr ⟨rfl,by rw [b],?_⟩⟩
    have c2:Gi s (i+1)=aR (Gi s i) { (Zi s i).tk with t:=(Zi s i).tx } true:=c
    have G:=Mu (Gi s i) (t:={ (Zi s i).tk with t:=(Zi s i).tx }) ek
    refine ⟨by rw [c2,G.1]; exact h.a.fs,?_,?_⟩
    ·rw [c2]; unfold aR; rw [if_neg (by simp only; omega),if_neg (by simp only; omega),if_pos (by simp only; omega)]; exact h.a.ix
    rw [c2]; unfold aR; rw [if_neg (by simp only; omega),if_neg (by simp only; omega),if_pos (by simp only; omega)]; exact h.tx
   have e2:fP (Zi s i)=eJ { Zi s i with tk:={ (Zi s i).tk with t:=(Zi s i).tx },tx:=[] }:=by unfold fP; rw [if_pos ek]
   obtain ⟨a,b,c⟩:=h.a.o.step (by omega) (e.trans e2) (by simp [eJ])
   refine ⟨a,by rw [b]; exact h.a.op,show f<i+1 by omega,Or.inl ⟨rfl,by rw [b]; rfl,i,h.a.o,h.a.fs,h.a.ix,h.a.nm,?_⟩⟩
   rw [c]
   show aR (Gi s i) { (Zi s i).tk with t:=(Zi s i).tx,to:=(Zi s i).at'+1 } true=_
   rw [h.tk,h.tx,at']
  rw [if_neg fI]
  by_cases mo:bt s i=92
  ·rw [if_pos mo]
   have hlt:i<s.length:=cD (by omega)
   have e:aq (Zi s i) (bt s i)=(Zi s i).to 7:=by
    unfold aq gf
    rw [if_pos st,if_neg (by omega),if_pos mo]
   obtain ⟨a,b,c⟩:=h.a.o.step (by omega) e (by simp [Sn.to])
   have Wq:(Zi s (i+1)).st=7:=by rw [b]; rfl
   have fs7:(Gi s (i+1)).st=fs:=by rw [c]; exact h.a.fs
   by_cases hq:bt s (i+1)=34\/bt s (i+1)=92
   ·rw [if_pos hq]
    have e2:aq (Zi s (i+1)) (bt s (i+1))=dZ (Zi s (i+1)) (bt s (i+1)):=by
     unfold aq
     rw [if_neg (by omega),if_pos Wq]
     unfold lM
     rw [if_neg (by omega)]
    obtain ⟨a2,b2,c2⟩:=a.step (by omega) e2 (by simp [dZ])
    refine pR hk n (i+2) _ ⟨⟨a2,by rw [b2]; rfl,by rw [b2]; show (Zi s (i+1)).op=op; rw [b]; exact h.a.op,by rw [c2]; exact fs7,by rw [c2]; show (Gi s (i+1)).ix=ix; rw [c]; exact h.a.ix,by rw [c2]; show (Gi s (i+1)).nm=nm; rw [c]; exact h.a.nm⟩,?_,?_⟩ (by omega) (by omega)
    ·rw [b2]
     show (Zi s (i+1)).tx++[UInt8.ofNat (bt s (i+1))]=_
     rw [b]
     show (Zi s i).tx++_=_
     rw [h.tx]
    rw [b2]
    show (Zi s (i+1)).tk=_
    rw [b]; exact h.tk
   rw [if_neg hq]
   right
   refine ⟨rfl,show Bd s 2 (i+1) from ?_,fs7,show (Zi s (i+1)).st≠9 by rw [Wq]; omega⟩
   by_cases aC:bt s (i+1)=256
   ·exact Bd.ends a aC (j9 (Or.inl (by rw [Wq]; omega)))
   refine Bd.wrong a aC ?_
   unfold aq
   rw [if_neg (by rw [Wq]; omega),if_pos Wq]
   unfold lM
   rw [if_pos (by omega)]
   rfl
  rw [if_neg mo]
  by_cases hr:bt s i<32\/126<bt s i
  ·rw [if_pos hr]
   right
   refine ⟨rfl,show Bd s 2 i from ?_,h.a.fs,show (Zi s i).st≠9 by rw [st]; omega⟩
   by_cases aC:bt s i=256
   ·exact Bd.ends h.a.o aC (j9 (Or.inl (by rw [st]; omega)))
   refine Bd.wrong h.a.o aC ?_
   unfold aq gf
   rw [if_pos st,if_pos hr]
   rfl
  rw [if_neg hr]
  have hlt:i<s.length:=cD (by omega)
  have e:aq (Zi s i) (bt s i)=dZ (Zi s i) (bt s i):=by
   unfold aq gf
   rw [if_pos st,if_neg hr,if_neg mo,if_neg fI]
  obtain ⟨a,b,c⟩:=h.a.o.step (by omega) e (by simp [dZ])
  refine pR hk n (i+1) _ ⟨⟨a,by rw [b]; rfl,by rw [b]; exact h.a.op,by rw [c]; exact h.a.fs,by rw [c]; exact h.a.ix,by rw [c]; exact h.a.nm⟩,?_,by rw [b]; exact h.tk⟩ (by omega) (by omega)
  rw [b]
  show (Zi s i).tx++_=_
  rw [h.tx]
structure Iw (s:List UInt8) (i of f:Nat) (l:List UInt8) (op:List Nat) (fs:List Fm) (ix:Nat) (nm:List UInt8):Prop where
 a:At s i 10 op fs ix nm
 rs:(Zi s i).rs=l
 tk:(Zi s i).tk=⟨3,of,f,0,0,[]⟩
structure Bp (s:List UInt8) (p:Nat) (t:Tok) (op:List Nat) (fs:List Fm) (ix:Nat) (nm:List UInt8):Prop where
 o:Oi s p
 st:(Zi s p).st=5
 op:(Zi s p).op=op
 g:∃j,Oi s j/\(Gi s j).st=fs/\(Gi s j).ix=ix/\(Gi s j).nm=nm/\Gi s p=aR (Gi s j) t true
theorem Iy {s:List UInt8} {of f:Nat} {op:List Nat} {fs:List Fm} {ix:Nat} {nm:List UInt8}:∀(l:List UInt8) (i:Nat),l≠[]->Iw s i of f l op fs ix nm->(dz s (l.map UInt8.toNat) i=i+l.length/\Bp s (i+l.length) ⟨3,of,f,i+l.length,0,[]⟩ op fs ix nm)\/(dz s (l.map UInt8.toNat) i≠i+l.length/\Bd s 2 (dz s (l.map UInt8.toNat) i)/\(Gi s (dz s (l.map UInt8.toNat) i)).st=fs/\(Zi s (dz s (l.map UInt8.toNat) i)).st≠9)
 | [],_,h,_=>absurd rfl h
 | c::l,i,_,h=>by
  have st:=h.a.st
  have at':=h.a.o.at'
  have e0:aq (Zi s i) (bt s i)=fF (Zi s i) (bt s i):=by
   unfold aq
   rw [if_neg (by omega),if_neg (by omega),if_neg (by omega),if_pos st]
  have e1:dz s ((c::l).map UInt8.toNat) i=if bt s i=c.toNat then dz s (l.map UInt8.toNat) (i+1) else i:=rfl
  rw [e1]
  have er:bt (Zi s i).rs 0=c.toNat:=by rw [h.rs]; rfl
  by_cases hc:bt s i=c.toNat
  ·rw [if_pos hc]
   have hlt:=c.toNat_lt
   have aC:bt s i≠256:=by omega
   cases l with
   | nil =>
    have e2:fF (Zi s i) (bt s i)=eJ { Zi s i with rs:=(Zi s i).rs.tail }:=by
     unfold fF
     rw [if_neg (by rw [er]; omega),if_pos (by rw [h.rs]; rfl)]
    obtain ⟨a,b,c2⟩:=h.a.o.step aC (e0.trans e2) (by simp [eJ])
    refine Or.inl ⟨rfl,a,by show (Zi s (i+1)).st=5; rw [b]; rfl,by show (Zi s (i+1)).op=op; rw [b]; exact h.a.op,i,h.a.o,h.a.fs,h.a.ix,h.a.nm,?_⟩
    show Gi s (i+1)=_
    rw [c2]
    show aR (Gi s i) { (Zi s i).tk with to:=(Zi s i).at'+1 } true=_
    rw [h.tk,at']
    rfl
   | cons d l =>
    have e2:fF (Zi s i) (bt s i)=⟨{ Zi s i with st:=10,rs:=(Zi s i).rs.tail },[]⟩:=by
     unfold fF
     rw [if_neg (by rw [er]; omega),if_neg (by rw [h.rs]; simp)]
    obtain ⟨a,b,c2⟩:=h.a.o.step aC (e0.trans e2) (by simp)
    have R:=Iy (op:=op) (fs:=fs) (ix:=ix) (nm:=nm) (of:=of) (f:=f) (d::l) (i+1) (by simp) ⟨⟨a,by rw [b],by rw [b]; exact h.a.op,by rw [c2]; exact h.a.fs,by rw [c2]; exact h.a.ix,by rw [c2]; exact h.a.nm⟩,by rw [b]; show (Zi s i).rs.tail=_; rw [h.rs]; rfl,by rw [b]; exact h.tk⟩
    have el:i+(c::d::l).length=i+1+(d::l).length:=by simp; omega
    rw [el]
    exact R
  rw [if_neg hc]
  refine Or.inr ⟨by rw [List.length_cons]; omega,?_,h.a.fs,by rw [st]; omega⟩
  by_cases aC:bt s i=256
  ·exact Bd.ends h.a.o aC (j9 (Or.inl (by rw [st]; omega)))
  refine Bd.wrong h.a.o aC ?_
  rw [e0]
  unfold fF
  rw [if_pos (by rw [er]; omega)]
  rfl
structure Wr (s:List UInt8) (i a m f:Nat) (sg:Int) (op:List Nat) (fs:List Fm) (ix:Nat) (nm:List UInt8):Prop where
 w:At s i 9 op fs ix nm
 e:i=a+m
 sz:(Zi s i).sz=m
 sgn:(Zi s i).sg=sg
 tk:(Zi s i).tk=⟨3,3,f,0,(iT s a m:Int),[]⟩
theorem Iz {s:List UInt8} {a:Nat} (h0:af (bt s a)=true) (h1:bt s a≠48):∀m,0<m->0<iT s a m
 | 0,h=>absurd h (by omega)
 | 1,_=>by
  have:48<=bt s a:=by simp [af] at h0; omega
  show 0<10 * iT s a 0+(bt s (a+0) - 48)
  rw [Nat.add_zero]; omega
 | m+2,_=>by
  have:=Iz h0 h1 (m+1) (by omega)
  rw [iT]; omega
theorem IA {s:List UInt8} {i a m f:Nat} {sg:Int} {op:List Nat} {fs:List Fm} {ix:Nat} {nm:List UInt8} (h:Wr s i a m f sg op fs ix nm) (h0:af (bt s a)=true) (h1:bt s a≠48) (hm:0<m) (h9:m<9) (hd:af (bt s i)=true):Wr s (i+1) a (m+1) f sg op fs ix nm:=by
 have st:=h.w.st
 have hp:=Iz h0 h1 m hm
 have e:aq (Zi s i) (bt s i)=dw (Zi s i) (bt s i):=by
  unfold aq
  rw [if_neg (by omega),if_neg (by omega),if_pos (Or.inr st)]
  unfold gC
  rw [if_neg (by omega),if_pos ⟨hd,by rw [h.sz]; exact h9⟩]
 have hb:bt s i≠256:=λ y=>by rw [y] at hd; cases hd
 obtain ⟨x,y,z⟩:=h.w.o.step hb e (by simp [dw])
 have en:(Zi s i).tk.n * 10+((bt s i - 48:Nat):Int)=(iT s a (m+1):Int):=by
  rw [h.tk]
  show (iT s a m:Int) * 10+_=_
  rw [iT,<-h.e]
  omega
 refine ⟨⟨x,by rw [y]; rfl,by rw [y]; exact h.w.op,by rw [z]; exact h.w.fs,by rw [z]; exact h.w.ix,by rw [z]; exact h.w.nm⟩,by rw [h.e,Nat.add_assoc],?_,by rw [y]; exact h.sgn,?_⟩
 ·rw [y]
  show (if (Zi s i).tk.n * 10+((bt s i - 48:Nat):Int)=0 then 9 else (Zi s i).sz+1)=m+1
  rw [en,if_neg (by rw [iT]; omega),h.sz]
 rw [y]
 show ({ (Zi s i).tk with n:=(Zi s i).tk.n * 10+((bt s i - 48:Nat):Int) }:Tok)=_
 rw [en,h.tk]
theorem BX {s:List UInt8} {a f:Nat} {sg:Int} {op:List Nat} {fs:List Fm} {ix:Nat} {nm:List UInt8} (h0:af (bt s a)=true) (h1:bt s a≠48):∀(k m i:Nat),Wr s i a m f sg op fs ix nm->0<m->m+k=9->∃m',run af s k i=a+m'/\m'<=9/\Wr s (a+m') a m' f sg op fs ix nm
 | 0,m,i,h,_,hk=>⟨m,by rw [run]; exact h.e,by omega,by rw [<-h.e]; exact h⟩
 | k+1,m,i,h,hm,hk=>by
  rw [run]
  by_cases hd:af (bt s i)=true
  ·rw [if_pos hd]
   exact BX h0 h1 k (m+1) (i+1) (IA h h0 h1 hm (by omega) hd) (by omega) (by omega)
  rw [if_neg hd]
  exact ⟨m,h.e,by omega,by rw [<-h.e]; exact h⟩
structure Pn (s:List UInt8) (p f:Nat) (n:Int) (op:List Nat) (fs:List Fm) (ix:Nat) (nm:List UInt8):Prop where
 w:At s p 9 op fs ix nm
 t:cz (Zi s p)=⟨3,3,f,p,n,[]⟩
 full:af (bt s p)=true->¬(Zi s p).sz<9
theorem qN {s:List UInt8} {a f:Nat} {sg:Int} {op:List Nat} {fs:List Fm} {ix:Nat} {nm:List UInt8} (z0:Sn) (ha:Oi s a) (hx:aq (Zi s a) (bt s a)=dw z0 (bt s a)) (h1:z0.tk=⟨3,3,f,0,0,[]⟩) (h2:z0.sz=0) (h3:z0.sg=sg) (h4:z0.op=op) (h5:(Gi s a).st=fs/\(Gi s a).ix=ix/\(Gi s a).nm=nm) (hd:af (bt s a)=true):Pn s (if bt s a=48 then a+1 else run af s 9 a) f (if bt s a=48 then 0 else (iT s a (run af s 9 a - a):Int) * sg) op fs ix nm:=by
 have hb:bt s a≠256:=λ y=>by rw [y] at hd; cases hd
 obtain ⟨x,y,z⟩:=ha.step hb hx (by simp [dw])
 have Zq:=x.at'
 have At1:At s (a+1) 9 op fs ix nm:=⟨x,by rw [y]; rfl,by rw [y]; exact h4,by rw [z]; exact h5.1,by rw [z]; exact h5.2.1,by rw [z]; exact h5.2.2⟩
 have en:z0.tk.n * 10+((bt s a - 48:Nat):Int)=((bt s a - 48:Nat):Int):=by rw [h1]; simp
 by_cases h48:bt s a=48
 ·rw [if_pos h48,if_pos h48]
  refine ⟨At1,?_,λ_=>?_⟩
  ·have:cz (Zi s (a+1))=⟨3,3,f,(Zi s (a+1)).at',0,[]⟩:=by
    have e2:(Zi s (a+1)).tk=⟨3,3,f,0,0,[]⟩:=by
     rw [y]
     show ({ z0.tk with n:=z0.tk.n * 10+((bt s a - 48:Nat):Int) }:Tok)=_
     rw [en,h1,h48]
     rfl
    unfold cz
    rw [e2]
    simp
   rw [this,Zq]
  rw [y]
  show ¬(if z0.tk.n * 10+((bt s a - 48:Nat):Int)=0 then 9 else z0.sz+1)<9
  rw [en,h48,if_pos (by simp)]; omega
 rw [if_neg h48,if_neg h48]
 have h49:48<bt s a:=by simp [af] at hd; omega
 have I1:Wr s (a+1) a 1 f sg op fs ix nm:=by
  refine ⟨At1,rfl,?_,by rw [y]; exact h3,?_⟩
  ·rw [y]
   show (if z0.tk.n * 10+((bt s a - 48:Nat):Int)=0 then 9 else z0.sz+1)=1
   rw [en,if_neg (by omega),h2]
  rw [y]
  show ({ z0.tk with n:=z0.tk.n * 10+((bt s a - 48:Nat):Int) }:Tok)=_
  rw [en,h1]
  have:iT s a 1=bt s a - 48:=by show 10 * 0+(bt s (a+0) - 48)=_; rw [Nat.add_zero]; omega
  rw [this]
 have er:run af s 9 a=run af s 8 (a+1):=by rw [run,if_pos hd]
 obtain ⟨m',e1,e2,I⟩:=BX hd h48 8 1 (a+1) I1 (by omega) (by omega)
 rw [er,e1,show a+m' - a=m' by omega]
 refine ⟨I.w,?_,λ yW=>?_⟩
 ·have at2:=I.w.o.at'
  show ({ (Zi s (a+m')).tk with n:=(Zi s (a+m')).tk.n * (Zi s (a+m')).sg,to:=(Zi s (a+m')).at' }:Tok)=_
  rw [I.tk,I.sgn,at2]
 rw [I.sz]
 intro h9
 rcases gr af s 8 (a+1) with q | q
 ·rw [e1] at q; omega
 rw [e1,yW] at q; cases q
def zW (d:dO):Int:=if d.cl<0 then -1 else if d.kind=1 then (d.to:Int) else (d.to:Int) - 1
def Al:Nat->Tv->Tv->Prop
 | 0,_,_=>False
 | n+1,v,u=>v.d={ u.d with cl:=zW u.d }/\v.ws.length=u.ws.length/\∀i (h:i<v.ws.length) (h':i<u.ws.length),Al n v.ws[i] u.ws[i]
def l8 (n:Nat) (vs us:List Tv):Prop:=vs.length=us.length/\∀i (h:i<vs.length) (h':i<us.length),Al n vs[i] us[i]
theorem l8.nil (n:Nat):l8 n [] []:=⟨rfl,λ i h=>by cases h⟩
theorem l8.one {n:Nat} {v u:Tv} (h:Al n v u):l8 n [v] [u]:=⟨rfl,λ i h1 h2=>by
 have:i=0:=by simp at h1; exact h1
 subst this; exact h⟩
theorem l8.app {n:Nat} {a b c d:List Tv} (h:l8 n a b) (k:l8 n c d):l8 n (a++c) (b++d):=by
 refine ⟨by rw [List.length_append,List.length_append,h.1,k.1],λ i h1 h2=>?_⟩
 by_cases hi:i<a.length
 ·have hb:i<b.length:=by rw [<-h.1]; exact hi
  rw [List.getElem_append_left hi,List.getElem_append_left hb]
  exact h.2 i hi hb
 have ha:a.length<=i:=by omega
 have hb:b.length<=i:=by rw [<-h.1]; exact ha
 rw [List.getElem_append_right ha,List.getElem_append_right hb]
 have:=k.2 (i - a.length) (by rw [List.length_append] at h1; omega) (by rw [List.length_append] at h2; rw [h.1]; omega)
 simp only [h.1] at this ⊢
 exact this
def sv (of:Nat) (n:Int) (t nm pt:List UInt8) (f p:Nat):Tv:=⟨⟨wj of,n,Ot ⟨3,of,f,p,n,t⟩,nm,pt,f,p,0⟩,[]⟩
theorem jh (g:Gs) (of f p:Nat) (n:Int) (t:List UInt8):aR g ⟨3,of,f,p,n,t⟩ true={ g with st:=nw g.st true (sv of n t g.nm (jF g.st g.ix g.nm) f p),nm:=[],bd:=f+1,ix:=g.ix+1,last:=some (sv of n t g.nm (jF g.st g.ix g.nm) f p) }:=rfl
def VP (s:List UInt8) (p m:Nat) (v u:Tv) (op:List Nat) (fs:List Fm) (ix:Nat) (nm:List UInt8) (k:Nat):Prop :=
 (At s p 5 op (nw fs true u) (ix+1) []/\(Gi s p).last=some u/\Al m v u) \/
 (∃f n,Pn s p f n op fs ix nm/\u=sv 3 n [] nm (jF fs ix nm) f p/\v=⟨{ u.d with cl:=if fH k (bt s p)=true then (p:Int) else -1 },[]⟩)
theorem xN {m of f p:Nat} {n:Int} {t nm pt:List UInt8} (hm:0<m) (ho:of≠3) (hof:of<=4):Al m ⟨⟨wj of,n,Ot ⟨3,of,f,p,n,t⟩,nm,pt,f,p,(p:Int) - 1⟩,[]⟩ (sv of n t nm pt f p):=by
 obtain ⟨m,rfl⟩:∃m',m=m'+1:=⟨m - 1,by omega⟩
 refine ⟨?_,rfl,λ i h=>by cases h⟩
 have hk:wj of≠1:=by
  have:of=0\/of=1\/of=2\/of=4:=by omega
  rcases this with rfl | rfl | rfl | rfl<;>decide
 have:zW (sv of n t nm pt f p).d=(p:Int) - 1:=by
  unfold zW
  rw [if_neg (by simp [sv]),if_neg (by simpa [sv] using hk)]
  rfl
 rw [this]
 rfl
theorem beg {s:List UInt8} {j st:Nat} {op:List Nat} {fs:List Fm} {ix:Nat} {nm:List UInt8} (h:At s j st op fs ix nm) (hst:st=0\/(st=1/\bt s j≠93)) (hb:cJ (bt s j)=false):aq (Zi s j) (bt s j)=bn (Zi s j) (bt s j):=by
 have hs:=h.st
 rcases hst with rfl | ⟨rfl,Fa⟩
 ·simp [aq,hs,hb,bV]
 exact It (Or.inr hs) hb Fa
def jL (s:List UInt8) (i:Nat):List Tv:=if (Zi s i).st=9 then [⟨{ (sv 3 (cz (Zi s i)).n [] (Gi s i).nm (jF (Gi s i).st (Gi s i).ix (Gi s i).nm) (cz (Zi s i)).ai i).d with cl:=-1 },[]⟩] else []
theorem lD {s:List UInt8} {i:Nat} (h:(Zi s i).st≠9):jL s i=[]:=by unfold jL; rw [if_neg h]
def Ws (s:List UInt8) (j m:Nat) (op:List Nat) (fs:List Fm) (ix:Nat) (nm:List UInt8) (k:Nat) (r:Rs):Prop:=(r.e=0/\j<r.p/\∃v u,r.ws=[v]/\VP s r.p m v u op fs ix nm k)\/(r.e≠0/\Bd s r.e r.p/\r.ws=[]/\(Gi s r.p).st=fs/\(Zi s r.p).st≠9)
def wRs (s:List UInt8) (nm pt:List UInt8) (j:Nat):Rs:=if dz s (bw (bt s j)) j=j+(bw (bt s j)).length then ⟨[⟨⟨3,0,(bw (bt s j)).map UInt8.ofNat,nm,pt,j,dz s (bw (bt s j)) j,(dz s (bw (bt s j)) j:Int) - 1⟩,[]⟩],0,dz s (bw (bt s j)) j⟩ else ⟨[],2,dz s (bw (bt s j)) j⟩
def Wt (s:List UInt8) (nm pt:List UInt8) (k j:Nat):Rs:=if uR s j=true then ⟨[⟨⟨1,pF s j,[],nm,pt,j,lT s j,if fH k (bt s (lT s j))=true then (lT s j:Int) else -1⟩,[]⟩],0,lT s j⟩ else ⟨[],2,cW s j⟩
theorem uS {s:List UInt8} {j st m:Nat} {op:List Nat} {fs:List Fm} {ix:Nat} {nm pt:List UInt8} {k:Nat} (h:At s j st op fs ix nm) (eb:aq (Zi s j) (bt s j)=bn (Zi s j) (bt s j)) (aC:bt s j≠256) (hm:0<m) (hp:jF fs ix nm=pt) (of:Nat) (c:UInt8) (l:List UInt8) (hc:bt s j=c.toNat) (hl:l≠[]) (hof:of<=2) (e1:bn (Zi s j) (bt s j)=aY (Zi s j) of l) (ew:bw (bt s j)=(c::l).map UInt8.toNat) (es:∀p,Ot ⟨3,of,j,p,0,[]⟩=((c::l).map UInt8.toNat).map UInt8.ofNat) (ek:wj of=3):Ws s j m op fs ix nm k (wRs s nm pt j):=by
 have at':=h.o.at'
 unfold wRs
 obtain ⟨a,b,cc⟩:=h.o.step aC (eb.trans e1) (by simp [aY])
 have I:Iw s (j+1) of j l op fs ix nm:=by
  refine ⟨⟨a,by rw [b]; rfl,by rw [b]; exact h.op,by rw [cc]; exact h.fs,by rw [cc]; exact h.ix,by rw [cc]; exact h.nm⟩,by rw [b]; rfl,?_⟩
  rw [b]
  show (⟨3,of,(Zi s j).at',0,0,[]⟩:Tok)=_
  rw [at']
 have et:dz s (bw (bt s j)) j=dz s (l.map UInt8.toNat) (j+1):=by
  rw [ew]
  show (if bt s j=c.toNat then dz s (l.map UInt8.toNat) (j+1) else j)=_
  rw [if_pos hc]
 have el:(bw (bt s j)).length=l.length+1:=by rw [ew]; simp
 have R:=Iy l (j+1) hl I
 rw [et,el,show j+(l.length+1)=j+1+l.length by omega]
 rcases R with ⟨q1,q2⟩ | ⟨q1,q2,q3,q4⟩
 ·rw [if_pos q1,q1]
  left
  obtain ⟨jj,r2,r3,r4,r5,r6⟩:=q2.g
  refine ⟨rfl,by show j<j+1+l.length; omega,_,sv of 0 [] nm pt j (j+1+l.length),rfl,Or.inl ⟨⟨q2.o,q2.st,q2.op,?_,?_,?_⟩,?_,?_⟩⟩
  ·show (Gi s (j+1+l.length)).st=_
   rw [r6,jh,r3,r4,r5,hp]
  ·show (Gi s (j+1+l.length)).ix=_
   rw [r6,jh,r4]
  ·show (Gi s (j+1+l.length)).nm=_
   rw [r6,jh]
  ·show (Gi s (j+1+l.length)).last=_
   rw [r6,jh,r3,r4,r5,hp]
  have:=xN (m:=m) (of:=of) (f:=j) (p:=j+1+l.length) (n:=0) (t:=[]) (nm:=nm) (pt:=pt) hm (by omega) (by omega)
  rw [es,ek,<-ew] at this
  exact this
 rw [if_neg q1]
 exact Or.inr ⟨by simp,q2,rfl,q3,q4⟩
theorem RH {s:List UInt8} {j st m:Nat} {op:List Nat} {fs:List Fm} {ix:Nat} {nm pt:List UInt8} {k:Nat} (h:At s j st op fs ix nm) (hst:st=0\/st=1) (eb:aq (Zi s j) (bt s j)=bn (Zi s j) (bt s j)) (aC:bt s j≠256) (hp:jF fs ix nm=pt) (e1:bn (Zi s j) (bt s j)=fQ (Zi s j) (bt s j)):Ws s j m op fs ix nm k (Wt s nm pt k j):=by
 have at':=h.o.at'
 have good:∀{p:Nat} {n:Int},Pn s p j n op fs ix nm->j<p->lT s j=p->pF s j=n->uR s j=true->Ws s j m op fs ix nm k (Wt s nm pt k j):=λ{p n} P YA et en ho=>by
  unfold Wt
  rw [if_pos ho,et,en]
  refine Or.inl ⟨rfl,YA,_,sv 3 n [] nm (jF fs ix nm) j p,rfl,Or.inr ⟨j,n,P,rfl,?_⟩⟩
  rw [hp]
  rfl
 by_cases ji:bt s j=45
 ·have e2:fQ (Zi s j) (bt s j)=⟨{ Zi s j with st:=8,tk:=⟨3,3,(Zi s j).at',0,0,[]⟩,sz:=0,sg:=-1 },[]⟩:=by unfold fQ; rw [if_pos ji]
  obtain ⟨a,b,c⟩:=h.o.step aC ((eb.trans e1).trans e2) (by simp)
  have YM:(Zi s (j+1)).st=8:=by rw [b]
  have ef:cW s j=j+1:=by unfold cW; rw [if_pos ji]
  have e8:aq (Zi s (j+1)) (bt s (j+1))=gC (Zi s (j+1)) (bt s (j+1)):=by
   unfold aq; rw [if_neg (by omega),if_neg (by omega),if_pos (Or.inl YM)]
  by_cases hd:49<=bt s (j+1)/\bt s (j+1)<=57
  ·have hdg:af (bt s (j+1))=true:=by simp [af]; omega
   have e9:gC (Zi s (j+1)) (bt s (j+1))=dw (Zi s (j+1)) (bt s (j+1)):=by
    unfold gC
    rw [if_neg (by omega),if_pos ⟨hdg,by rw [b]; show (0:Nat)<9; omega⟩]
   have P:=qN (f:=j) (sg:=-1) (op:=op) (fs:=fs) (ix:=ix) (nm:=nm) (Zi s (j+1)) a (e8.trans e9) (by rw [b]; show (⟨3,3,(Zi s j).at',0,0,[]⟩:Tok)=_; rw [at']) (by rw [b]) (by rw [b]) (by rw [b]; exact h.op) ⟨by rw [c]; exact h.fs,by rw [c]; exact h.ix,by rw [c]; exact h.nm⟩ hdg
   rw [if_neg (by omega),if_neg (by omega)] at P
   have et:lT s j=run af s 9 (j+1):=by unfold lT; rw [ef,if_neg (by omega)]
   have hge:=eG af s 9 (j+1)
   refine good P (by omega) et ?_ ?_
   ·unfold pF
    rw [if_pos ji,et,ef]
    omega
   unfold uR; rw [ef,hdg]; simp [ji]; omega
  have ho:uR s j=false:=by
   unfold uR
   rw [ef]
   by_cases hz:bt s (j+1)=48
   ·simp [ji,hz]
   have:af (bt s (j+1))=false:=by simp [af]; omega
   rw [this]; rfl
  unfold Wt
  rw [if_neg (by rw [ho]; simp),ef]
  refine Or.inr ⟨by simp,?_,rfl,by rw [c]; exact h.fs,by rw [YM]; omega⟩
  by_cases h2:bt s (j+1)=256
  ·exact Bd.ends a h2 (j9 (Or.inl (by rw [YM]; omega)))
  refine Bd.wrong a h2 ?_
  rw [e8]
  unfold gC
  rw [if_pos ⟨YM,hd⟩]
  rfl
 have ef:cW s j=j:=by unfold cW; rw [if_neg ji]
 by_cases hd:af (bt s j)=true
 ·have e2:fQ (Zi s j) (bt s j)=dw { Zi s j with tk:=⟨3,3,(Zi s j).at',0,0,[]⟩,sz:=0,sg:=1 } (bt s j):=by unfold fQ; rw [if_neg ji,if_pos hd]
  have P:=qN (f:=j) (sg:=1) (op:=op) (fs:=fs) (ix:=ix) (nm:=nm) { Zi s j with tk:=⟨3,3,(Zi s j).at',0,0,[]⟩,sz:=0,sg:=1 } h.o ((eb.trans e1).trans e2) (by show (⟨3,3,(Zi s j).at',0,0,[]⟩:Tok)=_; rw [at']) rfl rfl h.op ⟨h.fs,h.ix,h.nm⟩ hd
  have ho:uR s j=true:=by unfold uR; rw [ef,hd]; simp [ji]
  by_cases h48:bt s j=48
  ·rw [if_pos h48,if_pos h48] at P
   have et:lT s j=j+1:=by unfold lT; rw [ef,if_pos h48]
   refine good P (by omega) et ?_ ho
   unfold pF
   rw [if_neg ji,et,ef,show j+1 - j=1 by omega]
   show ((10 * 0+(bt s (j+0) - 48):Nat):Int)=0
   rw [Nat.add_zero,h48]
   rfl
  rw [if_neg h48,if_neg h48] at P
  have et:lT s j=run af s 9 j:=by unfold lT; rw [ef,if_neg h48]
  have hgt:j<run af s 9 j:=by
   rw [run,if_pos hd]
   exact Nat.lt_of_lt_of_le (Nat.lt_succ_self _) (eG af s 8 (j+1))
  refine good P hgt et ?_ ho
  unfold pF
  rw [if_neg ji,et,ef]
  omega
 have ho:uR s j=false:=by unfold uR; rw [ef]; simp [hd]
 unfold Wt
 rw [if_neg (by rw [ho]; simp),ef]
 refine Or.inr ⟨by simp,?_,rfl,h.fs,?_⟩
 ·refine Bd.wrong h.o aC ?_
  rw [eb,e1]
  unfold fQ
  rw [if_neg ji,if_neg hd]
 show (Zi s j).st≠9
 rw [h.st]; omega
theorem Mv {s:List UInt8} {j st m:Nat} {op:List Nat} {fs:List Fm} {ix:Nat} {nm pt:List UInt8} {k:Nat} (h:At s j st op fs ix nm) (hst:st=0\/(st=1/\bt s j≠93)) (hb:cJ (bt s j)=false) (aC:bt s j≠256) (oL:bt s j≠91) (mS:bt s j≠123) (hm:0<m) (hp:jF fs ix nm=pt):Ws s j m op fs ix nm k (iW s nm pt k j):=by
 have eb:=beg h hst hb
 have at':=h.o.at'
 have ml:=h.o.ml
 have hlt:j<s.length:=cD (by have:=BW s j; omega)
 unfold iW
 by_cases fI:bt s j=34
 ·rw [if_pos fI]
  have e1:bn (Zi s j) (bt s j)=cy (Zi s j) 3:=by unfold bn; rw [if_neg oL,if_neg mS,if_pos fI]
  obtain ⟨a,b,c⟩:=h.o.step aC (eb.trans e1) (by simp [cy])
  have e2:aP s j=eN s (s.length+1) (j+1) []:=by unfold aP; rw [if_pos fI]
  have I:Is s (j+1) 3 j [] op fs ix nm:=by
   refine ⟨⟨a,by rw [b]; rfl,by rw [b]; exact h.op,by rw [c]; exact h.fs,by rw [c]; exact h.ix,by rw [c]; exact h.nm⟩,?_,?_⟩
   ·rw [b]
    have st6:=h.st
    exact h.o.rn.ok.x (by show (Zi s j).st≠6/\(Zi s j).st≠7; omega)
   rw [b]
   show (⟨3,4,(Zi s j).at',0,0,[]⟩:Tok)=_
   rw [at']
  rw [e2]
  rcases pR (Or.inr rfl) (s.length+1) (j+1) [] I (by omega) (by omega) with ⟨q1,q2⟩ | ⟨q1,q2,q3,q4⟩
  ·rw [if_pos q1]
   left
   generalize (eN s (s.length+1) (j+1) []).p=p at *
   generalize (eN s (s.length+1) (j+1) []).t=t at *
   rcases q2.r with ⟨_,r1,jj,r2,r3,r4,r5,r6⟩ | ⟨y,_⟩
   ·refine ⟨rfl,q2.ge,_,sv 4 0 t nm pt j p,rfl,Or.inl ⟨⟨q2.o,r1,q2.op,?_,?_,?_⟩,?_,xN (of:=4) hm (by omega) (by omega)⟩⟩
    ·rw [r6,jh,r3,r4,r5,hp]
    ·rw [r6,jh,r4]
    ·rw [r6,jh]
    rw [r6,jh,r3,r4,r5,hp]
   omega
  rw [if_neg (by omega)]
  right
  rw [q1]
  exact ⟨by simp,q2,rfl,q3,q4⟩
 rw [if_neg fI]
 by_cases hw:bt s j=116\/bt s j=102\/bt s j=110
 ·rw [if_pos hw]
  show Ws s j m op fs ix nm k (wRs s nm pt j)
  by_cases w1:bt s j=116
  ·exact uS h eb aC hm hp 2 116 [114,117,101] w1 (by simp) (by omega) (by unfold bn; rw [if_neg oL,if_neg mS,if_neg fI,if_pos w1]) (by rw [w1]; rfl) (λ p=>rfl) rfl
  by_cases w2:bt s j=102
  ·exact uS h eb aC hm hp 1 102 [97,108,115,101] w2 (by simp) (by omega) (by unfold bn; rw [if_neg oL,if_neg mS,if_neg fI,if_neg w1,if_pos w2]) (by rw [w2]; rfl) (λ p=>rfl) rfl
  have w3:bt s j=110:=by omega
  exact uS h eb aC hm hp 0 110 [117,108,108] w3 (by simp) (by omega) (by unfold bn; rw [if_neg oL,if_neg mS,if_neg fI,if_neg w1,if_neg w2,if_pos w3]) (by rw [w3]; rfl) (λ p=>rfl) rfl
 rw [if_neg hw]
 exact RH h (by omega) eb aC hp (by unfold bn; rw [if_neg oL,if_neg mS,if_neg fI,if_neg (by omega),if_neg (by omega),if_neg (by omega)])
end Tr
namespace Go.Proofs.YtcbadebjpogmlaaGreatDoor
open Go.RowKit Tr
theorem Gp {w:World} {A:Nat->Nat} {D:Nat->Prop} {bd:Nat}:∀{n d:Nat} {par:Value} {ix:Nat} {t:Tv},PT w A D n par ix t->FB bd n t->(∀v ∈ au n t,KZ v)->ix<=4000000->PH w d (A t.d.ai) t.d.path->n+d<=11->∀v ∈ au n t,∃d' par' qh sv,d'<=10/\PH w d' (A v.d.ai) v.d.path/\ay w (A v.d.ai) (ld v.d par' qh sv) 130
 | 0,_,_,_,_,h,_,_,_,_,_,_,_=>h.elim
 | n+1,d,par,ix,t,h,hf,hn,vM,hp,hd,v,hv=>by
  obtain ⟨h1,h2,h3,⟨sv,h4,_,h5⟩,h6⟩:=h
  have hv:v ∈ t::t.ws.flatMap (au n):=hv
  rcases List.mem_cons.1 hv with e | e
  ·subst e; exact ⟨d,par,ix,sv,by omega,hp,h4⟩
  obtain ⟨c,hc,Ol⟩:=List.mem_flatMap.1 e
  obtain ⟨i,hi,rfl⟩:=List.mem_iff_getElem.1 hc
  have hk:=h6 i hi
  have Pj:∀v ∈ au n t.ws[i],KZ v:=λ u hu=>hn u (pK hc u hu)
  cases n with
  | zero=>cases Ol
  | succ n =>
   have hne:t.ws≠[]:=λ e=>by rw [e] at hi; exact absurd hi (Nat.not_lt_zero _)
   have hkd:=(hn t (tG t)).2 hne
   have Bl:=hk
   obtain ⟨k1,k2,k3,⟨svk,k4,_,k5⟩,k6⟩:=hk
   have hpk:PH w (d+1) (A (t.ws[i]).d.ai) (t.ws[i]).d.path :=
    ⟨_,_,i,svk,k4,by omega,(Pj _ (tG _)).1,Or.inr ⟨A t.d.ai,t.d,par,ix,sv,t.d.path,rfl,h4,h2,hkd,hp,(hf.2 i hi).2⟩⟩
   exact Gp Bl (hf.2 i hi).1 Pj (by omega) hpk (by omega) v Ol
 where
 tG {n:Nat} (t:Tv):t ∈ au (n+1) t:=List.mem_cons_self
end Go.Proofs.YtcbadebjpogmlaaGreatDoor
namespace Tr
def Ag (s:List UInt8) (a:Nat) (u:List UInt8) (b n:Nat):Prop:=∀j,j<=n->bt u (b+j)=bt s (a+j)
theorem Ag.self (s:List UInt8) (a n:Nat):Ag s a s a n:=λ_ _=>rfl
structure zX (ok:Nat->Bool) (s:List UInt8) (a n:Nat):Prop where
 all:∀j,j<n->ok (bt s (a+j))=true
 stop:ok (bt s (a+n))=false
theorem zX.ag {ok:Nat->Bool} (aC:ok 256=false) {s:List UInt8} {a n:Nat} (h:zX ok s a n) {u:List UInt8} {b:Nat} (g:Ag s a u b n):bT ok u b=b+n:=by
 refine run_eq (by omega) (λ i h1 h2=>?_) (by rw [g n (by omega)]; exact h.stop) (nQ ok u b aC)
 have:=g (i - b) (by omega)
 rw [show b+(i - b)=i by omega] at this
 rw [this]; exact h.all _ (by omega)
theorem IB {ok:Nat->Bool} {s:List UInt8} {K a:Nat} (hs:ok (bt s (run ok s K a))=false):∃n,run ok s K a=a+n/\zX ok s a n:=by
 have h1:=eG ok s K a
 refine ⟨run ok s K a - a,by omega,λ j hj=>fN ok s K a (a+j) (by omega) (by omega),?_⟩
 rw [show a+(run ok s K a - a)=run ok s K a by omega]; exact hs
abbrev tP (t:St) (m:Nat):St:={ t with p:=t.p+m }
theorem IC {s:List UInt8} {t:St} {mi:Bool} (he:(aX s t mi).e=0):t.e=0/\∃m,aX s t mi=tP t m/\0<m/\∀j,j<m->af (bt s (t.p+j))=true:=by
 have t0:t.e=0:=by
  unfold aX at he
  split at he
  ·unfold wrong at he
   split at he
   ·cases he
   exact he
  split at he
  ·exact he
  unfold dH at he
  split at he
  ·assumption
  exact he
 refine ⟨t0,?_⟩
 unfold aX at he ⊢
 split at he
 ·rw [dI t0] at he; cases he
 rename_i c1
 rw [if_neg c1]
 have hd:af (bt s t.p)=true:=by
  have:digit s t=true:=by
   by_cases y:digit s t=true
   ·exact y
   exact absurd (Or.inl (by simpa using y)) c1
  simpa [digit,t0] using this
 split at he
 ·rename_i c2
  rw [if_pos c2]
  refine ⟨1,rfl,by omega,λ j hj=>?_⟩
  rw [show j=0 by omega]; exact hd
 rename_i c2
 rw [if_neg c2]
 unfold dH
 rw [if_pos t0]
 have h1:=eG af s 3 t.p
 have h2:t.p<run af s 3 t.p:=by
  rw [run,if_pos hd]
  exact Nat.lt_of_lt_of_le (Nat.lt_succ_self _) (eG af s 2 (t.p+1))
 refine ⟨run af s 3 t.p - t.p,?_,by omega,λ j hj=>fN af s 3 t.p (t.p+j) (by omega) (by omega)⟩
 show _=St.mk (t.p+(run af s 3 t.p - t.p)) t.e t.n
 rw [show t.p+(run af s 3 t.p - t.p)=run af s 3 t.p by omega]
theorem qO:af 256=false:=rfl
theorem ID:isLet 256=false:=rfl
theorem IE:aO 256=false:=rfl
theorem BY {s:List UInt8} {t:St} (ht:t.e=0) (he:(eU s t).e=0):bt s t.p=39/\∃m,eU s t=tP t (m+2)/\bt s (t.p+1+m)=39/\zX aO s (t.p+1) m:=by
 unfold eU at he ⊢
 obtain ⟨h1,h2⟩:=jd he
 obtain ⟨e1,b1⟩:=aE h1
 have e0:(aH s t 39).e=0:=by
  unfold dH at e1
  split at e1
  ·assumption
  exact e1
 obtain ⟨h3,h4⟩:=jd e0
 obtain ⟨_,b3⟩:=aE h3
 refine ⟨b3,?_⟩
 rw [h2,h4]
 rw [h4] at b1
 unfold dH at b1 ⊢
 rw [if_pos (show (aG t).e=0 from ht)] at b1 ⊢
 have b1:bt s (run aO s 8 (t.p+1))=39:=b1
 obtain ⟨m,em,R⟩:=IB (ok:=aO) (s:=s) (K:=8) (a:=t.p+1) (by rw [b1]; rfl)
 refine ⟨m,?_,by rw [<-em]; exact b1,R⟩
 show St.mk (run aO s 8 (t.p+1)+1) t.e t.n=St.mk (t.p+(m+2)) t.e t.n
 rw [em]
 congr 1
 omega
theorem pC0 (u:List UInt8) (N b:Nat) (φ:Tv->Bool):pC u (N+1) 0 b φ=if bt u b=33 then ⟨λ t=>!((pC u N 0 (b+1) φ).v t),(pC u N 0 (b+1) φ).p⟩ else if bt u b=40 then ⟨(pC u N 2 (b+1) φ).v,(pC u N 2 (b+1) φ).p+1⟩ else oI u b:=by rw [pC]
theorem pC1 (u:List UInt8) (N b:Nat) (φ:Tv->Bool):pC u (N+1) 1 b φ=pC u N 3 (pC u N 0 b φ).p (pC u N 0 b φ).v:=by rw [pC]
theorem pC2 (u:List UInt8) (N b:Nat) (φ:Tv->Bool):pC u (N+1) 2 b φ=pC u N 4 (pC u N 1 b φ).p (pC u N 1 b φ).v:=by rw [pC]
theorem pC3 (u:List UInt8) (N b:Nat) (φ:Tv->Bool):pC u (N+1) 3 b φ=if bt u b=38 then pC u N 3 (pC u N 0 (b+2) φ).p (λ t=>φ t && (pC u N 0 (b+2) φ).v t) else ⟨φ,b⟩:=by rw [pC]
theorem pC4 (u:List UInt8) (N b:Nat) (φ:Tv->Bool):pC u (N+1) 4 b φ=if bt u b=124 then pC u N 4 (pC u N 1 (b+2) φ).p (λ t=>φ t || (pC u N 1 (b+2) φ).v t) else ⟨φ,b⟩:=by rw [pC]
theorem BZ (u:List UInt8) (N b:Nat) (acc:List b_):dY u (N+1) b acc=if bt u (bU u b).p=44 then dY u N ((bU u b).p+1) (acc++[(bU u b).v]) else ⟨acc++[(bU u b).v],(bU u b).p⟩:=by rw [dY]
theorem BC {s:List UInt8} {a n:Nat} (hn:a+n<=s.length):(sub s a (a+n)).length=n:=by
 unfold sub
 rw [List.length_take,List.length_drop]; omega
end Tr
