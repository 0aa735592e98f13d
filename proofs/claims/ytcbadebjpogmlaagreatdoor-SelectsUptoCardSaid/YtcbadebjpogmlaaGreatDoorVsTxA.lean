import Derived.Test.YtcbadebjpogmlaaGreatDoorVsPlain7
import Derived.Test.YtcbadebjpogmlaaGreatDoorVsRefA
set_option maxHeartbeats 1000000
namespace Tr
def cJ (b:Nat):Bool:=b == 32 || b == 10
structure Sk (s:List UInt8) (i j:Nat):Prop where
 ge:i<=j
 all:∀k,i<=k->k<j->cJ (bt s k)=true
 stop:cJ (bt s j)=false
def sk (s:List UInt8) (i:Nat):Nat:=run cJ s (s.length+1) i
theorem jk (s:List UInt8) (i:Nat):cJ (bt s (sk s i))=false:=by
 rcases gr cJ s (s.length+1) i with h | h
 ·unfold sk; rw [h,iD (by omega)]; rfl
 exact h
theorem fV (s:List UInt8) (i:Nat):i<=sk s i:=eG _ _ _ _
theorem I5 (s:List UInt8) (i:Nat):∀k,i<=k->k<sk s i->cJ (bt s k)=true:=λ k h1 h2=>fN _ _ _ _ k h1 h2
theorem Sk.eq {s:List UInt8} {i j:Nat} (h:Sk s i j):sk s i=j:=run_eq h.ge h.all h.stop (jk s i)
theorem ir {s:List UInt8} {i:Nat} (h:i<=s.length):sk s i<=s.length:=by
 rcases Nat.lt_or_ge s.length (sk s i) with h1 | h1
 ·have:=I5 s i s.length h h1
  rw [iD (Nat.le_refl _)] at this; cases this
 exact h1
structure Sr where
 e:Nat
 p:Nat
 t:List UInt8
def eN (s:List UInt8):Nat->Nat->List UInt8->Sr
 | 0,i,_=>⟨2,i,[]⟩
 | n+1,i,acc =>
  if bt s i=34 then ⟨0,i+1,acc⟩
  else if bt s i=92 then (if bt s (i+1)=34\/bt s (i+1)=92 then eN s n (i+2) (acc++[UInt8.ofNat (bt s (i+1))]) else ⟨2,i+1,[]⟩)
  else if bt s i<32\/126<bt s i then ⟨2,i,[]⟩
  else eN s n (i+1) (acc++[UInt8.ofNat (bt s i)])
def aP (s:List UInt8) (i:Nat):Sr:=if bt s i=34 then eN s (s.length+1) (i+1) [] else ⟨2,i,[]⟩
def iT (s:List UInt8) (p:Nat):Nat->Nat
 | 0=>0
 | k+1=>10 * iT s p k+(bt s (p+k) - 48)
def cW (s:List UInt8) (i:Nat):Nat:=if bt s i=45 then i+1 else i
def lT (s:List UInt8) (i:Nat):Nat:=if bt s (cW s i)=48 then cW s i+1 else run af s 9 (cW s i)
def pF (s:List UInt8) (i:Nat):Int:=if bt s i=45 then -(iT s (cW s i) (lT s i - cW s i):Nat) else (iT s (cW s i) (lT s i - cW s i):Nat)
def uR (s:List UInt8) (i:Nat):Bool:=af (bt s (cW s i)) && !(bt s i == 45 && bt s (cW s i) == 48)
def dz (s:List UInt8):List Nat->Nat->Nat
 | [],i=>i
 | c::l,i=>if bt s i=c then dz s l (i+1) else i
structure dO where
 kind:Nat
 n:Int
 s:List UInt8
 name:List UInt8
 path:List UInt8
 ai:Nat
 to:Nat
 cl:Int
structure Tv where
 d:dO
 ws:List Tv
def yF:Nat->Nat->List UInt8
 | 0,_=>[]
 | f+1,n=>if n<10 then [UInt8.ofNat (48+n)] else yF f (n / 10)++[UInt8.ofNat (48+n % 10)]
def dec (n:Nat):List UInt8:=yF (n+1) n
theorem CI:∀f g n,n<f->n<g->yF f n=yF g n
 | 0,_,_,h,_=>absurd h (Nat.not_lt_zero _)
 | _+1,0,_,_,h=>absurd h (Nat.not_lt_zero _)
 | f+1,g+1,n,h1,h2=>by
  unfold yF
  by_cases h:n<10
  ·rw [if_pos h,if_pos h]
  rw [if_neg h,if_neg h,CI f g (n / 10) (by omega) (by omega)]
theorem nE {n:Nat} (h:n<10):dec n=[UInt8.ofNat (48+n)]:=by unfold dec yF; rw [if_pos h]
theorem nF {n:Nat} (h:¬n<10):dec n=dec (n / 10)++[UInt8.ofNat (48+n % 10)]:=by
 have e:dec n=yF n (n / 10)++[UInt8.ofNat (48+n % 10)]:=by unfold dec; rw [yF,if_neg h]
 rw [e,CI n (n / 10+1) (n / 10) (by omega) (by omega)]
 rfl
theorem mD:∀n,(dec n).length<=n+1:=by
 intro n
 induction n using Nat.strongRecOn with
 | _ n ih =>
  by_cases h:n<10
  ·rw [nE h]; simp
  rw [nF h,List.length_append]
  have:=ih (n / 10) (by omega)
  simp; omega
def gV (b:UInt8):List UInt8:=if b=39\/b=92 then [92,b] else [b]
def iV (l:List UInt8):List UInt8:=[39]++l.flatMap gV++[39]
def fH (cG b:Nat):Bool:=b == 32 || b == 10 || (cG != 0 && (b == 44 || (cG == 4 && b == 93) || (cG == 5 && b == 125)))
def PD:List Nat:=[116,114,117,101]
def PE:List Nat:=[102,97,108,115,101]
def PF:List Nat:=[110,117,108,108]
def bw (b:Nat):List Nat:=if b=116 then PD else if b=102 then PE else PF
def b8 (k:Nat):Nat:=if k=4 then 93 else 125
structure Rs where
 ws:List Tv
 e:Nat
 p:Nat
def iW (s:List UInt8) (nm pt:List UInt8) (cG j:Nat):Rs :=
 if bt s j=34 then (if (aP s j).e=0 then ⟨[⟨⟨2,0,(aP s j).t,nm,pt,j,(aP s j).p,((aP s j).p:Int) - 1⟩,[]⟩],0,(aP s j).p⟩ else ⟨[],(aP s j).e,(aP s j).p⟩)
 else if bt s j=116\/bt s j=102\/bt s j=110 then
  (if dz s (bw (bt s j)) j=j+(bw (bt s j)).length then ⟨[⟨⟨3,0,(bw (bt s j)).map UInt8.ofNat,nm,pt,j,dz s (bw (bt s j)) j,(dz s (bw (bt s j)) j:Int) - 1⟩,[]⟩],0,dz s (bw (bt s j)) j⟩ else ⟨[],2,dz s (bw (bt s j)) j⟩)
 else if uR s j=true then ⟨[⟨⟨1,pF s j,[],nm,pt,j,lT s j,if fH cG (bt s (lT s j))=true then (lT s j:Int) else -1⟩,[]⟩],0,lT s j⟩
 else ⟨[],2,cW s j⟩
def held (k:Nat) (nm pt:List UInt8) (j:Nat) (r:Rs):Rs:=⟨[⟨⟨k,0,[],nm,pt,j,if r.e=0 then r.p else 0,if r.e=0 then (r.p:Int) - 1 else -1⟩,r.ws⟩],r.e,r.p⟩
def rd (s:List UInt8):Nat->Bool->Nat->List UInt8->List UInt8->Nat->Nat->List Tv->Rs
 | 0,_,_,_,_,_,i,_=>⟨[],2,i⟩
 | n+1,false,dp,nm,pt,k,i,_ =>
  if bt s (sk s i)=256 then ⟨[],2,sk s i⟩
  else if bt s (sk s i)=91\/bt s (sk s i)=123 then
   (if 8<dp then ⟨[],3,sk s i⟩
   else held (if bt s (sk s i)=91 then 4 else 5) nm pt (sk s i)
    (if bt s (sk s (sk s i+1))=b8 (if bt s (sk s i)=91 then 4 else 5) then ⟨[],0,sk s (sk s i+1)+1⟩
    else rd s n true dp [] pt (if bt s (sk s i)=91 then 4 else 5) (sk s (sk s i+1)) []))
  else iW s nm pt k (sk s i)
 | n+1,true,dp,_,pt,k,i,ws =>
  let r:=if k=4 then rd s n false (dp+1) [] (pt++[91]++dec ws.length++[93]) 4 i []
   else if (aP s (sk s i)).e≠0 then ⟨[],(aP s (sk s i)).e,(aP s (sk s i)).p⟩
   else if bt s (sk s (aP s (sk s i)).p)=58 then rd s n false (dp+1) (aP s (sk s i)).t (pt++[91]++iV (aP s (sk s i)).t++[93]) 5 (sk s (aP s (sk s i)).p+1) []
   else ⟨[],2,sk s (aP s (sk s i)).p⟩
  if r.e≠0 then ⟨ws++r.ws,r.e,r.p⟩
  else if bt s (sk s r.p)=44 then rd s n true dp [] pt k (sk s r.p+1) (ws++r.ws)
  else if bt s (sk s r.p)=b8 k then ⟨ws++r.ws,0,sk s r.p+1⟩
  else ⟨ws++r.ws,2,sk s r.p⟩
def aV (s:List UInt8):Rs :=
 let r:=rd s (2 * s.length+3) false 1 [] [36] 0 0 []
 if r.e≠0 then r else if bt s (sk s r.p)=256 then ⟨r.ws,0,sk s r.p⟩ else ⟨r.ws,2,sk s r.p⟩
end Tr
namespace Go.Proofs.YtcbadebjpogmlaaGreatDoor
open Go.RowKit Tr
def yG (s:ByteArray) (p e:Nat) (rt:Value):Array Value:=#[.string s,.int .i64 (p:Nat),.int .i64 (e:Nat),rt]
structure RR (b:Nat) (s:ByteArray) (w:World) (p e:Nat) (rt:Value) (w':World):Prop where
 k:ay w' b (yG s p e rt) 161
 f:Fr (PB b) w w'
theorem RR.c0 {b:Nat} {s:ByteArray} {w w':World} {p e:Nat} {rt:Value} (h:RR b s w p e rt w'):w'.cell? ⟨b,0,none⟩=some (.string s):=h.k.cell 0
theorem RR.c1 {b:Nat} {s:ByteArray} {w w':World} {p e:Nat} {rt:Value} (h:RR b s w p e rt w'):w'.cell? ⟨b,1,none⟩=some (.int .i64 (p:Nat)):=h.k.cell 1
theorem RR.c2 {b:Nat} {s:ByteArray} {w w':World} {p e:Nat} {rt:Value} (h:RR b s w p e rt w'):w'.cell? ⟨b,2,none⟩=some (.int .i64 (e:Nat)):=h.k.cell 2
theorem RR.drewN {b:Nat} {s:ByteArray} {w w':World} {p e:Nat} {rt:Value} (h:RR b s w p e rt w') (n:Nat):RR b s w p e rt (w'.drewN n):=⟨h.k,h.f.drewN n⟩
theorem RR.jD {b:Nat} {s:ByteArray} {w w':World} {p e:Nat} {rt:Value} (h:RR b s w p e rt w') (q:Nat):RR b s w q e rt (w'.setCell ⟨b,1,none⟩ (.int .i64 (q:Nat))):=⟨h.k.set 1 _,h.f.setCell ⟨b,1,none⟩ (Or.inl rfl) _⟩
theorem RR.FH {b:Nat} {s:ByteArray} {w w':World} {p e:Nat} {rt:Value} (h:RR b s w p e rt w') (q:Nat):RR b s w p q rt (w'.setCell ⟨b,2,none⟩ (.int .i64 (q:Nat))):=⟨h.k.set 2 _,h.f.setCell ⟨b,2,none⟩ (Or.inl rfl) _⟩
theorem RR.here {b:Nat} {s:ByteArray} {w w':World} {p e:Nat} {rt:Value} (h:RR b s w p e rt w'):RR b s w' p e rt w':=⟨h.k,Fr.refl _ _⟩
theorem RR.alloc {b:Nat} {s:ByteArray} {w w':World} {p e:Nat} {rt:Value} (h:RR b s w p e rt w') (o:Obj):RR b s w p e rt (w'.alloc o):=⟨h.k.alloc o,h.f.alloc o⟩
theorem aJ (w:World) (a b:Nat):(w.drewN a).drewN b=w.drewN (a+b):=by simp [World.drewN,Nat.add_assoc]
theorem gS {w0 w:World} {b:Nat} {s:ByteArray} {p e:Nat} {rt:Value} (h:RR b s w0 p e rt w) (e':Nat) (ei:Int) (hei:ei=e') :
 Calls Tryz.prog 100 #[.pointer (some ⟨b,0,none⟩),.int .i64 ei] w λ r w'=>r=.returned (.tuple #[])/\RR b s w0 p (if e=0 then e' else e) rt w':=by
 subst hei
 have h2:=h.c2
 have hz:=h.k.fz 2
 by_cases he:e=0
 ·subst he
  have HR:=aa (h.FH e')
  rw [if_pos rfl]
  clear h
  simp only [Int.natCast_zero] at h2
  go_enter Tryz.func100,Tryz.ntmps100
  go_wp2
  go_end0
  exact ⟨rfl,HR.out⟩
 rw [if_neg he]
 have HR:=aa h
 have hq:=pG he
 clear h
 go_enter Tryz.func100,Tryz.ntmps100
 go_wp2
 go_end0
 exact ⟨rfl,HR.out⟩
theorem mh {w0 w:World} {b:Nat} {s:ByteArray} {p e:Nat} {rt:Value} (h:RR b s w0 p e rt w) :
 Calls Tryz.prog 99 #[.pointer (some ⟨b,0,none⟩)] w λ r w'=>r=.returned (.bool (decide (e=0) && decide (p<s.size)))/\∃n,w'=w.drewN n:=by
 have h0:=h.c0
 have h1:=h.c1
 have h2:=h.c2
 clear h
 by_cases he:e=0
 ·subst he
  have hq:(decide ((p:Int)<(s.size:Int)))=decide (p<s.size):=by simp
  by_cases hp:p<s.size
  ·have hd:decide ((p:Int)<(s.size:Int))=true:=by simp; omega
   have hf:(decide (0=0) && decide (p<s.size))=true:=by simp [hp]
   rw [hf]
   clear hf hq
   go_enter Tryz.func99,Tryz.ntmps99
   go_wp2
   go_quiet (fail)
   go_wp2
   go_ret
   exact ⟨rfl,_,rfl⟩
  have hd:decide ((p:Int)<(s.size:Int))=false:=by simp; omega
  have hf:(decide (0=0) && decide (p<s.size))=false:=by simp [hp]
  rw [hf]
  clear hf hq
  go_enter Tryz.func99,Tryz.ntmps99
  go_wp2
  go_quiet (fail)
  go_wp2
  go_ret
  exact ⟨rfl,_,rfl⟩
 have hf:(decide (e=0) && decide (p<s.size))=false:=by simp [he]
 rw [hf]
 have hq:=pG he
 clear hf
 go_enter Tryz.func99,Tryz.ntmps99
 go_wp2
 go_quiet (fail)
 go_wp2
 go_ret
 exact ⟨rfl,_,rfl⟩
theorem AI {w0 w:World} {b:Nat} {s:ByteArray} {p e:Nat} {rt:Value} (h:RR b s w0 p e rt w) (c:Nat) (ci:Int) (Jf:ci=c) (hc:c<256) :
 Calls Tryz.prog 130 #[.pointer (some ⟨b,0,none⟩),.int .u8 ci] w λ r w'=>r=.returned (.bool (decide (e=0) && decide (bt (bs s) p=c)))/\∃n,w'=w.drewN n:=by
 subst Jf
 have H:=aa h
 have h0:=h.c0
 have h1:=h.c1
 clear h
 by_cases hm:(decide (e=0) && decide (p<s.size))=true
 ·have hp:p<s.size:=by simp at hm; exact hm.2
  have he:e=0:=by simp at hm; exact hm.1
  have hf:(decide (e=0) && decide (bt (bs s) p=c))=((s[p].toNat:Int) == (c:Int)):=by
   rw [dR hp,he,Bool.eq_iff_iff]; simp; omega
  rw [hf]
  have HM:=aa hm
  clear hf hm
  go_enter Tryz.func130,Tryz.ntmps130
  go_wp2_with fail
  refine (mh H.out).mono ?_
  rintro r w1 ⟨rfl,n1,rfl⟩
  rw [HM.out]
  have k0:(w.drewN n1).cell? ⟨b,0,none⟩=some (.string s):=h0
  have k1:(w.drewN n1).cell? ⟨b,1,none⟩=some (.int .i64 (p:Nat)):=h1
  have Xv:(p:Int)<(s.size:Int):=by omega
  go_wp2
  go_quiet (fail)
  go_wp2
  go_ret
  exact ⟨rfl,_,aJ _ _ _⟩
 have hm:(decide (e=0) && decide (p<s.size))=false:=by simpa using hm
 have hf:(decide (e=0) && decide (bt (bs s) p=c))=false:=by
  by_cases he:e=0
  ·have hp:¬p<s.size:=by simpa [he] using hm
   rw [gK hp]; simp; omega
  simp [he]
 rw [hf]
 have HM:=aa hm
 clear hf hm
 go_enter Tryz.func130,Tryz.ntmps130
 go_wp2_with fail
 refine (mh H.out).mono ?_
 rintro r w1 ⟨rfl,n1,rfl⟩
 rw [HM.out]
 go_wp2
 go_quiet (fail)
 go_wp2
 go_ret
 exact ⟨rfl,_,aJ _ _ _⟩
theorem Nv {w0 w:World} {b:Nat} {s:ByteArray} {p e:Nat} {rt:Value} (h:RR b s w0 p e rt w) :
 Calls Tryz.prog 172 #[.pointer (some ⟨b,0,none⟩)] w λ r w'=>r=.returned (.bool (decide (e=0) && af (bt (bs s) p)))/\∃n,w'=w.drewN n:=by
 have H:=aa h
 have h0:=h.c0
 have h1:=h.c1
 clear h
 by_cases hm:(decide (e=0) && decide (p<s.size))=true
 ·have hp:p<s.size:=by simp at hm; exact hm.2
  have he:e=0:=by simp at hm; exact hm.1
  have HM:=aa hm
  have Xv:(p:Int)<(s.size:Int):=by omega
  have k0:∀n,(w.drewN n).cell? ⟨b,0,none⟩=some (.string s):=λ_=>h0
  have k1:∀n,(w.drewN n).cell? ⟨b,1,none⟩=some (.int .i64 (p:Nat)):=λ_=>h1
  have oo:=dR hp
  by_cases h48:48<=s[p].toNat
  ·have d1:decide ((48:Int)<=(s[p].toNat:Int))=true:=by simp; omega
   by_cases h57:s[p].toNat<=57
   ·have d2:decide ((s[p].toNat:Int)<=(57:Int))=true:=by simp; omega
    have hf:(decide (e=0) && af (bt (bs s) p))=true:=by rw [oo]; simp [he,af,h48,h57]
    rw [hf]
    clear hf hm oo
    go_enter Tryz.func172,Tryz.ntmps172
    go_wp2_with fail
    refine (mh H.out).mono ?_
    rintro r w1 ⟨rfl,n1,rfl⟩
    rw [HM.out]
    have k0':=k0 n1
    have k1':=k1 n1
    go_wp2
    go_quiet (fail)
    go_wp2
    go_ret
    exact ⟨rfl,_,aJ _ _ _⟩
   have d2:decide ((s[p].toNat:Int)<=(57:Int))=false:=by simp; omega
   have hf:(decide (e=0) && af (bt (bs s) p))=false:=by rw [oo]; simp [af,h57]
   rw [hf]
   clear hf hm oo
   go_enter Tryz.func172,Tryz.ntmps172
   go_wp2_with fail
   refine (mh H.out).mono ?_
   rintro r w1 ⟨rfl,n1,rfl⟩
   rw [HM.out]
   have k0':=k0 n1
   have k1':=k1 n1
   go_wp2
   go_quiet (fail)
   go_wp2
   go_ret
   exact ⟨rfl,_,aJ _ _ _⟩
  have d1:decide ((48:Int)<=(s[p].toNat:Int))=false:=by simp; omega
  have hf:(decide (e=0) && af (bt (bs s) p))=false:=by rw [oo]; simp [af,h48]
  rw [hf]
  clear hf hm oo
  go_enter Tryz.func172,Tryz.ntmps172
  go_wp2_with fail
  refine (mh H.out).mono ?_
  rintro r w1 ⟨rfl,n1,rfl⟩
  rw [HM.out]
  have k0':=k0 n1
  have k1':=k1 n1
  go_wp2
  go_quiet (fail)
  go_wp2
  go_ret
  exact ⟨rfl,_,aJ _ _ _⟩
 have hm:(decide (e=0) && decide (p<s.size))=false:=by simpa using hm
 have hf:(decide (e=0) && af (bt (bs s) p))=false:=by
  by_cases he:e=0
  ·have hp:¬p<s.size:=by simpa [he] using hm
   rw [gK hp]; simp [af]
  simp [he]
 rw [hf]
 have HM:=aa hm
 clear hf hm
 go_enter Tryz.func172,Tryz.ntmps172
 go_wp2_with fail
 refine (mh H.out).mono ?_
 rintro r w1 ⟨rfl,n1,rfl⟩
 rw [HM.out]
 go_wp2
 go_quiet (fail)
 go_wp2
 go_ret
 exact ⟨rfl,_,aJ _ _ _⟩
def dJ (s:List UInt8) (p e c:Nat):Nat:=if e=0/\bt s p=c then p+1 else p
def dK (s:List UInt8) (p e c:Nat):Nat:=if e=0/\bt s p≠c then 2 else e
theorem jz {w0 w:World} {b:Nat} {s:ByteArray} {p e:Nat} {rt:Value} (h:RR b s w0 p e rt w) (hs:s.size<=4000000) (c:Nat) (ci:Int) (Jf:ci=c) (hc:c<256) :
 Calls Tryz.prog 171 #[.pointer (some ⟨b,0,none⟩),.int .u8 ci] w λ r w'=>r=.returned (.tuple #[])/\RR b s w0 (dJ (bs s) p e c) (dK (bs s) p e c) rt w':=by
 subst Jf
 have H:=aa h
 have h1:=h.c1
 have hz:=h.k.fz 1
 clear h
 by_cases hm:(decide (e=0) && decide (bt (bs s) p=c))=true
 ·have hb:e=0/\bt (bs s) p=c:=by simpa using hm
  have hp:p<s.size:=by
   have:=cD (s:=bs s) (p:=p) (by omega)
   rw [an] at this; exact this
  have HM:=aa hm
  have e1:dJ (bs s) p e c=p+1:=by simp [dJ,hb]
  have e2:dK (bs s) p e c=e:=by simp [dK,hb]
  rw [e1,e2]
  clear hm hb e1 e2
  go_enter Tryz.func171,Tryz.ntmps171
  go_wp2_with fail
  refine (AI H.out c _ rfl hc).mono ?_
  rintro r w1 ⟨rfl,n1,rfl⟩
  rw [HM.out]
  have k1:(w.drewN n1).cell? ⟨b,1,none⟩=some (.int .i64 (p:Nat)):=h1
  have kz:(w.drewN n1).frozen? ⟨b,1,none⟩=false:=hz
  go_wp2
  go_end0
  exact ⟨rfl,(H.out.drewN n1).jD (p+1)⟩
 have hm:(decide (e=0) && decide (bt (bs s) p=c))=false:=by simpa using hm
 have HM:=aa hm
 have e1:dJ (bs s) p e c=p:=by
  unfold dJ
  rw [if_neg]
  rintro ⟨h1,h2⟩
  simp [h1,h2] at hm
 have e2:dK (bs s) p e c=if e=0 then 2 else e:=by
  unfold dK
  by_cases he:e=0
  ·have:bt (bs s) p≠c:=λ x=>by simp [he,x] at hm
   simp [he,this]
  simp [he]
 rw [e1,e2]
 have HW:Hid (∀w1,RR b s w0 p e rt w1->Calls Tryz.prog 100 #[.pointer (some ⟨b,0,none⟩),.int .i64 2] w1 λ r w'=>r=.returned (.tuple #[])/\RR b s w0 p (if e=0 then 2 else e) rt w'):=λ w1 h1=>gS h1 2 _ rfl
 clear hm e1 e2
 generalize (if e=0 then 2 else e)=ee at *
 go_enter Tryz.func171,Tryz.ntmps171
 go_wp2_with fail
 refine (AI H.out c _ rfl hc).mono ?_
 rintro r w1 ⟨rfl,n1,rfl⟩
 rw [HM.out]
 go_wp2_with fail
 refine (HW.out _ (H.out.drewN n1)).mono ?_
 rintro r w2 ⟨rfl,h2⟩
 have H2:=aa h2
 clear h2
 go_wp2
 (try simp only [Exit.inBlock,Exit.then]); refine bodyPost_ret (results_none rfl _ _ _) rfl ?_
 exact ⟨rfl,H2.out⟩
def rP (b:Nat) (w:World):Nat:=match w.cell? ⟨b,1,none⟩ with | some (.int _ n)=>n.toNat | _=>0
theorem RR.rP {b:Nat} {s:ByteArray} {w w':World} {p e:Nat} {rt:Value} (h:RR b s w p e rt w'):rP b w'=p:=by
 have:=h.c1
 simp [Go.Proofs.YtcbadebjpogmlaaGreatDoor.rP,this]
theorem kG {w0 w:World} {b:Nat} {s:ByteArray} {p e:Nat} {rt:Value} (h:RR b s w0 p e rt w) (c:Nat) (ci:Int) (Jf:ci=c) (hc:c<256) (x:Bool) (hx:(decide (e=0) && decide (bt (bs s) p=c))=x) :
 Calls Tryz.prog 130 #[.pointer (some ⟨b,0,none⟩),.int .u8 ci] w λ r w'=>r=.returned (.bool x)/\RR b s w0 p e rt w' :=
 (AI h c ci Jf hc).mono λ_ _ ⟨h1,n,h2⟩=>⟨by rw [h1,hx],by rw [h2]; exact h.drewN n⟩
theorem yH {w0 w:World} {b:Nat} {s:ByteArray} {p e:Nat} {rt:Value} (h:RR b s w0 p e rt w) (x:Bool) (hx:(decide (e=0) && decide (p<s.size))=x) :
 Calls Tryz.prog 99 #[.pointer (some ⟨b,0,none⟩)] w λ r w'=>r=.returned (.bool x)/\RR b s w0 p e rt w' :=
 (mh h).mono λ_ _ ⟨h1,n,h2⟩=>⟨by rw [h1,hx],by rw [h2]; exact h.drewN n⟩
theorem JS {w0 w:World} {b:Nat} {s:ByteArray} {p e:Nat} {rt:Value} (h:RR b s w0 p e rt w) (x:Bool) (hx:(decide (e=0) && af (bt (bs s) p))=x) :
 Calls Tryz.prog 172 #[.pointer (some ⟨b,0,none⟩)] w λ r w'=>r=.returned (.bool x)/\RR b s w0 p e rt w' :=
 (Nv h).mono λ_ _ ⟨h1,n,h2⟩=>⟨by rw [h1,hx],by rw [h2]; exact h.drewN n⟩
theorem SY {s:ByteArray} {p c:Nat} (h:bt (bs s) p=c) (hc:c<256):p<s.size:=by
 have:=cD (s:=bs s) (p:=p) (by omega)
 rw [an] at this; exact this
theorem dL {w0 w:World} {b:Nat} {s:ByteArray} {p:Nat} {rt:Value} (h:RR b s w0 p 0 rt w) (hs:s.size<=4000000) :
 Calls Tryz.prog 98 #[.pointer (some ⟨b,0,none⟩)] w λ r w'=>r=.returned (.tuple #[])/\∃j,Sk (bs s) p j/\RR b s w0 j 0 rt w':=by
 have H:=aa h
 clear h
 go_enter Tryz.func98,Tryz.ntmps98
 go_wp2
 go_loopw [2,3] (λ_ _ wr=>∃j,p<=j/\(∀k,p<=k->k<j->cJ (bt (bs s) k)=true)/\RR b s w0 j 0 rt wr) (λ_ _ wr=>s.size - rP b wr)
 case atStart=>exact ⟨p,Nat.le_refl _,λ k h1 h2=>by omega,H.out⟩
 case round =>
  clear H
  obtain ⟨j,hj,hall,hR⟩:=hrel
  have HR:=aa hR
  have HA:=aa hall
  have HM:=aa hR.rP
  clear hR hall
  obtain ⟨x1,hx1⟩:∃x1,(decide (0=0) && decide (bt (bs s) j=32))=x1:=⟨_,rfl⟩
  obtain ⟨x2,hx2⟩:∃x2,(decide (0=0) && decide (bt (bs s) j=10))=x2:=⟨_,rfl⟩
  have X1:=aa hx1
  have X2:=aa hx2
  by_cases hx:x1=false/\x2=false
  ·have hst:cJ (bt (bs s) j)=false:=by
    obtain ⟨rfl,rfl⟩:=hx
    simp at hx1 hx2
    simp [cJ,hx1,hx2]
   have HS:=aa hst
   obtain ⟨rfl,rfl⟩:=hx
   clear hx1 hx2 hst
   go_wp2_with fail
   refine (kG HR.out 32 _ rfl (by decide) _ X1.out).mono ?_
   rintro r w1 ⟨rfl,h1⟩
   have R1:=aa h1
   clear h1
   go_wp2_with fail
   refine (kG R1.out 10 _ rfl (by decide) _ X2.out).mono ?_
   rintro r w2 ⟨rfl,h2⟩
   have R2:=aa h2
   clear h2 R1
   go_wp2
   (try simp only [Exit.inBlock,Exit.then]); refine bodyPost_ret (results_none rfl _ _ _) rfl ?_
   exact ⟨rfl,j,⟨hj,HA.out,HS.out⟩,R2.out⟩
  have hlt:j<s.size:=by
   by_cases h32:bt (bs s) j=32
   ·exact SY h32 (by decide)
   by_cases h10:bt (bs s) j=10
   ·exact SY h10 (by decide)
   exact absurd ⟨by rw [<-hx1]; simp [h32],by rw [<-hx2]; simp [h10]⟩ hx
  have wF:cJ (bt (bs s) j)=true:=by
   by_cases h32:bt (bs s) j=32
   ·simp [cJ,h32]
   by_cases h10:bt (bs s) j=10
   ·simp [cJ,h10]
   exact absurd ⟨by rw [<-hx1]; simp [h32],by rw [<-hx2]; simp [h10]⟩ hx
  have HS:=aa wF
  have hx':x1=true\/(x1=false/\x2=true):=by cases x1<;>cases x2<;>simp_all
  clear hx1 hx2 wF hx
  go_wp2_with fail
  refine (kG HR.out 32 _ rfl (by decide) _ X1.out).mono ?_
  rintro r w1 ⟨rfl,h1⟩
  have R1:=aa h1
  clear h1
  go_wp2_with fail
  refine (kG R1.out 10 _ rfl (by decide) _ X2.out).mono ?_
  rintro r w2 ⟨rfl,h2⟩
  have R2:=aa h2
  have k1:=h2.c1
  have kz:=h2.k.fz 1
  clear h2 R1
  have R3:=aa (R2.out.jD (j+1))
  have Xw:((j+1:Nat):Int)=(j:Int)+1:=by omega
  rw [Xw] at R3
  have HM3:=aa R3.out.rP
  rcases hx' with rfl | ⟨rfl,rfl⟩
  all_goals
   go_wp2
   go_roundw
   case rel =>
    refine ⟨j+1,by omega,λ k h1 h2=>?_,R3.out⟩
    rcases Nat.lt_or_ge k j with h | h
    ·exact HA.out k h1 h
    have:k=j:=by omega
    rw [this]; exact HS.out
   case measure =>
    rw [HM.out,HM3.out]; omega
end Go.Proofs.YtcbadebjpogmlaaGreatDoor
namespace Tr
theorem gu {s:List UInt8} {p c:Nat} (h:bt s p=c) (hc:c<256):p<s.length:=cD (by omega)
theorem vw {s:List UInt8}:∀(n i:Nat) (acc:List UInt8),i<=s.length->i<=(eN s n i acc).p/\(eN s n i acc).p<=s.length/\((eN s n i acc).e=0->i<(eN s n i acc).p)
 | 0,i,acc,h=>⟨Nat.le_refl _,h,λ h=>by cases h⟩
 | n+1,i,acc,h=>by
  unfold eN
  split
  ·rename_i h1
   have:=gu h1 (by decide)
   exact ⟨by simp,this,λ_=>by simp⟩
  split
  ·rename_i h1
   have h2:=gu h1 (by decide)
   split
   ·rename_i h3
    have h4:i+1<s.length:=by rcases h3 with h3 | h3<;>exact gu h3 (by decide)
    have:=vw (s:=s) n (i+2) (acc++[UInt8.ofNat (bt s (i+1))]) (by omega)
    exact ⟨by omega,this.2.1,λ_=>by omega⟩
   exact ⟨by simp,h2,λ h=>by cases h⟩
  split
  ·exact ⟨Nat.le_refl _,h,λ h=>by cases h⟩
  rename_i h1 h2 h3
  have h4:i<s.length:=cD (by omega)
  have:=vw (s:=s) n (i+1) (acc++[UInt8.ofNat (bt s i)]) (by omega)
  exact ⟨by omega,this.2.1,λ_=>by omega⟩
theorem lJ {s:List UInt8} {i:Nat} (h:i<=s.length):i<=(aP s i).p/\(aP s i).p<=s.length/\((aP s i).e=0->i<(aP s i).p):=by
 unfold aP
 split
 ·rename_i h1
  have h2:=gu h1 (by decide)
  have:=vw (s:=s) (s.length+1) (i+1) [] (by omega)
  exact ⟨by omega,this.2.1,λ_=>by omega⟩
 exact ⟨Nat.le_refl _,h,λ h=>by cases h⟩
theorem rF {s:List UInt8}:∀(n i:Nat) (acc:List UInt8),acc.length<=i->i<=s.length->(eN s n i acc).t.length<=s.length
 | 0,i,acc,_,_=>by simp [eN]
 | n+1,i,acc,h,hi=>by
  unfold eN
  split
  ·simp; omega
  split
  ·rename_i h1
   split
   ·rename_i h3
    have h4:i+1<s.length:=by rcases h3 with h3 | h3<;>exact gu h3 (by decide)
    exact rF n (i+2) _ (by simp; omega) (by omega)
   simp
  split
  ·simp
  rename_i h1 h2 h3
  have h4:i<s.length:=cD (by omega)
  exact rF n (i+1) _ (by simp; omega) (by omega)
theorem JT {s:List UInt8} {i:Nat}:(aP s i).t.length<=s.length:=by
 unfold aP
 split
 ·rename_i h1
  have h2:=gu h1 (by decide)
  exact rF _ _ _ (by simp) (by omega)
 simp
theorem vz {s:List UInt8}:∀(l:List Nat) (i:Nat),(∀c ∈ l,c<256)->i<=s.length->i<=dz s l i/\dz s l i<=s.length
 | [],i,_,h=>⟨Nat.le_refl _,h⟩
 | c::l,i,hl,h=>by
  unfold dz
  split
  ·rename_i h1
   have h2:=gu h1 (hl c (by simp))
   have:=vz (s:=s) l (i+1) (λ c hc=>hl c (by simp [hc])) (by omega)
   omega
  exact ⟨Nat.le_refl _,h⟩
theorem Eo (b:Nat):∀c ∈ bw b,c<256:=by
 unfold bw
 split
 ·decide
 split<;>decide
theorem yI {s:List UInt8} {i:Nat} (h:i<=s.length):i<=cW s i/\cW s i<=s.length:=by
 unfold cW
 split
 ·rename_i h1
  have:=gu h1 (by decide)
  omega
 omega
theorem JU {s:List UInt8} {i:Nat} (h:i<=s.length) (hn:uR s i=true):i<lT s i/\lT s i<=s.length:=by
 have h1:=yI h
 have hd:af (bt s (cW s i))=true:=by unfold uR at hn; simp at hn; exact hn.1
 have hlt:cW s i<s.length:=cD (by simp [af] at hd; omega)
 unfold lT
 split
 ·omega
 have h2:=mU (ok:=af) (s:=s) (λ b h=>by simp [af] at h; omega) 9 (cW s i) h1.2
 have h3:cW s i+1<=run af s 9 (cW s i):=by
  show _<=run af s (8+1) (cW s i)
  unfold run
  rw [if_pos hd]
  exact eG _ _ _ _
 omega
theorem CJ {s:List UInt8} {nm pt:List UInt8} {cG j:Nat} (h:j<s.length):j<=(iW s nm pt cG j).p/\(iW s nm pt cG j).p<=s.length/\((iW s nm pt cG j).e=0->j<(iW s nm pt cG j).p)/\(∀t ∈ (iW s nm pt cG j).ws,t.d.ai=j/\t.ws=[]/\(iW s nm pt cG j).e=0):=by
 unfold iW
 split
 ·have:=lJ (s:=s) (i:=j) (by omega)
  split
  ·rename_i h1 h2
   exact ⟨this.1,this.2.1,λ_=>this.2.2 h2,λ t ht=>by simp at ht; subst ht; exact ⟨rfl,rfl,rfl⟩⟩
  exact ⟨this.1,this.2.1,this.2.2,λ t ht=>by simp at ht⟩
 split
 ·have:=vz (s:=s) (bw (bt s j)) j (Eo _) (by omega)
  split
  ·rename_i h1 h2 h3
   have hl:0<(bw (bt s j)).length:=by unfold bw; split; decide; split<;>decide
   exact ⟨this.1,this.2,λ_=>by rw [h3]; simp; omega,λ t ht=>by simp at ht; subst ht; exact ⟨rfl,rfl,rfl⟩⟩
  exact ⟨this.1,this.2,(λ h=>by cases h),λ t ht=>by simp at ht⟩
 split
 ·rename_i h1 h2 h3
  have:=JU (s:=s) (i:=j) (by omega) h3
  exact ⟨by simp; omega,this.2,λ_=>this.1,λ t ht=>by simp at ht; subst ht; exact ⟨rfl,rfl,rfl⟩⟩
 have:=yI (s:=s) (i:=j) (by omega)
 exact ⟨this.1,this.2,(λ h=>by cases h),λ t ht=>by simp at ht⟩
def dn (s:List UInt8) (n dp:Nat) (pt:List UInt8) (k i m:Nat):Rs :=
 if k=4 then rd s n false (dp+1) [] (pt++[91]++dec m++[93]) 4 i []
 else if (aP s (sk s i)).e≠0 then ⟨[],(aP s (sk s i)).e,(aP s (sk s i)).p⟩
 else if bt s (sk s (aP s (sk s i)).p)=58 then rd s n false (dp+1) (aP s (sk s i)).t (pt++[91]++iV (aP s (sk s i)).t++[93]) 5 (sk s (aP s (sk s i)).p+1) []
 else ⟨[],2,sk s (aP s (sk s i)).p⟩
theorem nh (s:List UInt8) (n dp:Nat) (nm pt:List UInt8) (k i:Nat) (ws:List Tv):rd s (n+1) true dp nm pt k i ws =
 if (dn s n dp pt k i ws.length).e≠0 then ⟨ws++(dn s n dp pt k i ws.length).ws,(dn s n dp pt k i ws.length).e,(dn s n dp pt k i ws.length).p⟩
 else if bt s (sk s (dn s n dp pt k i ws.length).p)=44 then rd s n true dp [] pt k (sk s (dn s n dp pt k i ws.length).p+1) (ws++(dn s n dp pt k i ws.length).ws)
 else if bt s (sk s (dn s n dp pt k i ws.length).p)=b8 k then ⟨ws++(dn s n dp pt k i ws.length).ws,0,sk s (dn s n dp pt k i ws.length).p+1⟩
 else ⟨ws++(dn s n dp pt k i ws.length).ws,2,sk s (dn s n dp pt k i ws.length).p⟩:=rfl
def pH (s:List UInt8) (n dp:Nat) (pt:List UInt8) (k i:Nat):Rs:=if bt s (sk s i)=b8 k then ⟨[],0,sk s i+1⟩ else rd s n true dp [] pt k (sk s i) []
theorem rd_val (s:List UInt8) (n dp:Nat) (nm pt:List UInt8) (k i:Nat) (ws:List Tv):rd s (n+1) false dp nm pt k i ws =
 if bt s (sk s i)=256 then ⟨[],2,sk s i⟩
 else if bt s (sk s i)=91\/bt s (sk s i)=123 then
  (if 8<dp then ⟨[],3,sk s i⟩ else held (if bt s (sk s i)=91 then 4 else 5) nm pt (sk s i) (pH s n dp pt (if bt s (sk s i)=91 then 4 else 5) (sk s i+1)))
 else iW s nm pt k (sk s i):=rfl
theorem hY (k:Nat):b8 k<256:=by unfold b8; split<;>decide
structure Fwd (s:List UInt8) (i:Nat) (R:Rs):Prop where
 ge:i<=R.p
 le:R.p<=s.length
 gt:R.e=0->i<R.p
theorem k7 {s:List UInt8}:∀(n:Nat) (b:Bool) (dp:Nat) (nm pt:List UInt8) (k i:Nat) (ws:List Tv),i<=s.length->Fwd s i (rd s n b dp nm pt k i ws)
 | 0,_,_,_,_,_,i,_,h=>⟨Nat.le_refl _,h,λ h=>by cases h⟩
 | n+1,false,dp,nm,pt,k,i,ws,h=>by
  have h1:=fV s i
  have h2:=ir h
  rw [rd_val]
  split
  ·exact ⟨h1,h2,λ h=>by cases h⟩
  rename_i aC
  have hlt:sk s i<s.length:=by
   rcases Nat.lt_or_ge (sk s i) s.length with x | x
   ·exact x
   exact absurd (iD x) aC
  split
  ·split
   ·exact ⟨h1,h2,λ h=>by cases h⟩
   have hI:Fwd s (sk s i+1) (pH s n dp pt (if bt s (sk s i)=91 then 4 else 5) (sk s i+1)):=by
    have h3:=fV s (sk s i+1)
    have h4:=ir (s:=s) (i:=sk s i+1) (by omega)
    generalize (if bt s (sk s i)=91 then 4 else 5)=kk
    unfold pH
    split
    ·rename_i h5
     have:=gu h5 (hY _)
     exact ⟨by simp; omega,this,λ_=>by simp; omega⟩
    have:=k7 n true dp [] pt kk (sk s (sk s i+1)) [] h4
    exact ⟨Nat.le_trans h3 this.ge,this.le,λ e=>Nat.lt_of_le_of_lt h3 (this.gt e)⟩
   exact ⟨by have:=hI.ge; show i<=_; unfold held; simp; omega,hI.le,λ_=>by have:=hI.ge; show i<_; unfold held; simp; omega⟩
  have:=CJ (s:=s) (nm:=nm) (pt:=pt) (cG:=k) hlt
  exact ⟨by omega,this.2.1,λ e=>by have:=this.2.2.1 e; omega⟩
 | n+1,true,dp,nm,pt,k,i,ws,h=>by
  have hI:Fwd s i (dn s n dp pt k i ws.length):=by
   unfold dn
   split
   ·exact k7 n false _ _ _ _ _ _ h
   have h1:=fV s i
   have h2:=ir h
   have h3:=lJ h2
   split
   ·rename_i he
    exact ⟨by simp; omega,h3.2.1,λ e=>absurd e he⟩
   rename_i he
   have h4:=h3.2.2 (by simpa using he)
   have h5:=fV s (aP s (sk s i)).p
   have h6:=ir h3.2.1
   split
   ·rename_i h7
    have:=gu h7 (by decide)
    have h8:=k7 (s:=s) n false (dp+1) (aP s (sk s i)).t (pt++[91]++iV (aP s (sk s i)).t++[93]) 5 (sk s (aP s (sk s i)).p+1) [] (by omega)
    exact ⟨by have:=h8.ge; omega,h8.le,λ_=>by have:=h8.ge; omega⟩
   exact ⟨by simp; omega,h6,λ h=>by cases h⟩
  rw [nh]
  have h1:=fV s (dn s n dp pt k i ws.length).p
  have h2:=ir hI.le
  split
  ·rename_i he
   exact ⟨hI.ge,hI.le,λ e=>absurd e he⟩
  rename_i he
  have h3:=hI.gt (by simpa using he)
  split
  ·rename_i h4
   have:=gu h4 (by decide)
   have h8:=k7 (s:=s) n true dp [] pt k (sk s (dn s n dp pt k i ws.length).p+1) (ws++(dn s n dp pt k i ws.length).ws) (by omega)
   exact ⟨by have:=h8.ge; omega,h8.le,λ_=>by have:=h8.ge; omega⟩
  split
  ·rename_i h4
   have:=gu h4 (hY _)
   exact ⟨by simp; omega,this,λ_=>by simp; omega⟩
  exact ⟨by simp; omega,h2,λ h=>by cases h⟩
theorem vA {s:List UInt8} (n dp:Nat) (nm pt:List UInt8) (k i:Nat) (ws:List Tv):(rd s (n+1) false dp nm pt k i ws).ws=[]\/∃t,(rd s (n+1) false dp nm pt k i ws).ws=[t]/\t.d.ai=sk s i:=by
 rw [rd_val]
 split
 ·exact Or.inl rfl
 split
 ·split
  ·exact Or.inl rfl
  exact Or.inr ⟨_,rfl,rfl⟩
 unfold iW
 split
 ·split
  ·exact Or.inr ⟨_,rfl,rfl⟩
  exact Or.inl rfl
 split
 ·split
  ·exact Or.inr ⟨_,rfl,rfl⟩
  exact Or.inl rfl
 split
 ·exact Or.inr ⟨_,rfl,rfl⟩
 exact Or.inl rfl
end Tr
