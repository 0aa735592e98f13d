import Derived.Test.YtcbadebjpogmlaaGreatDoorVsAa
import Derived.Test.YtcbadebjpogmlaaGreatDoorVsSg
import Derived.Test.YtcbadebjpogmlaaGreatDoorVsGa
import Derived.Test.YtcbadebjpogmlaaGreatDoorVsFa
import Derived.Shelf.Strconv.Itoa3
import Derived.Shelf.Strings.Replace
import Derived.Lib.LaidTab
import Derived.Lib.AppendIntMem
import Derived.Deep.RegionHeld
set_option maxHeartbeats 1000000
namespace Tr
theorem KY (z:Sn) (b:Nat):(∀t ∈ (aq z b).ts,t.t=[]\/t.t=z.tk.t\/t.t=z.tx)/\((aq z b).z.tk.t=[]\/(aq z b).z.tk.t=z.tk.t\/(aq z b).z.tk.t=z.tx)/\(aq z b).z.tx.length<=z.tx.length+1:=by
 have T:∀s,(∀t ∈ (z.to s).ts,t.t=[]\/t.t=z.tk.t\/t.t=z.tx)/\((z.to s).z.tk.t=[]\/(z.to s).z.tk.t=z.tk.t\/(z.to s).z.tk.t=z.tx)/\(z.to s).z.tx.length<=z.tx.length+1:=λ s=>⟨by simp [Sn.to],by simp [Sn.to],by simp [Sn.to]⟩
 have SH:(∀t ∈ (bS z).ts,t.t=[]\/t.t=z.tk.t\/t.t=z.tx)/\((bS z).z.tk.t=[]\/(bS z).z.tk.t=z.tk.t\/(bS z).z.tk.t=z.tx)/\(bS z).z.tx.length<=z.tx.length+1:=⟨by simp [bS],by simp [bS],by simp [bS]⟩
 have BH:(∀t ∈ (aF z b).ts,t.t=[]\/t.t=z.tk.t\/t.t=z.tx)/\((aF z b).z.tk.t=[]\/(aF z b).z.tk.t=z.tk.t\/(aF z b).z.tk.t=z.tx)/\(aF z b).z.tx.length<=z.tx.length+1:=by
  unfold aF
  split
  ·exact T _
  split
  ·exact T _
  split
  ·exact SH
  split
  ·exact T _
  exact T _
 have AD:(∀t ∈ (dZ z b).ts,t.t=[]\/t.t=z.tk.t\/t.t=z.tx)/\((dZ z b).z.tk.t=[]\/(dZ z b).z.tk.t=z.tk.t\/(dZ z b).z.tk.t=z.tx)/\(dZ z b).z.tx.length<=z.tx.length+1:=⟨by simp [dZ],by simp [dZ],by simp [dZ]⟩
 unfold aq
 split
 ·unfold gf
  split
  ·exact T _
  split
  ·exact T _
  split
  ·unfold fP
   split
   ·exact ⟨by simp [eJ],by simp [eJ],by simp [eJ]⟩
   exact ⟨by simp,by simp,by simp⟩
  exact AD
 split
 ·unfold lM
  split
  ·exact T _
  exact AD
 split
 ·unfold gC
  split
  ·exact T _
  split
  ·exact ⟨by simp [dw],by simp [dw],by simp [dw]⟩
  split
  ·exact T _
  refine ⟨λ t ht=>?_,BH.2⟩
  rcases List.mem_cons.1 ht with e | e
  ·subst e; right; left; rfl
  exact BH.1 t e
 split
 ·unfold fF
  split
  ·exact T _
  split
  ·exact ⟨by simp [eJ],by simp [eJ],by simp [eJ]⟩
  exact ⟨by simp,by simp,by simp⟩
 split
 ·exact T _
 unfold bV
 split
 ·exact BH
 split
 ·exact T _
 split
 ·exact SH
 split
 ·unfold bn
  repeat' split
  ·unfold iU; split
   ·exact T _
   exact ⟨by simp,by simp,by simp⟩
  ·unfold iU; split
   ·exact T _
   exact ⟨by simp,by simp,by simp⟩
  ·exact ⟨by simp [cy],by simp [cy],by simp [cy]⟩
  ·exact ⟨by simp [aY],by simp [aY],by simp [aY]⟩
  ·exact ⟨by simp [aY],by simp [aY],by simp [aY]⟩
  ·exact ⟨by simp [aY],by simp [aY],by simp [aY]⟩
  unfold fQ; split
  ·exact ⟨by simp,by simp,by simp⟩
  split
  ·exact ⟨by simp [dw],by simp [dw],by simp [dw]⟩
  exact ⟨by simp,by simp,by simp⟩
 split
 ·exact ⟨by simp [cy],by simp [cy],by simp [cy]⟩
 exact T _
theorem Fp:∀(l:List UInt8) (z:Sn) (N:Nat),z.tx.length+l.length<=N->z.tk.t.length<=N->(∀t ∈ (aB z l).ts,t.t.length<=N)/\(aB z l).z.tk.t.length<=N
 | [],_,_,_,h=>⟨by simp [aB],h⟩
 | b::l,z,N,h1,h2=>by
  obtain ⟨a1,a2,a3⟩:=KY z b.toNat
  have h1:z.tx.length+(l.length+1)<=N:=by simpa using h1
  have b1:∀t ∈ (aq z b.toNat).ts,t.t.length<=N:=λ t ht=>by
   rcases a1 t ht with e | e | e
   ·rw [e]; simp
   ·rw [e]; exact h2
   rw [e]; omega
  have b2:(aq z b.toNat).z.tk.t.length<=N:=by
   rcases a2 with e | e | e
   ·rw [e]; simp
   ·rw [e]; exact h2
   rw [e]; omega
  rw [aB]
  split
  ·exact ⟨b1,b2⟩
  split
  ·exact ⟨b1,b2⟩
  have R:=Fp l { (aq z b.toNat).z with at':=(aq z b.toNat).z.at'+1 } N (by simp only; omega) b2
  refine ⟨λ t ht=>?_,R.2⟩
  rcases List.mem_append.1 ht with e | e
  ·exact b1 t e
  exact R.1 t e
def KZ (v:Tv):Prop:=v.d.name.length<=4000000/\(v.ws≠[]->v.d.kind=4\/v.d.kind=5)
def Zp (f:Fm):Prop:=f.d.name.length<=4000000/\(f.d.kind=4\/f.d.kind=5)/\∀c ∈ f.ws,∀v ∈ au 9 c,KZ v
structure Qa (g:Gs):Prop where
 nm:g.nm.length<=4000000
 st:∀f ∈ g.st,Zp f
 l:∀t,g.last=some t->∀v ∈ au 10 t,KZ v
theorem Us {d:dO} {ws:List Tv} (h1:d.name.length<=4000000) (h2:ws≠[]->d.kind=4\/d.kind=5) (h3:∀c ∈ ws,∀v ∈ au 9 c,KZ v):∀v ∈ au 10 ⟨d,ws⟩,KZ v:=λ v hv=>by
 have hv:v ∈ (⟨d,ws⟩:Tv)::ws.flatMap (au 9):=hv
 rcases List.mem_cons.1 hv with e | e
 ·subst e; exact ⟨h1,h2⟩
 obtain ⟨c,hc,Ol⟩:=List.mem_flatMap.1 e
 exact h3 c hc v Ol
theorem we:∀(n:Nat) (t v:Tv),v ∈ au n t->v ∈ au (n+1) t
 | 0,_,_,h=>by cases h
 | n+1,t,v,h=>by
  have h:v ∈ t::t.ws.flatMap (au n):=h
  show v ∈ t::t.ws.flatMap (au (n+1))
  rcases List.mem_cons.1 h with e | e
  ·exact List.mem_cons.2 (Or.inl e)
  obtain ⟨c,hc,Ol⟩:=List.mem_flatMap.1 e
  exact List.mem_cons.2 (Or.inr (List.mem_flatMap.2 ⟨c,hc,we n c v Ol⟩))
theorem wg {g:Gs} {f:Fm} {r:List Fm} {to:Nat} (hn:g.nm.length<=4000000) (h1:f.d.name.length<=4000000) (h2:f.ws≠[]->f.d.kind=4\/f.d.kind=5) (h3:∀c ∈ f.ws,∀v ∈ au 9 c,KZ v) (hr:∀f ∈ r,Zp f):Qa (dQ g f r to):=by
 have ht:∀v ∈ au 10 (f.tv to),KZ v:=Us (d:={ f.d with to:=to }) h1 h2 h3
 refine ⟨hn,?_,λ t e=>?_⟩
 ·show ∀x ∈ nw r f.kp (f.tv to),Zp x
  cases r with
  | nil=>intro x hx; cases hx
  | cons p q =>
   intro x hx
   have hx:x ∈ gU p f.kp (f.tv to)::q:=hx
   rcases List.mem_cons.1 hx with e | e
   ·have hp:=hr p (List.mem_cons_self)
    rw [e]
    unfold gU
    split
    ·refine ⟨hp.1,hp.2.1,λ c hc=>?_⟩
     rcases List.mem_append.1 hc with y | y
     ·exact hp.2.2 c y
     rw [List.mem_singleton.1 y]
     exact λ v hv=>ht v (we 9 _ v hv)
    exact hp
   exact hr x (List.mem_cons_of_mem _ e)
 have:f.tv to=t:=Option.some.inj e
 rw [<-this]; exact ht
theorem K5 {g:Gs} {t:Tok} {kp:Bool} (h:Qa g) (ht:f_ g.sh t) (hl:t.t.length<=4000000):Qa (aR g t kp):=by
 unfold aR
 by_cases h0:t.k=0
 ·rw [if_pos h0]
  refine ⟨by simp,λ f hf=>?_,h.l⟩
  have hf:f ∈ aM g t kp::g.st:=hf
  rcases List.mem_cons.1 hf with e | e
  ·subst e
   refine ⟨h.nm,?_,λ c hc=>by cases hc⟩
   show wj t.of=4\/wj t.of=5
   rcases (ht.k0 h0).1 with x | x<;>rw [x]<;>decide
  exact h.st f e
 rw [if_neg h0]
 by_cases h1:t.k=1
 ·rw [if_pos h1]
  cases hs:g.st with
  | nil=>exact ⟨h.nm,λ f hf=>(by rw [hs] at hf; cases hf),h.l⟩
  | cons f r =>
   have hf:=h.st f (by rw [hs]; exact List.mem_cons_self)
   exact wg h.nm hf.1 (λ_=>hf.2.1) hf.2.2 (λ x hx=>h.st x (by rw [hs]; exact List.mem_cons_of_mem _ hx))
 rw [if_neg h1]
 by_cases h2:t.k=2
 ·rw [if_pos h2]; exact ⟨hl,h.st,h.l⟩
 rw [if_neg h2]
 exact wg (g:={ g with nm:=[],bd:=t.ai+1 }) (f:=aM g t kp) (by simp) h.nm (λ x=>absurd rfl x) (λ c hc=>by cases hc) h.st
theorem Fq:∀{ts:List Tok} {g:Gs},Qa g->o_ g.sh ts->(∀t ∈ ts,t.t.length<=4000000)->Qa (dB g ts)
 | [],_,h,_,_=>h
 | t::r,g,h,ho,hl=>by
  rw [jB]
  exact Fq (K5 h ho.1 (hl t (List.mem_cons_self))) (by rw [jW g t true ho.1]; exact ho.2) (λ x hx=>hl x (List.mem_cons_of_mem _ hx))
theorem Fs:Qa bK:=⟨by simp [bK],λ f hf=>(by cases hf),λ t ht=>(by cases ht)⟩
theorem K7 (z:Sn) (b:Nat):(∀t ∈ (aq z b).ts,t.ai=0\/t.ai=z.at'\/t.ai=z.tk.ai)/\((aq z b).z.tk.ai=z.at'\/(aq z b).z.tk.ai=z.tk.ai)/\(aq z b).z.at'=z.at':=by
 have T:∀s,(∀t ∈ (z.to s).ts,t.ai=0\/t.ai=z.at'\/t.ai=z.tk.ai)/\((z.to s).z.tk.ai=z.at'\/(z.to s).z.tk.ai=z.tk.ai)/\(z.to s).z.at'=z.at':=λ s=>⟨by simp [Sn.to],by simp [Sn.to],by simp [Sn.to]⟩
 have SH:(∀t ∈ (bS z).ts,t.ai=0\/t.ai=z.at'\/t.ai=z.tk.ai)/\((bS z).z.tk.ai=z.at'\/(bS z).z.tk.ai=z.tk.ai)/\(bS z).z.at'=z.at':=⟨by simp [bS],by simp [bS],by simp [bS]⟩
 have BH:(∀t ∈ (aF z b).ts,t.ai=0\/t.ai=z.at'\/t.ai=z.tk.ai)/\((aF z b).z.tk.ai=z.at'\/(aF z b).z.tk.ai=z.tk.ai)/\(aF z b).z.at'=z.at':=by
  unfold aF
  split
  ·exact T _
  split
  ·exact T _
  split
  ·exact SH
  split
  ·exact T _
  exact T _
 have AD:(∀t ∈ (dZ z b).ts,t.ai=0\/t.ai=z.at'\/t.ai=z.tk.ai)/\((dZ z b).z.tk.ai=z.at'\/(dZ z b).z.tk.ai=z.tk.ai)/\(dZ z b).z.at'=z.at':=⟨by simp [dZ],by simp [dZ],by simp [dZ]⟩
 unfold aq
 split
 ·unfold gf
  split
  ·exact T _
  split
  ·exact T _
  split
  ·unfold fP
   split
   ·exact ⟨by simp [eJ],by simp [eJ],by simp [eJ]⟩
   exact ⟨by simp,by simp,by simp⟩
  exact AD
 split
 ·unfold lM
  split
  ·exact T _
  exact AD
 split
 ·unfold gC
  split
  ·exact T _
  split
  ·exact ⟨by simp [dw],by simp [dw],by simp [dw]⟩
  split
  ·exact T _
  refine ⟨λ t ht=>?_,BH.2⟩
  rcases List.mem_cons.1 ht with e | e
  ·subst e; right; right; rfl
  exact BH.1 t e
 split
 ·unfold fF
  split
  ·exact T _
  split
  ·exact ⟨by simp [eJ],by simp [eJ],by simp [eJ]⟩
  exact ⟨by simp,by simp,by simp⟩
 split
 ·exact T _
 unfold bV
 split
 ·exact BH
 split
 ·exact T _
 split
 ·exact SH
 split
 ·unfold bn
  repeat' split
  ·unfold iU; split
   ·exact T _
   exact ⟨by simp,by simp,by simp⟩
  ·unfold iU; split
   ·exact T _
   exact ⟨by simp,by simp,by simp⟩
  ·exact ⟨by simp [cy],by simp [cy],by simp [cy]⟩
  ·exact ⟨by simp [aY],by simp [aY],by simp [aY]⟩
  ·exact ⟨by simp [aY],by simp [aY],by simp [aY]⟩
  ·exact ⟨by simp [aY],by simp [aY],by simp [aY]⟩
  unfold fQ; split
  ·exact ⟨by simp,by simp,by simp⟩
  split
  ·exact ⟨by simp [dw],by simp [dw],by simp [dw]⟩
  exact ⟨by simp,by simp,by simp⟩
 split
 ·exact ⟨by simp [cy],by simp [cy],by simp [cy]⟩
 exact T _
theorem Fu:∀(l:List UInt8) (z:Sn) (N:Nat),z.at'+l.length<=N->z.tk.ai<N->(∀t ∈ (aB z l).ts,t.ai<N)/\(aB z l).z.tk.ai<N
 | [],_,_,_,h=>⟨by simp [aB],h⟩
 | b::l,z,N,h1,h2=>by
  obtain ⟨a1,a2,a3⟩:=K7 z b.toNat
  have h1:z.at'+(l.length+1)<=N:=by simpa using h1
  have b1:∀t ∈ (aq z b.toNat).ts,t.ai<N:=λ t ht=>by
   rcases a1 t ht with e | e | e<;>rw [e]<;>omega
  have b2:(aq z b.toNat).z.tk.ai<N:=by
   rcases a2 with e | e<;>rw [e]<;>omega
  rw [aB]
  split
  ·exact ⟨b1,b2⟩
  split
  ·exact ⟨b1,b2⟩
  have R:=Fu l { (aq z b.toNat).z with at':=(aq z b.toNat).z.at'+1 } N (by simp only [a3]; omega) b2
  refine ⟨λ t ht=>?_,R.2⟩
  rcases List.mem_append.1 ht with e | e
  ·exact b1 t e
  exact R.1 t e
theorem qb {l:List UInt8} (hl:l.length<=4000000) (h:cw l=0) {t:Tv} (ht:ja l=some t):(∀v ∈ au 10 t,fr v<l.length)/\∀v ∈ au 10 t,KZ v:=by
 obtain ⟨h1,h2,_⟩:=Fl hl h
 have G:=zc v_ (show nD bK.st bK.ix from trivial) (ts:=jC l) h1
 obtain ⟨_,_,c⟩:=G.l h2 t ht
 have hpos:0<l.length:=by
  cases l with
  | nil=>revert h; decide
  | cons a l=>simp
 have F:=Fu l az l.length (by simp [az]) (by simpa [az] using hpos)
 have X:=Fp l az 4000000 (by simp [az]; omega) (by simp [az])
 have f1:∀t ∈ jC l,t.ai<l.length:=λ t ht=>by
  rcases List.mem_append.1 ht with e | e
  ·exact F.1 t e
  unfold jn at e
  split at e
  ·rw [List.mem_singleton.1 e]; exact F.2
  cases e
 have x1:∀t ∈ jC l,t.t.length<=4000000:=λ t ht=>by
  rcases List.mem_append.1 ht with e | e
  ·exact X.1 t e
  unfold jn at e
  split at e
  ·rw [List.mem_singleton.1 e]; exact X.2
  cases e
 have bd:(dB bK (jC l)).bd<=l.length:=uv (by simp [bK]) h1 f1
 refine ⟨λ v hv=>?_,(Fq Fs h1 x1).l t ht⟩
 have:=c (fr v) (List.mem_map.2 ⟨v,hv,rfl⟩)
 omega
def Ut (hd:Option Nat) (n:Nat):Bool:=match hd with
 | none=>false
 | some h=>decide (h<n)
def Om (hd:Option Nat) (n:Nat):Bool:=match hd with
 | none=>false
 | some h=>decide (h<=n)
def FrI (hd:Option Nat):List Fm->Nat->Prop
 | [],_=>True
 | f::r,ix=>f.kp=Ut hd r.length/\(Om hd r.length=true->ix=f.ws.length)/\(Om hd r.length=false->f.ws=[])/\FrI hd r f.ix
def szF (f:Fm):Nat:=1+(f.ws.flatMap (au 10)).length
def szS (st:List Fm):Nat:=(st.map szF).sum
def Zh (xs:List Sg) (tl:List Ct):Prop:=oB xs<xs.length->∀k,oB xs<=k->eZ tl k=⟨0,0⟩
structure FOk (xs:List Sg) (s:Fw):Prop where
 n:s.told.length+szS s.g.st<=s.g.bd
 fr:FrI s.hd s.g.st s.g.ix
 tl:s.tl.length=(match s.hd with | none=>s.g.st.length | some h=>h+1)
 hd:∀h,s.hd=some h->h<s.g.st.length
 ct:∀i (h:i<s.tl.length),Oj xs i s.tl[i]
 z:∀i (h:i<s.tl.length),(s.hd=none\/i+1<s.tl.length)->Zh xs s.tl[i]
def tp (p:Tv×Nat):dO×Nat:=(p.1.d,p.2)
def Qb (b:Nat):Bool:=b == 91 || b == 93 || b == 123 || b == 125 || b == 34 || (decide (48<=b) && decide (b<=57)) || b == 101 || b == 108
def one (b:Nat):Nat:=if Qb b=true then 1 else 0
def noT (s:Fw):Fw:={ s with told:=[] }
end Tr
namespace Go.Proofs.YtcbadebjpogmlaaGreatDoor
open Go.RowKit Tr
theorem Fv:Builder.Extra Tryz.prog Tryz.oC where
 sizeBuilder:=by kernel_rfl
 liesBuilder:=by kernel_rfl
 t5:=Tryz.mw.t5
 a5:=Tryz.mw.a5
 z5:=Tryz.mw.z5
 v5:=Tryz.mw.v5
 infoByte:=by kernel_rfl
 cellsByte:=by kernel_rfl
 sizeByte:=by kernel_rfl
 neB5:=by decide
theorem ze:∀n,Lib.decDigits n=dec n:=by
 intro n
 induction n using Nat.strongRecOn with
 | _ n ih =>
  rw [Lib.decDigits]
  by_cases h:n<10
  ·rw [dif_pos h,nE h]
  rw [dif_neg h,nF h,ih (n / 10) (by omega)]
theorem Fy (n:Nat):Lib.itoa (n:Int)=dec n:=by
 unfold Lib.itoa
 rw [if_neg (by omega),ze]
 rfl
theorem mz (c:UInt8) (new:List UInt8):∀s:List UInt8,Lib.replaceK [c] new (Lib.count s [c]) s=s.flatMap (λ b=>if b=c then new else [b])
 | []=>by
  have:Lib.count [] [c]=0:=by rw [Lib.count_one]; rfl
  rw [this]; rfl
 | b::l=>by
  have ih:=mz c new l
  by_cases h:b=c
  ·subst h
   rw [Lib.count_cons_eq,Nat.add_comm,Lib.replaceK_hit _ _ _ _ 0 (by rw [Lib.index_one]; simp [Lib.indexByte])]
   simp [ih]
  rw [Lib.count_cons_ne b c l h,List.flatMap_cons,if_neg h,<-ih]
  cases hk:Lib.count l [c] with
  | zero=>rfl
  | succ m =>
   obtain ⟨i,hi⟩:=Lib.index_of_count (s:=l) (old:=[c]) (by omega)
   have hi2:Lib.index (b::l) [c]=((i+1:Nat):Int):=by
    rw [Lib.index_one] at hi ⊢
    unfold Lib.indexByte
    rw [if_neg (by simpa using h),if_neg (by rw [hi]; simp),hi]
    omega
   rw [Lib.replaceK_hit _ _ _ _ _ hi2,Lib.replaceK_hit _ _ _ _ _ hi]
   simp
theorem iC (c:UInt8) (new:List UInt8) (hn:[c]≠new) (s:List UInt8):Lib.replaceAll s [c] new=s.flatMap (λ b=>if b=c then new else [b]):=by
 unfold Lib.replaceAll Lib.replace Lib.replaceNum
 rw [if_neg (by simpa using hn),if_pos (Or.inl (by decide))]
 exact mz c new s
theorem zf (s:List UInt8):Lib.replaceAll (Lib.replaceAll s [92] [92,92]) [39] [92,39]=s.flatMap gV:=by
 rw [iC 92 [92,92] (by simp),iC 39 [92,39] (by simp),List.flatMap_assoc]
 apply sK
 intro b _
 unfold gV
 by_cases mo:b=92
 ·subst mo; decide
 by_cases vJ:b=39
 ·subst vJ; decide
 simp [mo,vJ]
  where
 sK {α β:Type} {f g:α->List β}:∀{l:List α},(∀a ∈ l,f a=g a)->l.flatMap f=l.flatMap g
 | [],_=>rfl
 | a::l,h=>by rw [List.flatMap_cons,List.flatMap_cons,h a (List.mem_cons_self),sK (λ x hx=>h x (List.mem_cons_of_mem _ hx))]
structure EN (w:World):Prop where
 ev:EV w
 tab:Lib.TabIs Tryz.prog w "internal/strconv.uint64pow10" .u64 Lib.pow10Tab
 tl:0<w.heap.size
 ml:∃m,w.cell? ⟨1,0,none⟩=some (.int .i64 m)
 ll:1<w.heap.size
theorem Uu:Tryz.prog.globalNamed "internal/strconv.uint64pow10"=some 0:=by kernel_rfl
theorem EN.keep {w w':World} (h:EN w) (f:ak w w'):EN w':=by
 refine ⟨h.ev.keep f,?_,Nat.lt_of_lt_of_le h.tl f.size,?_,Nat.lt_of_lt_of_le h.ll f.size⟩
 ·have:=h.tab
  unfold Lib.TabIs World.var? at this ⊢
  rw [Uu] at this ⊢
  simp only [Option.bind_some] at this ⊢
  rw [f.block _ h.tl id]; exact this
 obtain ⟨m,hm⟩:=h.ml
 exact ⟨m,(f.cell (p:=⟨1,0,none⟩) h.ll id).trans hm⟩
theorem Qc {w:World} (h:EN w) (n:Nat) (hn:n<=4000000):Calls Tryz.prog 75 #[.int .i64 (n:Nat)] w λ r w'=>r=.returned (.string (bZ (dec n)))/\ak w w' :=
 (Any.strconv_Itoa Tryz.Fz (n:Int) (by omega) (by omega) w h.tab).mono (λ e w' ⟨h1,k,os,h2⟩=>⟨by rw [h1,Fy]; rfl,by rw [h2]; exact Fr.aL (Lib.below_grow _ w (Nat.le_refl _) k os)⟩)
theorem mB {w:World} (h:EN w) (s old new:ByteArray) (hs:s.size<=16000000) (h1:old.size=1) (hn:new.size<=2):Calls Tryz.prog 104 #[.string s,.string old,.string new] w λ e w' =>
 e=.returned (.string (bZ (Lib.replaceAll (bs s) (bs old) (bs new))))/\ak w w':=by
 obtain ⟨m,hm⟩:=h.ml
 refine (Any.strings_ReplaceAll Tryz.mw Fv s old new m w (by omega) hm (by omega) ?_).mono (λ e w' ⟨h1,h2⟩=>⟨h1,Fr.aL h2⟩)
 have a:=Lib.count_le s.data.toList old.data.toList
 have b:s.data.toList.length=s.size:=an s
 have c:Lib.count s.data.toList old.data.toList * new.size<=16000001 * 2:=Nat.mul_le_mul (by omega) hn
 show s.size+Lib.count s.data.toList old.data.toList * new.size<=_
 omega
theorem CW {w:World} (h:EN w) (s:ByteArray) (hs:s.size<=4000000):Calls Tryz.prog 76 #[.string s] w λ e w'=>e=.returned (.string (bZ ((bs s).flatMap gV)))/\ak w w':=by
 have C1:=aa (mB h s ⟨#[92]⟩ ⟨#[92,92]⟩ (by omega) rfl (by decide))
 have hsz:(bZ (Lib.replaceAll (bs s) [92] [92,92])).size<=16000000:=by
  rw [iC 92 [92,92] (by simp)]
  show ((bs s).flatMap _).toArray.size<=_
  have:∀l:List UInt8,(l.flatMap (λ b=>if b=92 then [92,92] else [b])).length<=2 * l.length:=by
   intro l
   induction l with
   | nil=>simp
   | cons a l ih=>rw [List.flatMap_cons,List.length_append,List.length_cons]; split<;>simp only [List.length_cons,List.length_nil]<;>omega
  have h2:=this (bs s)
  rw [an] at h2
  simp only [List.size_toArray]
  omega
 have HE:=aa h
 have C2:Hid (∀W,ak w W->Calls Tryz.prog 104 #[.string (bZ (Lib.replaceAll (bs s) [92] [92,92])),.string ⟨#[39]⟩,.string ⟨#[92,39]⟩] W λ e w'=>e=.returned (.string (bZ ((bs s).flatMap gV)))/\ak W w'):=λ W hW=>by
  refine (mB (HE.out.keep hW) _ ⟨#[39]⟩ ⟨#[92,39]⟩ hsz rfl (by decide)).mono (λ e w' ⟨h1,h2⟩=>⟨?_,h2⟩)
  rw [h1,h_,<-zf]
  rfl
 clear h hsz HE
 go_enter Tryz.func76,Tryz.ntmps76
 go_wp2_with fail
 refine C1.out.mono ?_
 rintro r w1 ⟨rfl,sL⟩
 have K1:=aa sL
 clear sL
 go_wp2_with fail
 refine (C2.out _ K1.out).mono ?_
 rintro r w2 ⟨rfl,hk2⟩
 have K2:=aa (K1.out.trans hk2)
 clear hk2
 go_wp2
 go_ret
 exact ⟨rfl,K2.out⟩
def PH (w:World):Nat->Nat->List UInt8->Prop
 | 0,_,_=>False
 | n+1,b,p=>∃d par ix sv,ay w b (ld d par ix sv) 130/\ix<=4000000/\d.name.length<=4000000/\((par=.pointer none/\p=[36])\/∃pb dp pp Uv Uw FA,par=nG pb/\ay w pb (ld dp pp Uv Uw) 130/\FD dp/\(dp.kind=4\/dp.kind=5)/\PH w n pb FA/\p=kM dp.kind FA ix d.name)
theorem PH.keep {w w':World} (f:ak w w'):∀{n b:Nat} {p:List UInt8},PH w n b p->PH w' n b p
 | 0,_,_,h=>h
 | _+1,_,_,⟨d,par,ix,sv,h1,h2,h3,h4⟩=>by
  refine ⟨d,par,ix,sv,h1.fr f id,h2,h3,?_⟩
  rcases h4 with x | ⟨pb,dp,pp,Uv,Uw,FA,x1,x2,x3,x4,x5,x6⟩
  ·exact Or.inl x
  exact Or.inr ⟨pb,dp,pp,Uv,Uw,FA,x1,x2.fr f id,x3,x4,x5.keep f,x6⟩
end Go.Proofs.YtcbadebjpogmlaaGreatDoor
