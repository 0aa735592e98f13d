import Derived.Test.YtcbadebjpogmlaaGreatDoorVsRefA
import Derived.Test.YtcbadebjpogmlaaGreatDoorVsPi
import Derived.Test.YtcbadebjpogmlaaGreatDoorVsTxC
import Derived.Test.YtcbadebjpogmlaaGreatDoorVsTyB
import Derived.Test.YtcbadebjpogmlaaGreatDoorVsRefF
import Derived.Test.YtcbadebjpogmlaaGreatDoorVsVa
import Derived.Test.YtcbadebjpogmlaaGreatDoorVsTyH
import Derived.Deep.Cut
import Derived.Deep.CutBlock
set_option maxHeartbeats 4000000
set_option maxRecDepth 100000
namespace Go.Proofs.YtcbadebjpogmlaaGreatDoor
open Go.RowKit Tr
theorem MP (s:List UInt8) (p:Nat):∀k,dv s p k=iT s p k
 | 0=>rfl
 | k+1=>by rw [dv,iT,MP s p k]
theorem Cr {s:List UInt8} {a:Nat}:∀j,(∀i,i<j->af (bt s (a+i))=true)->iT s a j<10 ^ j
 | 0,_=>by simp [iT]
 | j+1,h=>by
  have:=Cr j (λ i hi=>h i (by omega))
  have h2:=h j (by omega)
  simp [af] at h2
  have e:10 ^ (j+1)=10 * 10 ^ j:=by rw [Nat.pow_succ]; omega
  rw [e]
  simp only [iT]
  omega
theorem ru {s:List UInt8} {a j:Nat} (hj:j<=3) (h:∀i,i<j->af (bt s (a+i))=true):iT s a j<1000:=by
 have h1:=Cr j h
 have h2:10 ^ j<=10 ^ 3:=Nat.pow_le_pow_right (by omega) hj
 omega
theorem Ea (s:List UInt8) (t:St) (mi:Bool):(aX s t mi).p<=t.p+3:=by
 unfold aX
 split
 ·rw [vi]; omega
 split
 ·simp [aG]
 unfold dH
 split
 ·exact gL af s 3 t.p
 omega
theorem Jt {s:List UInt8} {t:St} {mi:Bool} (he:(aX s t mi).e=0) (hst:af (bt s (aX s t mi).p)=false):∃m,aX s t mi=tP t m/\0<m/\m<=3/\zX af s t.p m:=by
 obtain ⟨_,m,h1,h2,h3⟩:=IC he
 have h4:=Ea s t mi
 rw [h1] at h4 hst
 exact ⟨m,h1,h2,by simp only at h4; omega,h3,hst⟩
theorem Cs {s:List UInt8} {t:St} (he:(countP s t true).e=0) (ht:t.e=0) (hst:af (bt s (countP s t true).p)=false) :
 ∃(m:Nat) (v:Int),countP s t true=tP t m/\0<m/\eI s t true=v/\(-1000<v/\v<1000) /\
  ((bt s t.p=45/\bT af s (t.p+1)=t.p+m/\v=-(bY s (t.p+1) (t.p+m):Int))\/(bt s t.p≠45/\bT af s t.p=t.p+m/\v=(bY s t.p (t.p+m):Int))):=by
 have hV:eI s t true=mW s (countP s t true) (dx s t true) (aj s t 45):=by unfold eI; simp
 unfold mW at hV
 rw [if_pos he] at hV
 unfold countP at he hst hV ⊢
 have hm:dx s t true=if bt s t.p=45 then aG t else t:=by
  unfold dx has
  rw [if_pos rfl,aK ht]
  by_cases ji:bt s t.p=45
  ·rw [if_pos (by simpa using ji),if_pos ji]
  rw [if_neg (by simpa using ji),if_neg ji]
 by_cases ji:bt s t.p=45
 ·rw [if_pos ji] at hm
  rw [hm] at he hst hV ⊢
  obtain ⟨m,h1,h2,h3,h4⟩:=Jt he hst
  have Sp:aj s t 45=true:=by rw [aK ht]; simpa using ji
  rw [h1,Sp] at hV
  have e1:(aG t).p+m - (aG t).p=m:=by omega
  rw [if_pos rfl,MP,e1] at hV
  have hb:=ru h3 h4.all
  refine ⟨1+m,_,?_,by omega,hV,⟨by omega,by omega⟩,Or.inl ⟨ji,?_,?_⟩⟩
  ·rw [h1]
   show St.mk (t.p+1+m) t.e t.n=St.mk (t.p+(1+m)) t.e t.n
   rw [Nat.add_assoc]
  ·have:=h4.ag qO (Ag.self s (t.p+1) m)
   rw [this]; omega
  unfold bY
  rw [show t.p+(1+m) - (t.p+1)=m by omega]
  rfl
 rw [if_neg ji] at hm
 rw [hm] at he hst hV ⊢
 obtain ⟨m,h1,h2,h3,h4⟩:=Jt he hst
 have Sp:aj s t 45=false:=by rw [aK ht]; simpa using ji
 rw [h1,Sp] at hV
 have e1:t.p+m - t.p=m:=by omega
 rw [if_neg (by simp),MP,e1] at hV
 have hb:=ru h3 h4.all
 refine ⟨m,_,h1,h2,hV,⟨by omega,by omega⟩,Or.inr ⟨ji,h4.ag qO (Ag.self s t.p m),?_⟩⟩
 unfold bY
 rw [show t.p+m - t.p=m by omega]
theorem Sq {s:List UInt8} {t:St} (he:(countP s t false).e=0) (hst:af (bt s (countP s t false).p)=false) :
 ∃m:Nat,countP s t false=tP t m/\0<m/\m<=3/\bT af s t.p=t.p+m/\eI s t false=(bY s t.p (t.p+m):Int)/\bY s t.p (t.p+m)<1000:=by
 have hV:eI s t false=mW s (countP s t false) t false:=by unfold eI dx; simp
 unfold mW at hV
 rw [if_pos he,if_neg (by simp)] at hV
 have e0:countP s t false=aX s t false:=by unfold countP dx; simp
 rw [e0] at he hst hV ⊢
 obtain ⟨m,h1,h2,h3,h4⟩:=Jt he hst
 rw [h1] at hV
 have e1:t.p+m - t.p=m:=by omega
 rw [MP,e1] at hV
 have e2:bY s t.p (t.p+m)=iT s t.p m:=by unfold bY; rw [e1]
 refine ⟨m,h1,h2,h3,h4.ag qO (Ag.self s t.p m),?_,?_⟩
 ·rw [e2]; exact hV
 rw [e2]; exact ru h3 h4.all
theorem MQ {s:List UInt8} (hf:bz s) {q c n:Nat} {o:List UInt8} {t:St} (h:Live s q c 11 o n t) (h46:aj s t 46=true) :
 ∃m,bC s (aG t)=tP t (1+m)/\Live s q c 11 o n (tP t (1+m))/\∀N acc,bA s (N+1) t.p acc=bA s N (t.p+(1+m)) (acc++[⟨true,sub s (t.p+1) (t.p+(1+m)),0⟩]):=by
 obtain ⟨e0,hb⟩:=aE h46
 have L:=aA hf (zQ (Or.inl h) h46)
 have YT:=L.e0
 have hw:bC s (aG t)={ aG t with p:=run isLet s 8 (aG t).p }:=by
  unfold bC at YT ⊢
  rw [if_pos (show (aG t).e=0 from e0)] at YT ⊢
  split
  ·rename_i hr; rw [if_pos hr] at YT; cases YT
  rfl
 have hn:=td hf L
 rw [hw] at hn
 obtain ⟨m,e,R⟩:=IB (ok:=isLet) (s:=s) (K:=8) (a:=(aG t).p) hn
 have e1:bC s (aG t)=tP t (1+m):=by
  rw [hw,e]
  show St.mk (t.p+1+m) t.e t.n=St.mk (t.p+(1+m)) t.e t.n
  rw [Nat.add_assoc]
 refine ⟨m,e1,by rw [<-e1]; exact L,λ N acc=>?_⟩
 have r1:bT isLet s (t.p+1)=t.p+1+m:=R.ag ID (Ag.self s (t.p+1) m)
 rw [bA,if_pos hb,r1,Nat.add_assoc]
theorem Ss {s:List UInt8} (hf:bz s) {q c n:Nat} {o:List UInt8} {t:St} (h:Live s q c 11 o n t) (oL:aj s t 91=true) :
 ∃m,aH s (countP s (aG t) true) 93=tP t (1+m)/\Live s q c 11 o n (tP t (1+m))/\(-1000<eI s (aG t) true/\eI s (aG t) true<1000)/\∀N acc,bA s (N+1) t.p acc=bA s N (t.p+(1+m)) (acc++[⟨false,[],eI s (aG t) true⟩]):=by
 obtain ⟨e0,hb⟩:=aE oL
 have L:=aA hf (zN (Or.inl h) oL)
 obtain ⟨s93,Su⟩:=jd L.e0
 obtain ⟨ce,b93⟩:=aE s93
 obtain ⟨m,v,h1,h2,h3,h4,h5⟩:=Cs ce (show (aG t).e=0 from e0) (by rw [b93]; rfl)
 have e1:aH s (countP s (aG t) true) 93=tP t (1+(m+1)):=by
  rw [Su,h1]
  show St.mk (t.p+1+m+1) t.e t.n=St.mk (t.p+(1+(m+1))) t.e t.n
  congr 1; omega
 refine ⟨m+1,e1,by rw [<-e1]; exact L,by rw [h3]; exact h4,λ N acc=>?_⟩
 rw [h3,bA,if_neg (by omega),if_pos hb]
 have a1:(aG t).p=t.p+1:=rfl
 rw [a1] at h5
 rcases h5 with ⟨x1,x2,x3⟩ | ⟨x1,x2,x3⟩
 ·rw [if_pos x1,show t.p+2=t.p+1+1 from rfl,x2,x3,show t.p+1+m+1=t.p+(1+(m+1)) by omega]
 rw [if_neg x1,x2,x3,show t.p+1+m+1=t.p+(1+(m+1)) by omega]
theorem Sv {s:List UInt8} {p:Nat} (h1:bt s p≠46) (h2:bt s p≠91) (N:Nat) (acc:List eO):bA s (N+1) p acc=⟨acc,p⟩:=by
 rw [bA,if_neg h1,if_neg h2]
def WV (k:Kt):Array Value:=#[.int .i64 (k.k:Nat),.int .i64 k.n,.string (sb k.t),.string ⟨#[]⟩,.string ⟨#[]⟩,.int .i64 0,.int .i64 0,.int .i64 0,.slice none 0 0]
theorem MR {s:List UInt8} (hf:bz s) {q c n:Nat} {o:List UInt8} {t:St} (h:Live s q c 17 o n t) (hb:aj s t 39=true) :
 Live s q c 18 o n (eU s t)/\∃m,eU s t=tP t m/\0<m/\a_ s t.p=⟨⟨2,0,sub s (aH s t 39).p (dH aO s 8 (aH s t 39)).p⟩,t.p+m⟩:=by
 have L:=aA hf (nS (Or.inl h) hb)
 obtain ⟨e0,vJ⟩:=aE hb
 obtain ⟨_,m,h1,h2,h3⟩:=BY e0 L.e0
 refine ⟨L,m+2,h1,by omega,?_⟩
 have e1:aH s t 39=aG t:=by unfold aH; rw [if_pos hb]
 have r1:bT aO s (t.p+1)=t.p+1+m:=h3.ag IE (Ag.self s (t.p+1) m)
 have hr:(dH aO s 8 (aG t)).p=t.p+1+m:=by
  have h4:=L.e0
  unfold eU at h4 h1
  rw [e1] at h4 h1
  obtain ⟨_,e5⟩:=jd h4
  rw [e5] at h1
  have:(aG (dH aO s 8 (aG t))).p=(tP t (m+2)).p:=by rw [h1]
  simp only [aG] at this ⊢
  omega
 rw [e1,hr]
 unfold a_
 rw [if_neg (by omega),if_neg (by omega),if_neg (by omega),if_pos vJ,r1]
 show PS.mk _ (t.p+1+m+1)=PS.mk _ (t.p+(m+2))
 rw [show t.p+1+m+1=t.p+(m+2) by omega]
 rfl
theorem MS {s:List UInt8} (hf:bz s) {q c n:Nat} {o:List UInt8} {t:St} (x a:UInt8) (l:List UInt8) (h:Live s q c 17 o n t) (hb:aj s t x.toNat=true) (hx:nx (Tr.cS 17 o) x.toNat=⟨24,18,0,a::l,o⟩) :
 Live s q c 18 o n (aN s t ((x::a::l).map UInt8.toNat))/\aN s t ((x::a::l).map UInt8.toNat)=tP t (l.length+2):=by
 have L:=aA hf (qD x a l (Or.inl h) hb hx)
 obtain ⟨_,_,e⟩:=gM L.e0
 refine ⟨L,?_⟩
 rw [e]
 simp
theorem WX {s:List UInt8} (hf:bz s) {q c n:Nat} {o:List UInt8} {t:St} (h:Live s q c 17 o n t) (h1:aj s t 39=false) (h2:aj s t 116=false) (h3:aj s t 102=false) (h4:aj s t 110=false) :
 Live s q c 18 o n (countP s t true)/\∃m,countP s t true=tP t m/\0<m/\a_ s t.p=⟨⟨1,eI s t true,[]⟩,t.p+m⟩:=by
 have L:=aA hf (nT (Or.inl h) h1 h2 h3 h4)
 obtain ⟨m,v,e1,e2,e3,e4,e5⟩:=Cs L.e0 h.e0 (jI hf L (by omega))
 refine ⟨L,m,e1,e2,?_⟩
 rw [aK h.e0] at h1 h2 h3 h4
 simp only [beq_eq_false_iff_ne] at h1 h2 h3 h4
 rw [e3]
 unfold a_
 rw [if_neg h2,if_neg h3,if_neg h4,if_neg h1]
 rcases e5 with ⟨x1,x2,x3⟩ | ⟨x1,x2,x3⟩
 ·rw [if_pos x1,x2,x3]
 rw [if_neg x1,x2,x3]
theorem mY (l:List eO) (x:eO):dV (l++[x])=dV l++MT x:=by simp [dV]
def Ky (s:List UInt8) (t u:St) (l:List eO):Prop:=∃m,u=tP t m/\l.length<=m/\(∀x ∈ l,-1000<x.n/\x.n<1000)/\∀N,bA s (N+l.length) t.p []=bA s N u.p l
theorem jP (t:St) (m k:Nat):tP (tP t m) k=tP t (m+k):=by
 show St.mk (t.p+m+k) t.e t.n=St.mk (t.p+(m+k)) t.e t.n
 rw [Nat.add_assoc]
theorem Ky.add {s:List UInt8} {t u:St} {l:List eO} (h:Ky s t u l) {j:Nat} {x:eO} (hx:-1000<x.n/\x.n<1000) (hp:∀N acc,bA s (N+1) u.p acc=bA s N (u.p+(1+j)) (acc++[x])):Ky s t (tP u (1+j)) (l++[x]):=by
 obtain ⟨m,rfl,h1,h2,h3⟩:=h
 refine ⟨m+(1+j),jP _ _ _,by rw [List.length_append]; show _+1<=_; omega,λ y hy=>?_,λ N=>?_⟩
 ·rcases List.mem_append.1 hy with z | z
  ·exact h2 y z
  rw [List.mem_singleton.1 z]; exact hx
 rw [List.length_append,show N+(l.length+[x].length)=(N+1)+l.length by show N+(l.length+1)=_; omega,h3]
 exact hp N l
theorem Ky.word {s:List UInt8} {t u:St} {l:List eO} (h:Ky s t u l) (hf:bz s) {q c n:Nat} {o:List UInt8} (ho:Ok s q c 11 o n u) (hb:aj s u 46=true):Ky s t (bC s (aG u)) (l++[⟨true,sub s (aG u).p (bC s (aG u)).p,0⟩]):=by
 obtain ⟨j,e1,_,hp⟩:=MQ hf (aA hf ho) hb
 rw [e1]
 exact h.add ⟨by simp,by simp⟩ hp
theorem Ky.idx {s:List UInt8} {t u:St} {l:List eO} (h:Ky s t u l) (hf:bz s) {q c n:Nat} {o:List UInt8} (ho:Ok s q c 11 o n u) (hb:aj s u 91=true):Ky s t (aH s (countP s (aG u) true) 93) (l++[⟨false,[],eI s (aG u) true⟩]):=by
 obtain ⟨j,e1,_,hv,hp⟩:=Ss hf (aA hf ho) hb
 rw [e1]
 exact h.add hv hp
theorem al3 {w:World} {T:TypeId} {x y z:Value}:∀j u,[x,y,z][j]?=some u->(w.alloc (.cells #[x,y,z] T)).cell? (Addr.add ⟨w.heap.size,0,none⟩ j)=some u:=by
 intro j u hj
 match j,hj with
 | 0,hj=>simp at hj; subst hj; simp [Addr.add]
 | 1,hj=>simp at hj; subst hj; simp [Addr.add]
 | 2,hj=>simp at hj; subst hj; simp [Addr.add]
theorem Aw {s:ByteArray} {u:St} {x:Nat} (hb:aj (bs s) u x=true) (hx:x<256:=by decide):(aG u).p<=s.size:=by
 have hb:=(aE hb).2
 have:=Tr.cD (s:=bs s) (p:=u.p) (by omega)
 rw [an] at this; exact this
theorem Ax (s:ByteArray) (a b:Nat):sb (sub (bs s) a b)=s.extract a b:=by rw [<-cP,yw]
theorem WY (s:ByteArray) (a b:Nat):[Value.string (s.extract a b),.int .i64 0,.bool true]=MT ⟨true,sub (bs s) a b,0⟩:=by unfold MT; rw [Ax]
def abh (b:Nat) (s:ByteArray) (q c:Nat) (o:List UInt8) (n:Nat) (t:St) (w:World) (r:Ending) (w':World):Prop :=
 ∃a k cp t' l,r=.returned (.slice a k cp)/\Rd b s w t' w'/\Ok (bs s) q c 11 o n t'/\(t'.e=0->bt (bs s) t'.p≠46/\bt (bs s) t'.p≠91)/\w'.ownsRow w.heap.size 292 3 (.slice a k cp) l.length (dV l) /\
  (bz (bs s)->∃m,t'=tP t m/\(l.length<=120/\∀x ∈ l,-1000<x.n/\x.n<1000)/\∀N,m<N->bA (bs s) N t.p []=⟨l,t.p+m⟩)
theorem MU {w:World} {b:Nat} {s:ByteArray} {t:St} {q c n:Nat} {o:List UInt8} (h:aZ w b s t) (hs:s.size<=120) (hok:Ok (bs s) q c 11 o n t) :
 Calls Tryz.prog 258 #[.pointer (some ⟨b,0,none⟩)] w (abh b s q c o n t w):=by
 obtain ⟨i0,hi,hz0,hz1,dN⟩:=info_parts Tryz.Jk
 have HI:=aa hi
 have ia:=aa hz0
 have gO:=aa hz1
 have ic:=aa dN
 clear hi hz0 hz1 dN
 have dy:=h.lt
 have HR:=aa (Rd.same h)
 have HO:=aa hok
 clear h hok
 go_enter Tryz.func258,Tryz.ntmps258
 go_wp2
 go_loopw [3,4,5,6,7] (λ v _ _ _ _ wr=>∃(u:St) (k:Nat) (l:List eO),k=l.length/\wr.ownsRow w.heap.size 292 3 v k (dV l)/\k<=u.p/\Rd b s w u wr/\Ok (bs s) q c 11 o n u/\(bz (bs s)->Ky (bs s) t u l)) (λ_ _ _ _ _ wr=>s.size+1 - mP b wr)
 case atStart=>exact ⟨t,0,[],rfl,World.ownsRow_nil _ _ _ _,Nat.zero_le _,HR.out,HO.out,λ_=>⟨0,rfl,Nat.le_refl _,λ x hx=>(by cases hx),λ_=>rfl⟩⟩
 case round =>
  clear HR HO
  obtain ⟨u,k,l,hkl,hown,hk,hr,ho,hI⟩:=hrel
  have hle:=ho.le
  rw [an] at hle
  have q2:=hr.m.c2
  have HR:=aa hr
  have HO:=aa ho
  have HW:=aa hown
  have HS:=aa hI
  have WZ:=aa hkl
  clear hr ho hown hI hkl
  by_cases he:u.e=0
  ·have Ub:((u.e:Int) == 0)=true:=by rw [he]; rfl
   have HE:=aa he
   clear he
   go_wp2_with fail
   refine (jO HR.out.m 46 46 rfl (by omega) hs).mono ?_
   clear q2
   rintro r v1 ⟨rfl,g1⟩
   cases hd:aj (bs s) u 46
   ·have HD:=aa hd
    rw [show has (bs s) u 46=u by simp [has,hd]] at g1
    have G1:=aa (HR.out.trans g1)
    have W1:=aa (fO HW.out g1 dy)
    clear g1 hd
    go_wp2_with fail
    refine (jO G1.out.m 91 91 rfl (by omega) hs).mono ?_
    rintro r v2 ⟨rfl,g2⟩
    cases hx:aj (bs s) u 91
    ·rw [show has (bs s) u 91=u by simp [has,hx]] at g2
     have G2:=aa (G1.out.trans g2)
     have W2:=aa (fO W1.out g2 dy)
     have HX:=aa hx
     clear g2 hx
     obtain ⟨a,cp,rfl⟩:=ah HW.out
     go_wp2
     go_ret
     have h1:=HD.out
     have h2:=HX.out
     rw [aK HE.out] at h1 h2
     simp only [beq_eq_false_iff_ne] at h1 h2
     refine ⟨a,k,cp,u,l,rfl,G2.out,HO.out,λ_=>⟨h1,h2⟩,by rw [<-WZ.out]; exact W2.out,λ hf=>?_⟩
     obtain ⟨m,rfl,x1,x2,x3⟩:=HS.out hf
     refine ⟨m,rfl,⟨by rw [<-WZ.out]; omega,x2⟩,λ N hN=>?_⟩
     have y:=x3 (N - l.length)
     rw [show N - l.length+l.length=N by omega] at y
     rw [y,show N - l.length=(N - l.length - 1)+1 by omega]
     exact Sv h1 h2 _ _
    rw [show has (bs s) u 91=aG u by simp [has,hx]] at g2
    have G2:=aa (G1.out.trans g2)
    have W2:=aa (fO W1.out g2 dy)
    have Kz:=aa (zN HO.out hx)
    have I2:=aa (λ hf=>(HS.out hf).idx hf HO.out hx)
    have hin:=Aw hx
    clear g2 hx
    go_wp2_with fail
    refine (pU G2.out.m true hs hin).mono ?_
    rintro r v3 ⟨rfl,g3⟩
    have G3:=aa (G2.out.trans g3)
    have W3:=aa (fO W2.out g3 dy)
    clear g3
    go_wp2_with fail
    refine (dS G3.out.m ⟨#[93]⟩ (by decide) hs).mono ?_
    rintro r v4 ⟨rfl,g4⟩
    rw [MK] at g4
    have G4:=aa (G3.out.trans g4)
    have W4:=aa (fO W3.out g4 dy)
    clear g4
    have HP:Hid (u.p+1<=(aH (bs s) (countP (bs s) (aG u) true) 93).p):=Nat.le_trans (DX (bs s) (aG u) true) (yj _ _ _)
    generalize aH (bs s) (countP (bs s) (aG u) true) 93=u2 at *
    generalize eI (bs s) (aG u) true=cv at *
    have b7:=W4.out
    have hsz:=G4.out.f.size
    go_wp2_with (at_builtin; refine wpList_append_own _ rfl _ _ 247 rfl w.heap.size 292 i0 _ 3 32 Tryz.underlying247 HI.out ia.out gO.out ic.out rfl (by decide) _ _ _ rfl (b7.alloc _) ⟨v4.heap.size,0,none⟩ 1 1 [.string ⟨#[]⟩,.int .i64 cv,.bool false] rfl rfl al3 (by intro u hu; simp at hu; rcases hu with rfl | rfl | rfl<;>rfl) (by unfold maxLen; omega) (by omega) (by simp; omega) ?_)
    intro v' w5 cN hgrow _
    have G5:=aa ((G4.out.alloc _).grown hgrow dy (λ k hk=>(b7.lt k hk).1))
    have W5:=aa cN
    clear hgrow cN b7
    obtain ⟨a5,c5,rfl⟩:=ah W5.out
    go_wp2
    go_roundw
    case rel=>exact ⟨u2,k+1,_,by rw [List.length_append,WZ.out]; rfl,by rw [mY]; exact W5.out,by have:=HP.out; omega,G5.out,Kz.out,I2.out⟩
    case measure =>
     rw [HR.out.m.mP,G5.out.m.mP]
     have:=HP.out
     have:=Kz.out.le
     rw [an] at this
     omega
   rw [show has (bs s) u 46=aG u by simp [has,hd]] at g1
   have G1:=aa (HR.out.trans g1)
   have W1:=aa (fO HW.out g1 dy)
   have Kz:=aa (zQ HO.out hd)
   have I2:=aa (λ hf=>(HS.out hf).word hf HO.out hd)
   have hin:=Aw hd
   clear g1 hd
   go_wp2_with fail
   refine (Jg G1.out.m hs hin).mono ?_
   rintro r v4 ⟨rfl,g4⟩
   have G4:=aa (G1.out.trans g4)
   have W4:=aa (fO W1.out g4 dy)
   clear g4
   have HP:Hid (u.p+1<=(bC (bs s) (aG u)).p):=yh (bs s) (aG u)
   have SX:=aa (WY s (aG u).p (bC (bs s) (aG u)).p)
   generalize s.extract (aG u).p (bC (bs s) (aG u)).p=str at *
   generalize bC (bs s) (aG u)=u2 at *
   have b7:=W4.out
   have hsz:=G4.out.f.size
   go_wp2_with (at_builtin; refine wpList_append_own _ rfl _ _ 247 rfl w.heap.size 292 i0 _ 3 32 Tryz.underlying247 HI.out ia.out gO.out ic.out rfl (by decide) _ _ _ rfl (b7.alloc _) ⟨v4.heap.size,0,none⟩ 1 1 [.string str,.int .i64 0,.bool true] rfl rfl al3 (by intro u hu; simp at hu; rcases hu with rfl | rfl | rfl<;>rfl) (by unfold maxLen; omega) (by omega) (by simp; omega) ?_)
   intro v' w5 cN hgrow _
   have G5:=aa ((G4.out.alloc _).grown hgrow dy (λ k hk=>(b7.lt k hk).1))
   have W5:=aa cN
   clear hgrow cN b7
   obtain ⟨a5,c5,rfl⟩:=ah W5.out
   go_wp2
   go_roundw
   case rel=>exact ⟨u2,k+1,_,by rw [List.length_append,WZ.out]; rfl,by rw [mY,<-SX.out]; exact W5.out,by have:=HP.out; omega,G5.out,Kz.out,I2.out⟩
   case measure =>
    rw [HR.out.m.mP,G5.out.m.mP]
    have:=HP.out
    have:=Kz.out.le
    rw [an] at this
    omega
  have Ub:=pG he
  obtain ⟨a,cp,rfl⟩:=ah HW.out
  go_wp2
  go_ret
  exact ⟨a,k,cp,u,l,rfl,HR.out,HO.out,λ h=>absurd h he,by rw [<-WZ.out]; exact HW.out,λ hf=>absurd (aA hf HO.out).e0 he⟩
def W_ (b:Nat) (s:ByteArray) (q c:Nat) (o:List UInt8) (n:Nat) (t:St) (w:World) (r:Ending) (w':World):Prop :=
 ∃g t',r=.returned (.pointer (some ⟨g,0,none⟩))/\Rd b s w t' w'/\Ok (bs s) q c 18 o n t'/\(bz (bs s)->∃kt m,t'=tP t m/\0<m/\a_ (bs s) t.p=⟨kt,t.p+m⟩/\w.heap.size<=g/\ay w' g (WV kt) 195/\(1<=kt.k/\kt.k<=3))
theorem ry {b:Nat} {s:ByteArray} {q c:Nat} {o:List UInt8} {n:Nat} {t:St} {w v:World} {z:List UInt8} (x a:UInt8) (l:List UInt8) (ho:Ok (bs s) q c 17 o n t) (hb:aj (bs s) t x.toNat=true) (hx:nx (Tr.cS 17 o) x.toNat=⟨24,18,0,a::l,o⟩) (hr:Rd b s w (aN (bs s) t ((x::a::l).map UInt8.toNat)) v) (hp:a_ (bs s) t.p=⟨⟨3,0,z⟩,t.p+(l.length+2)⟩) :
 W_ b s q c o n t w (.returned (.pointer (some ⟨v.heap.size,0,none⟩))) (v.alloc (.cells (WV ⟨3,0,z⟩) 195)) :=
 ⟨_,_,rfl,hr.alloc _,qD x a l ho hb hx,λ hf=>⟨_,_,(MS hf x a l (aA hf ho) hb hx).2,by omega,hp,hr.f.size,ay.new _ _ _,by simp,by simp⟩⟩
theorem Ay {w:World} {b:Nat} {s:ByteArray} {t:St} {q c n:Nat} {o:List UInt8} (h:aZ w b s t) (hs:s.size<=120) (hok:Ok (bs s) q c 17 o n t) :
 Calls Tryz.prog 259 #[.pointer (some ⟨b,0,none⟩)] w (W_ b s q c o n t w):=by
 have hle:=hok.le
 rw [an] at hle
 have HR:=aa (Rd.same h)
 have HO:=aa hok
 clear h hok
 go_enter Tryz.func259,Tryz.ntmps259
 go_wp2_with fail
 refine (dU HR.out.m 39 39 rfl (by omega)).mono ?_
 rintro r v1 ⟨rfl,g⟩
 have G1:=aa (HR.out.trans g)
 clear g
 go_wp2_with fail
 refine (dU G1.out.m 116 116 rfl (by omega)).mono ?_
 rintro r v2 ⟨rfl,g⟩
 have G2:=aa (G1.out.trans g)
 clear g
 go_wp2_with fail
 refine (dU G2.out.m 102 102 rfl (by omega)).mono ?_
 rintro r v3 ⟨rfl,g⟩
 have G3:=aa (G2.out.trans g)
 clear g
 go_wp2_with fail
 refine (dU G3.out.m 110 110 rfl (by omega)).mono ?_
 rintro r v4 ⟨rfl,g⟩
 have G4:=aa (G3.out.trans g)
 clear g
 cases h1:aj (bs s) t 39
 ·cases h2:aj (bs s) t 116
  ·cases h3:aj (bs s) t 102
   ·cases h4:aj (bs s) t 110
    ·have H:=aa (And.intro h1 (And.intro h2 (And.intro h3 h4)))
     clear h1 h2 h3 h4
     go_wp2_with fail
     refine (pU G4.out.m true hs hle).mono ?_
     rintro r v5 ⟨rfl,g⟩
     have G5:=aa (G4.out.trans g)
     clear g
     go_wp2
     go_ret
     obtain ⟨h1,h2,h3,h4⟩:=H.out
     refine ⟨_,_,rfl,G5.out.alloc _,nT HO.out h1 h2 h3 h4,λ hf=>?_⟩
     obtain ⟨_,m,e1,e2,e3⟩:=WX hf (aA hf HO.out) h1 h2 h3 h4
     exact ⟨_,m,e1,e2,e3,G5.out.f.size,ay.new _ _ _,by simp,by simp⟩
    have H:=aa h4
    clear h1 h2 h3 h4
    go_wp2_with fail
    refine (dS G4.out.m ⟨#[110,117,108,108]⟩ (by decide) hs).mono ?_
    rintro r v5 ⟨rfl,g⟩
    rw [MN] at g
    have G5:=aa (G4.out.trans g)
    clear g
    go_wp2
    go_ret
    have hb:=(aE H.out).2
    exact ry 110 117 [108,108] HO.out H.out rfl G5.out (by unfold a_; rw [if_neg (by omega),if_neg (by omega),if_pos hb]; rfl)
   have H:=aa h3
   clear h1 h2 h3
   go_wp2_with fail
   refine (dS G4.out.m ⟨#[102,97,108,115,101]⟩ (by decide) hs).mono ?_
   rintro r v5 ⟨rfl,g⟩
   rw [Jl] at g
   have G5:=aa (G4.out.trans g)
   clear g
   go_wp2
   go_ret
   have hb:=(aE H.out).2
   exact ry 102 97 [108,115,101] HO.out H.out rfl G5.out (by unfold a_; rw [if_neg (by omega),if_pos hb]; rfl)
  have H:=aa h2
  clear h1 h2
  go_wp2_with fail
  refine (dS G4.out.m ⟨#[116,114,117,101]⟩ (by decide) hs).mono ?_
  rintro r v5 ⟨rfl,g⟩
  rw [ML] at g
  have G5:=aa (G4.out.trans g)
  clear g
  go_wp2
  go_ret
  have hb:=(aE H.out).2
  exact ry 116 114 [117,101] HO.out H.out rfl G5.out (by unfold a_; rw [if_pos hb]; rfl)
 have H:=aa h1
 clear h1
 go_wp2_with fail
 refine (Cm G4.out.m hs hle).mono ?_
 rintro r v5 ⟨rfl,g⟩
 have G5:=aa (G4.out.trans g)
 clear g
 go_wp2
 go_ret
 refine ⟨_,_,rfl,G5.out.alloc _,nS HO.out H.out,λ hf=>?_⟩
 obtain ⟨_,m,e1,e2,e3⟩:=MR hf (aA hf HO.out) H.out
 refine ⟨_,m,e1,e2,e3,G5.out.f.size,?_,by simp,by simp⟩
 unfold WV
 rw [Ax]
 exact ay.new _ _ _
def oW (w:World) (g:Nat) (φ:Tv->Bool):Prop:=∀(A:Nat->Nat) (D:Nat->Prop) (hi n:Nat) (t:Tv),RT w A D hi n t->ju w A g t (φ t)
theorem jb {w:World} {base:Nat} {e:TypeId} {sz:Nat} {v:Value} {n:Nat} {xs:List Value} (h:w.ownsRow base e sz v n xs) {g:Nat} (hg:v.ownBlock≠some g) (i:Nat) (x:Value):(w.setCell ⟨g,i,none⟩ x).ownsRow base e sz v n xs :=
 bO h (λ k hk=>Below.heap_setCell _ _ _ _ (λ e=>hg (by have e2:k=g:=e; rw [<-e2]; exact hk)))
def DT (gb kb:Nat) (sl:Value) (k:Nat):Prop:=k=gb\/k=kb\/sl.ownBlock=some k
theorem Ju {w:World} {base:Nat} {e:TypeId} {sz:Nat} {v:Value} {n:Nat} {xs:List Value} (h:w.ownsRow base e sz v n xs) (he:e≠5):Ft (λ k=>v.ownBlock=some k) base w:=by
 refine ⟨λ k hk=>(h.lt k hk).1,λ k hk=>?_⟩
 rcases h.2 with ⟨x,_⟩ | ⟨k2,cap,cur,x1,_,x3,_⟩
 ·rw [x] at hk; cases hk
 rw [x1] at hk
 have e:k2=k:=Option.some.inj hk
 subst e
 exact ⟨cur,_,_,x3,he⟩
theorem Xa {w:World} {kb:Nat} {kt:Kt} (h:ay w kb (WV kt) 195) (ok:1<=kt.k/\kt.k<=3):KtV w kb kt:=⟨h.cell 0,h.cell 1,h.cell 2,ok⟩
theorem MV {w:World} {base gb kb so:Nat} {sl:Value} {l:List eO} {kt:Kt} (hb:ay w gb #[.int .i64 (so:Nat),.pointer none,.pointer none,sl,.pointer (some ⟨kb,0,none⟩)] 249) (hr:w.ownsRow base 292 3 sl l.length (dV l)) (hl:l.length<=120/\∀x ∈ l,-1000<x.n/\x.n<1000) (hk:ay w kb (WV kt) 195) (ok:1<=kt.k/\kt.k<=3) (Uc:15<=so/\so<=18) (h1:base<=gb) (h2:base<=kb) :
 Ft (DT gb kb sl) base w/\fR (DT gb kb sl) w (λ w=>oW w gb (λ t=>MW so kt (aS t l))):=by
 refine ⟨(Ft.one hb (by decide) h1).or ((Ft.one hk (by decide) h2).or (Ju hr (by decide))),λ w' s A D hi n t ht=>?_⟩
 have b':=hb.sm s (Or.inl rfl)
 have k':=hk.sm s (Or.inr (Or.inl rfl))
 have r':w'.ownsRow base 292 3 sl l.length (dV l):=bO hr (λ k hk=>s k (Or.inr (Or.inr hk)))
 exact Jv (D':=λ k=>sl.ownBlock=some k) Uc b' ⟨⟨base,r'⟩,by omega,hl.2,λ_ x=>x⟩ (Xa k' ok) ht
theorem Jw {w:World} {base gb:Nat} {sl:Value} {l:List eO} (hb:ay w gb #[.int .i64 14,.pointer none,.pointer none,sl,.pointer none] 249) (hr:w.ownsRow base 292 3 sl l.length (dV l)) (hl:l.length<=120/\∀x ∈ l,-1000<x.n/\x.n<1000) (h1:base<=gb) :
 Ft (DT gb gb sl) base w/\fR (DT gb gb sl) w (λ w=>oW w gb (λ t=>(aS t l).isSome)):=by
 refine ⟨(Ft.one hb (by decide) h1).or ((Ft.one hb (by decide) h1).or (Ju hr (by decide))),λ w' s A D hi n t ht=>?_⟩
 have b':=hb.sm s (Or.inl rfl)
 have r':w'.ownsRow base 292 3 sl l.length (dV l):=bO hr (λ k hk=>s k (Or.inr (Or.inr hk)))
 exact Eb (D':=λ k=>sl.ownBlock=some k) b' ⟨⟨base,r'⟩,by omega,hl.2,λ_ x=>x⟩ ht
theorem Sw {s:List UInt8} (hf:bz s) {q c n:Nat} {o:List UInt8} {t:St} (x:Nat) (hx:x=61\/x=33) (h:Live s q c 11 o n t) (hb:aj s t x=true):aN s t [x,61]=tP t 2/\Live s q c 17 o n (tP t 2):=by
 have L:=aA hf (ok_eq x hx (Or.inl h) hb)
 obtain ⟨_,_,e⟩:=gM L.e0
 have e2:aN s t [x,61]=tP t 2:=e
 exact ⟨e2,e2▸L⟩
theorem Sy {s:List UInt8} {t:St} (hb:aj s t 60=true):aN s t [60]=tP t 1:=by
 show aH s t 60=tP t 1
 unfold aH
 rw [if_pos hb]
 rfl
def PoK (s:List UInt8) (l:List eO) (u u6:St) (so:Nat):Prop:=∃m,u6=tP u m/\∀kt k,a_ s u6.p=⟨kt,u6.p+k⟩->xm s l u.p=⟨λ t=>MW so kt (aS t l),u.p+(m+k)⟩
theorem Jx {s:List UInt8} (hf:bz s) {q c n:Nat} {o:List UInt8} {t:St} {l:List eO} (x:Nat) (hx:x=61\/x=33) (h:Ok s q c 11 o n t) (hb:aj s t x=true):PoK s l t (aN s t [x,61]) (if x=61 then 15 else 16):=by
 obtain ⟨e,_⟩:=Sw hf x hx (aA hf h) hb
 refine ⟨2,e,λ kt k hp=>?_⟩
 rw [e] at hp
 have p9:a_ s (t.p+2)=⟨kt,t.p+2+k⟩:=hp
 have b:=(aE hb).2
 unfold xm
 rcases hx with rfl | rfl
 ·rw [if_pos b,p9,Nat.add_assoc]; rfl
 rw [if_neg (by omega),if_pos b,p9,Nat.add_assoc]; rfl
theorem MX {s:List UInt8} {t:St} {l:List eO} (hb:aj s t 60=true):PoK s l t (has s (aN s t [60]) 61) (if aj s (aN s t [60]) 61 then 18 else 17):=by
 obtain ⟨e0,b⟩:=aE hb
 rw [Sy hb]
 unfold has
 split
 ·rename_i h
  refine ⟨2,rfl,λ kt k hp=>?_⟩
  have p9:a_ s (t.p+2)=⟨kt,t.p+2+k⟩:=hp
  unfold xm; rw [if_neg (by omega),if_neg (by omega),if_pos b,if_pos (aE h).2,p9,Nat.add_assoc]; rfl
 rename_i h
 refine ⟨1,rfl,λ kt k hp=>?_⟩
 have p9:a_ s (t.p+1)=⟨kt,t.p+1+k⟩:=hp
 rw [Bool.not_eq_true,aK (show (tP t 1).e=0 from e0)] at h
 unfold xm; rw [if_neg (by omega),if_neg (by omega),if_pos b,if_neg (by simpa using h),p9,Nat.add_assoc]; rfl
def Sz (b:Nat) (s:ByteArray) (q c:Nat) (o:List UInt8) (n:Nat) (t:St) (w:World) (r:Ending) (w':World):Prop :=
 ∃g t',r=.returned (.pointer (some ⟨g,0,none⟩))/\Rd b s w t' w'/\Ok (bs s) q c 18 o n t'/\(bz (bs s)->∃D φ m,t'=tP t m/\0<m/\Ft D w.heap.size w'/\fR D w' (λ w=>oW w g φ)/\oI (bs s) t.p=⟨φ,t.p+m⟩)
theorem Xb {s:List UInt8} {t:St} {l:List eO} {m1 m:Nat} {φ:Tv->Bool} (hle:t.p+1+m1<=s.length) (hp:∀N,m1<N->bA s N (t.p+1) []=⟨l,t.p+1+m1⟩) (ho:xm s l (t.p+1+m1)=⟨φ,t.p+1+m1+m⟩):oI s t.p=⟨φ,t.p+(1+m1+m)⟩:=by
 unfold oI
 rw [hp _ (by omega)]
 simp only
 rw [ho,show t.p+1+m1+m=t.p+(1+m1+m) by omega]
theorem SA {w:World} {b:Nat} {s:ByteArray} {t:St} {q c n:Nat} {o:List UInt8} (h:aZ w b s t) (hs:s.size<=120) (hok:Ok (bs s) q c 10 o n t) (n1:aj (bs s) t 33=false) (n2:aj (bs s) t 40=false) :
 Calls Tryz.prog 244 #[.pointer (some ⟨b,0,none⟩)] w (Sz b s q c o n t w):=by
 have dy:=h.lt
 have HR:=aa (Rd.same h)
 have HA:=aa (Pb hok n1 n2)
 have EA:Hid (bz (bs s)->aN (bs s) t [64]=tP t 1):=aa (λ hf=>(gM (aA hf HA.out).e0).2.2)
 clear h hok n1 n2
 go_enter Tryz.func244,Tryz.ntmps244
 go_wp2_with fail
 refine (dS HR.out.m ⟨#[64]⟩ (by decide) hs).mono ?_
 rintro r v1 ⟨rfl,g1⟩
 rw [WM] at g1
 have G1:=aa (HR.out.trans g1)
 clear g1
 generalize aN (bs s) t [64]=u at *
 go_wp2_with fail
 refine (MU G1.out.m hs HA.out).mono ?_
 rintro r v2 ⟨a,k,cp,u2,l,rfl,g2,QC,Xc,pM,Xd⟩
 have eK:b<v2.heap.size:=Nat.lt_of_lt_of_le dy (G1.out.trans g2).f.size
 have R2:=aa ((pW pM G1.out.f.size).alloc (.cells #[.int .i64 14,.pointer none,.pointer none,.slice a k cp,.pointer none] 249))
 have hnb:(Value.slice a k cp).ownBlock≠some v2.heap.size:=λ e=>by have:=(pM.lt _ e).2; omega
 have FP:Hid (bz (bs s)->∃m1,u2=tP t (1+m1)/\(l.length<=120/\∀x ∈ l,-1000<x.n/\x.n<1000)/\∀φ m,xm (bs s) l u2.p=⟨φ,u2.p+m⟩->oI (bs s) t.p=⟨φ,t.p+(1+m1+m)⟩):=λ hf=>by
  obtain ⟨m1,e2,x1,x2⟩:=Xd hf
  rw [EA.out hf] at e2 x2
  have e3:u2.p=t.p+1+m1:=by rw [e2]
  refine ⟨m1,by rw [e2,jP],x1,λ φ m hp=>?_⟩
  rw [e3] at hp
  exact Xb (by rw [<-e3]; exact QC.le) x2 hp
 have G2:=aa (G1.out.trans g2)
 have O2:=aa QC
 have N2:=aa Xc
 clear g2 QC Xc pM Xd EA HA
 have pM:w.heap.size<=v2.heap.size:=G2.out.f.size
 have B2:=aa (ay.new v2 #[.int .i64 14,.pointer none,.pointer none,.slice a k cp,.pointer none] 249)
 go_wp2_with fail
 refine (dU (G2.out.m.alloc _) 61 61 rfl (by omega)).mono ?_
 rintro r v3 ⟨rfl,g⟩
 have G3:=aa ((G2.out.alloc _).trans g)
 have B3:=aa (B2.out.rd g eK)
 have R3:=aa (fO R2.out g dy)
 clear g
 go_wp2_with fail
 refine (dU G3.out.m 33 33 rfl (by omega)).mono ?_
 rintro r v4 ⟨rfl,g⟩
 have G4:=aa (G3.out.trans g)
 have B4:=aa (B3.out.rd g eK)
 have R4:=aa (fO R3.out g dy)
 clear g
 go_wp2_with fail
 refine (dU G4.out.m 60 60 rfl (by omega)).mono ?_
 rintro r v5 ⟨rfl,g⟩
 have G5:=aa (G4.out.trans g)
 have B5:=aa (B4.out.rd g eK)
 have R5:=aa (fO R4.out g dy)
 clear g R2 R3 R4 B2 B3 B4 G1 G2 G3 G4
 obtain ⟨x1,h1⟩:∃x,aj (bs s) u2 61=x:=⟨_,rfl⟩
 obtain ⟨x2,h2⟩:∃x,aj (bs s) u2 33=x:=⟨_,rfl⟩
 obtain ⟨x3,h3⟩:∃x,aj (bs s) u2 60=x:=⟨_,rfl⟩
 rw [h1,h2,h3]
 have H1:=aa h1
 have H2:=aa h2
 have H3:=aa h3
 clear h1 h2 h3
 by_cases hx:x1=false/\x2=false/\x3=false
 ·obtain ⟨rfl,rfl,rfl⟩:=hx
  have vn:Hid (Sz b s q c o n t w (.returned (.pointer (some ⟨v2.heap.size,0,none⟩))) v5):=by
   have b1:=H1.out
   have b2:=H2.out
   have b3:=H3.out
   refine ⟨_,_,rfl,G5.out,BJ O2.out N2.out b1 b2 b3,λ hf=>?_⟩
   obtain ⟨m1,e,hl,hp⟩:=FP.out hf
   obtain ⟨f1,f2⟩:=Jw (base:=w.heap.size) (l:=l) B5.out R5.out hl pM
   rw [aK (aA hf O2.out).e0] at b1 b2 b3
   simp only [beq_eq_false_iff_ne] at b1 b2 b3
   refine ⟨_,_,_,e,by omega,f1,f2,hp _ 0 ?_⟩
   unfold xm
   rw [if_neg b1,if_neg b2,if_neg b3,Nat.add_zero]
  go_wp2
  go_ret
  exact vn.out
 go_upto_block 0 with fail
 go_cut [7] from 20 (λ_ wc=>∃(so:Nat) (u6:St),Rd b s w u6 wc/\ay wc v2.heap.size #[.int .i64 (so:Nat),.pointer none,.pointer none,.slice a k cp,.pointer none] 249/\wc.ownsRow w.heap.size 292 3 (.slice a k cp) l.length (dV l)/\Ok (bs s) q c 17 o n u6/\(15<=so/\so<=18)/\(bz (bs s)->PoK (bs s) l u2 u6 so))
 case first =>
  cases x1
  ·cases x2
   ·cases x3
    ·exact absurd ⟨rfl,rfl,rfl⟩ hx
    clear hx
    go_wp2_with fail
    refine (dS G5.out.m ⟨#[60]⟩ (by decide) hs).mono ?_
    rintro r v6 ⟨rfl,g⟩
    rw [WS] at g
    have G6:=aa (G5.out.trans g)
    have B6:=aa (B5.out.rd g eK)
    have R6:=aa (fO R5.out g dy)
    clear g
    have PL:=aa (MX (l:=l) H3.out)
    have O6:=aa (BI O2.out H3.out)
    generalize aN (bs s) u2 [60]=u5 at *
    have f0:=B6.out.fz 0
    have c0:=B6.out.cell 0
    simp at c0
    have G7:=aa (G6.out.cM dy v2.heap.size 0 pM (.int .i64 17))
    have B7:=aa (B6.out.set 0 (.int .i64 17))
    have R7:=aa (jb R6.out hnb 0 (.int .i64 17))
    go_wp2_with fail
    clear f0 c0
    refine (jO G7.out.m 61 61 rfl (by omega) hs).mono ?_
    rintro r v9 ⟨rfl,g⟩
    have G9:=aa (G7.out.trans g)
    have B9:=aa (B7.out.rd g eK)
    have R9:=aa (fO R7.out g dy)
    clear g
    generalize has (bs s) u5 61=u6 at *
    cases h9:aj (bs s) u5 61
    ·rw [h9] at PL
     clear h9
     go_wp2
     go_meet
     exact ⟨17,u6,G9.out,B9.out,R9.out,O6.out,by omega,λ_=>PL.out⟩
    rw [h9] at PL
    clear h9
    have f0:=B9.out.fz 0
    have c0:=B9.out.cell 0
    simp at c0
    go_wp2
    go_meet
    exact ⟨18,u6,G9.out.cM dy v2.heap.size 0 pM (.int .i64 18),B9.out.set 0 (.int .i64 18),jb R9.out hnb 0 (.int .i64 18),O6.out,by omega,λ_=>PL.out⟩
   clear hx
   go_wp2_with fail
   refine (dS G5.out.m ⟨#[33,61]⟩ (by decide) hs).mono ?_
   rintro r v6 ⟨rfl,g⟩
   rw [WQ] at g
   have G6:=aa (G5.out.trans g)
   have B6:=aa (B5.out.rd g eK)
   have R6:=aa (fO R5.out g dy)
   clear g
   have f0:=B6.out.fz 0
   have c0:=B6.out.cell 0
   simp at c0
   go_wp2
   go_meet
   exact ⟨16,_,G6.out.cM dy v2.heap.size 0 pM (.int .i64 16),B6.out.set 0 (.int .i64 16),jb R6.out hnb 0 (.int .i64 16),ok_eq 33 (Or.inr rfl) O2.out H2.out,by omega,λ hf=>Jx hf 33 (Or.inr rfl) O2.out H2.out⟩
  clear hx
  go_wp2_with fail
  refine (dS G5.out.m ⟨#[61,61]⟩ (by decide) hs).mono ?_
  rintro r v6 ⟨rfl,g⟩
  rw [WO] at g
  have G6:=aa (G5.out.trans g)
  have B6:=aa (B5.out.rd g eK)
  have R6:=aa (fO R5.out g dy)
  clear g
  have f0:=B6.out.fz 0
  have c0:=B6.out.cell 0
  simp at c0
  go_wp2
  go_meet
  exact ⟨15,_,G6.out.cM dy v2.heap.size 0 pM (.int .i64 15),B6.out.set 0 (.int .i64 15),jb R6.out hnb 0 (.int .i64 15),ok_eq 61 (Or.inl rfl) O2.out H1.out,by omega,λ hf=>Jx hf 61 (Or.inl rfl) O2.out H1.out⟩
 case rest =>
  obtain ⟨so,u6,g6,b6,r6,o6,Uc,p6⟩:=hcut
  have G6:=aa g6
  have B6:=aa b6
  have R6:=aa r6
  have O6:=aa o6
  have P6:=aa p6
  clear g6 b6 r6 o6 p6 G5 B5 R5
  go_wp2_with fail
  refine (Ay G6.out.m hs O6.out).mono ?_
  rintro r v8 ⟨g8,u8,rfl,YU,o8,k8⟩
  have G8:=aa (G6.out.trans YU)
  have B8:=aa (B6.out.rd YU eK)
  have R8:=aa (fO R6.out YU dy)
  have hlt:=B6.out.lt
  have vn:Hid (Sz b s q c o n t w (.returned (.pointer (some ⟨v2.heap.size,0,none⟩))) (v8.setCell ⟨v2.heap.size,4,none⟩ (.pointer (some ⟨g8,0,none⟩)))):=by
   refine ⟨_,_,rfl,G8.out.cM dy _ _ pM _,o8,λ hf=>?_⟩
   obtain ⟨kt,m8,rfl,_,p8,hg8,kb,ok8⟩:=k8 hf
   obtain ⟨m1,e,hl,hp⟩:=FP.out hf
   obtain ⟨m6,rfl,p9⟩:=P6.out hf
   obtain ⟨f1,f2⟩:=MV (base:=w.heap.size) (so:=so) (kt:=kt) (l:=l) (B8.out.set 4 (.pointer (some ⟨g8,0,none⟩))) (jb R8.out hnb 4 _) hl (kb.other (by omega) 4 _) ok8 Uc pM (by omega)
   exact ⟨_,_,_,by rw [e,jP,jP],by omega,f1,f2,hp _ _ (p9 _ _ p8)⟩
  have f4:=B8.out.fz 4
  have c4:=B8.out.cell 4
  simp at c4
  clear YU o8 k8
  go_wp2
  go_ret
  exact vn.out
end Go.Proofs.YtcbadebjpogmlaaGreatDoor
