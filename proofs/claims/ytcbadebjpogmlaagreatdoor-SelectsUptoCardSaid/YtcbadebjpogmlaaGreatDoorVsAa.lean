import Derived.Test.YtcbadebjpogmlaaGreatDoorVsFa
import Derived.Test.YtcbadebjpogmlaaGreatDoorVsSq
namespace Tr
def Deep:Nat->Tv->Prop
 | 0,_=>False
 | n+1,t=>∀c ∈ t.ws,Deep n c
theorem iB {α β:Type} {f g:α->List β}:∀{l:List α},(∀a ∈ l,f a=g a)->l.flatMap f=l.flatMap g
 | [],_=>rfl
 | a::l,h=>by rw [List.flatMap_cons,List.flatMap_cons,h a (List.mem_cons_self),iB (λ x hx=>h x (List.mem_cons_of_mem _ hx))]
theorem gH:∀{n m:Nat} {t:Tv},Deep n t->n<=m->au m t=au n t
 | 0,_,_,h,_=>h.elim
 | n+1,0,_,_,hm=>by omega
 | n+1,m+1,t,h,hm=>by
  unfold au
  congr 1
  exact iB (λ c hc=>gH (h c hc) (by omega))
theorem Deep.up:∀{n m:Nat} {t:Tv},Deep n t->n<=m->Deep m t
 | 0,_,_,h,_=>h.elim
 | _+1,0,_,_,hm=>by omega
 | _+1,_+1,_,h,hm=>λ c hc=>(h c hc).up (by omega)
def fr (t:Tv):Nat:=t.d.ai
def Ff (n:Nat) (t:Tv):Prop:=(au n t).Pairwise (λ a b=>fr a<fr b)
theorem bM {n:Nat} {t:Tv} (h:Deep n t):t ∈ au n t:=by
 cases n with
 | zero=>exact h.elim
 | succ n=>unfold au; exact List.mem_cons_self
theorem pK {n:Nat} {t c:Tv} (hc:c ∈ t.ws):∀v ∈ au n c,v ∈ au (n+1) t:=λ v hv=>by
 unfold au; exact List.mem_cons_of_mem _ (List.mem_flatMap.2 ⟨c,hc,hv⟩)
theorem sG:∀{n:Nat} {t u v:Tv},Deep n t->u ∈ au n t->v ∈ au 10 u->n<=10->v ∈ au n t
 | 0,_,_,_,h,_,_,_=>h.elim
 | n+1,t,u,v,h,hu,hv,hn=>by
  unfold au at hu
  rcases List.mem_cons.1 hu with e | e
  ·subst e
   rw [gH h hn] at hv
   exact hv
  obtain ⟨c,hc,EU⟩:=List.mem_flatMap.1 e
  exact pK hc v (sG (h c hc) EU hv (by omega))
theorem pL {n:Nat} {t u v:Tv} (h:Ff n t) (hu:u ∈ au n t) (hv:v ∈ au n t) (e:fr u=fr v):u=v:=by
 obtain ⟨i,hi,rfl⟩:=List.mem_iff_getElem.1 hu
 obtain ⟨j,hj,rfl⟩:=List.mem_iff_getElem.1 hv
 have hp:=List.pairwise_iff_getElem.1 h
 rcases Nat.lt_trichotomy i j with x | x | x
 ·have:=hp i j hi hj x; omega
 ·subst x; rfl
 have:=hp j i hj hi x; omega
theorem pY:∀{n:Nat} {t u:Tv},Deep n t->u ∈ au n t->∃m,m<=n/\Deep m u/\(au m u).Sublist (au n t)
 | 0,_,_,h,_=>h.elim
 | n+1,t,u,h,hu=>by
  unfold au at hu
  rcases List.mem_cons.1 hu with e | e
  ·subst e; exact ⟨n+1,Nat.le_refl _,h,List.Sublist.refl _⟩
  obtain ⟨c,hc,EU⟩:=List.mem_flatMap.1 e
  obtain ⟨m,h1,h2,h3⟩:=pY (h c hc) EU
  refine ⟨m,by omega,h2,h3.trans ?_⟩
  show (au n c).Sublist (t::t.ws.flatMap (au n))
  refine List.Sublist.cons _ ?_
  obtain ⟨a,b,hab⟩:=List.append_of_mem hc
  rw [hab,List.flatMap_append,List.flatMap_cons]
  exact (List.sublist_append_left _ _).trans (List.sublist_append_right _ _)
theorem AW {n:Nat} {t u:Tv} (hd:Deep n t) (h:Ff n t) (hu:u ∈ au n t) (hn:n<=10):Ff 10 u/\Deep 10 u:=by
 obtain ⟨m,h1,h2,h3⟩:=pY hd hu
 refine ⟨?_,h2.up (by omega)⟩
 unfold Ff
 rw [gH h2 (by omega)]
 exact h.sublist h3
def oA (v:Tv) (l:List Tv):Nat:=l.countP (λ u=>fr u == fr v)
def EW (u v:Tv):Bool:=(au 10 u).any (λ x=>fr x == fr v)
def rT (v:Tv) (l:List Tv):Nat:=l.countP (λ u=>EW u v)
theorem countP_flatMap {α β:Type} (p:β->Bool) (f:α->List β):∀(l:List α),(l.flatMap f).countP p=(l.map (λ a=>(f a).countP p)).sum
 | []=>rfl
 | a::l=>by rw [List.flatMap_cons,List.countP_append,countP_flatMap p f l]; simp
theorem za {α:Type} (p:α->Bool) (k:Nat) (f:α->Nat):∀(l:List α),(∀a ∈ l,f a=if p a=true then k else 0)->(l.map f).sum=l.countP p * k
 | [],_=>by simp
 | a::l,h=>by
  rw [List.map_cons,List.sum_cons,za p k f l (λ x hx=>h x (List.mem_cons_of_mem _ hx)),h a (List.mem_cons_self),List.countP_cons]
  split<;>simp_all [Nat.add_mul,Nat.add_comm]
theorem jV {n:Nat} {t u d:Tv} (hd:Deep n t) (hu:u ∈ au n t) (hk:d ∈ u.ws):d ∈ au n t:=by
 obtain ⟨m,_,h2,h3⟩:=pY hd hu
 refine h3.subset ?_
 cases m with
 | zero=>exact h2.elim
 | succ m=>exact pK hk d (bM (h2 d hk))
theorem um {n:Nat} {t u d:Tv} (hd:Deep n t) (ha:Ff n t) (hu:u ∈ au n t) (hk:d ∈ u.ws):fr u<fr d:=by
 obtain ⟨m,_,h2,h3⟩:=pY hd hu
 have h4:Ff m u:=ha.sublist h3
 cases m with
 | zero=>exact h2.elim
 | succ m =>
  have:(u::u.ws.flatMap (au m)).Pairwise (λ a b=>fr a<fr b):=h4
  exact (List.pairwise_cons.1 this).1 d (List.mem_flatMap.2 ⟨d,hk,bM (h2 d hk)⟩)
theorem k_ {n:Nat} {t u:Tv} (ha:Ff n t) (hu:u ∈ au n t):fr t<=fr u:=by
 cases n with
 | zero=>cases hu
 | succ n =>
  have h4:(t::t.ws.flatMap (au n)).Pairwise (λ a b=>fr a<fr b):=ha
  have hu:u ∈ t::t.ws.flatMap (au n):=hu
  rcases List.mem_cons.1 hu with e | e
  ·rw [e]; exact Nat.le_refl _
  exact Nat.le_of_lt ((List.pairwise_cons.1 h4).1 u e)
theorem Uq {n:Nat} {ws:List Tv} (h:(ws.flatMap (au n)).Pairwise (λ a b=>fr a<fr b)) {k k' x y:Tv} (hk:k ∈ ws) (hk':k' ∈ ws) (hx:x ∈ au n k) (hy:y ∈ au n k') (e:fr x=fr y):k=k':=by
 obtain ⟨_,h2⟩:=List.pairwise_flatMap.1 h
 obtain ⟨i,hi,rfl⟩:=List.mem_iff_getElem.1 hk
 obtain ⟨j,hj,rfl⟩:=List.mem_iff_getElem.1 hk'
 have hp:=List.pairwise_iff_getElem.1 h2
 rcases Nat.lt_trichotomy i j with z | z | z
 ·have:=hp i j hi hj z x hx y hy; omega
 ·subst z; rfl
 have:=hp j i hj hi z y hy x hx; omega
theorem pZ:∀{n:Nat} {t u v d c:Tv},Deep n t->Ff n t->u ∈ au n t->v ∈ au n t->d ∈ u.ws->c ∈ v.ws->fr d=fr c->fr u=fr v
 | 0,_,_,_,_,_,h,_,_,_,_,_,_=>h.elim
 | n+1,t,u,v,d,c,hd,ha,hu,hv,Yi,Yj,e=>by
  have h4:(t::t.ws.flatMap (au n)).Pairwise (λ a b=>fr a<fr b):=ha
  have h5:=(List.pairwise_cons.1 h4).2
  have sub:∀k ∈ t.ws,Ff n k:=λ k hk=>(List.pairwise_flatMap.1 h5).1 k hk
  have one:∀{k v d c:Tv},k ∈ t.ws->v ∈ au n k->c ∈ v.ws->d ∈ t.ws->fr d=fr c->False:=λ{k v d c} hk hv hc hdt e=>by
   have Fg:=jV (hd k hk) hv hc
   have:d=k:=Uq h5 hdt hk (bM (hd d hdt)) Fg e
   subst this
   have a1:=um (hd d hk) (sub d hk) hv hc
   have a2:=k_ (sub d hk) hv
   omega
  have hu:u ∈ t::t.ws.flatMap (au n):=hu
  have hv:v ∈ t::t.ws.flatMap (au n):=hv
  rcases List.mem_cons.1 hu with eu | eu
  ·rcases List.mem_cons.1 hv with ev | ev
   ·rw [eu,ev]
   obtain ⟨k,hk,lY⟩:=List.mem_flatMap.1 ev
   subst eu
   exact (one hk lY Yj Yi e).elim
  obtain ⟨k,hk,EU⟩:=List.mem_flatMap.1 eu
  rcases List.mem_cons.1 hv with ev | ev
  ·subst ev
   exact (one hk EU Yi Yj e.symm).elim
  obtain ⟨k',hk',lY⟩:=List.mem_flatMap.1 ev
  have:k=k':=Uq h5 hk hk' (jV (hd k hk) EU Yi) (jV (hd k' hk') lY Yj) e
  subst this
  exact pZ (hd k hk) (sub k hk) EU lY Yi Yj e
theorem sH (q:Tv×Nat->Bool) {c:Tv}:∀(ws:List Tv) (m j:Nat) (hj:j<ws.length),ws[j]=c->(∀i (h:i<ws.length),i≠j->fr ws[i]≠fr c)->(ws.zipIdx m).countP (λ p=>q p && fr p.1 == fr c)=if q (c,m+j)=true then 1 else 0
 | [],_,_,hj,_,_=>absurd hj (Nat.not_lt_zero _)
 | a::ws,m,0,_,e,h=>by
  have e:a=c:=e
  subst e
  have z:(ws.zipIdx (m+1)).countP (λ p=>q p && fr p.1 == fr a)=0:=by
   rw [List.countP_eq_zero]
   rintro ⟨x,i⟩ hx
   obtain ⟨h1,h2,h3⟩:=List.mem_zipIdx hx
   have:=h (i - (m+1)+1) (by simp; omega) (by omega)
   simp only [List.getElem_cons_succ] at this
   rw [h3]
   simp [this]
  rw [List.zipIdx_cons,List.countP_cons,z]
  simp
 | a::ws,m,j+1,hj,e,h=>by
  have h0:=h 0 (by simp) (by omega)
  have ih:=sH q ws (m+1) j (by simpa using hj) e (λ i hi hn=>h (i+1) (by simpa using hi) (by omega))
  have e2:m+1+j=m+(j+1):=by omega
  rw [List.zipIdx_cons,List.countP_cons,ih,e2]
  have h0:fr a≠fr c:=h0
  simp [h0]
theorem Ur {α:Type}:∀(l:List α),(l.map (λ_=>0)).sum=0
 | []=>rfl
 | _::l=>by rw [List.map_cons,List.sum_cons,Ur l]
theorem AX {n:Nat} {t u v:Tv} (hd:Deep n t) (ha:Ff n t) (hu:u ∈ au n t) (hv:v ∈ au n t) {j:Nat} (hj:j<v.ws.length) (l:List b_):oA v.ws[j] (fC l u)=if (fr u == fr v)=true then gI l v.d.kind v.ws.length j v.ws[j] else 0:=by
 unfold oA fC
 rw [countP_flatMap]
 by_cases e:fr u=fr v
 ·rw [if_pos (by simpa using e)]
  have:u=v:=pL ha hu hv e
  subst this
  unfold gI
  congr 1
  apply List.map_congr_left
  intro x _
  unfold cC
  rw [List.countP_map,List.countP_filter]
  have:=sH (c:=u.ws[j]) (λ p=>bG x u.d.kind u.ws.length p.2 p.1) u.ws 0 j hj rfl (λ i hi hn ef=>by
   obtain ⟨m,_,h2,h3⟩:=pY hd hu
   cases m with
   | zero=>exact h2.elim
   | succ m =>
    have h4:(u::u.ws.flatMap (au m)).Pairwise (λ a b=>fr a<fr b):=ha.sublist h3
    obtain ⟨_,h6⟩:=List.pairwise_flatMap.1 (List.pairwise_cons.1 h4).2
    have hp:=List.pairwise_iff_getElem.1 h6
    rcases Nat.lt_or_ge i j with z | z
    ·have:=hp i j hi hj z _ (bM (h2 _ (List.getElem_mem hi))) _ (bM (h2 _ (List.getElem_mem hj))); omega
    have:=hp j i hj hi (by omega) _ (bM (h2 _ (List.getElem_mem hj))) _ (bM (h2 _ (List.getElem_mem hi))); omega)
  rw [Nat.zero_add] at this
  rw [<-this]
  congr 1
  funext p
  first | rfl | exact Bool.and_comm _ _
 rw [if_neg (by simpa using e)]
 have:(l.map (λ x=>(cC x u).countP (λ w=>fr w == fr v.ws[j])))=l.map (λ_=>0):=by
  apply List.map_congr_left
  intro x _
  rw [List.countP_eq_zero]
  intro w hw hf
  unfold cC at hw
  obtain ⟨⟨w2,i⟩,pM,rfl⟩:=List.mem_map.1 hw
  have hm:=(List.mem_filter.1 pM).1
  obtain ⟨_,h2,h3⟩:=List.mem_zipIdx hm
  have hwu:w2 ∈ u.ws:=by rw [h3]; exact List.getElem_mem _
  exact e (pZ hd ha hu hv hwu (List.getElem_mem hj) (by simpa using hf))
 rw [this]
 exact Ur l
theorem AY:∀{n:Nat} {u x:Tv},x ∈ au n u->x=u\/∃p ∈ au n u,x ∈ p.ws
 | 0,_,_,h=>by cases h
 | n+1,u,x,h=>by
  have h:x ∈ u::u.ws.flatMap (au n):=h
  rcases List.mem_cons.1 h with e | e
  ·exact Or.inl e
  obtain ⟨k,hk,hx⟩:=List.mem_flatMap.1 e
  right
  rcases AY hx with e2 | ⟨p,hp,Ty⟩
  ·exact ⟨u,List.mem_cons_self,by rw [e2]; exact hk⟩
  exact ⟨p,pK hk p hp,Ty⟩
theorem AZ {l:List b_} {u x:Tv} (h:x ∈ fC l u):x ∈ u.ws:=by
 unfold fC at h
 obtain ⟨s,_,hx⟩:=List.mem_flatMap.1 h
 unfold cC at hx
 obtain ⟨⟨w2,i⟩,pM,rfl⟩:=List.mem_map.1 hx
 obtain ⟨_,_,h3⟩:=List.mem_zipIdx (List.mem_filter.1 pM).1
 rw [h3]; exact List.getElem_mem _
theorem KM {g:Sg} {u x:Tv} (hd:Deep 10 u) (h:x ∈ dr g u):∃p ∈ au 10 u,x ∈ p.ws:=by
 unfold dr at h
 split at h
 ·obtain ⟨p,hp,hx⟩:=List.mem_flatMap.1 h
  exact ⟨p,hp,AZ hx⟩
 exact ⟨u,bM hd,AZ h⟩
structure Tree (t:Tv):Prop where
 d:Deep 10 t
 a:Ff 10 t
theorem Tree.of {t u:Tv} (h:Tree t) (hu:u ∈ au 10 t):Tree u:=⟨(AW h.d h.a hu (Nat.le_refl _)).2,(AW h.d h.a hu (Nat.le_refl _)).1⟩
theorem Tree.mem {t u v:Tv} (h:Tree t) (hu:u ∈ au 10 t) (hv:v ∈ au 10 u):v ∈ au 10 t:=sG h.d hu hv (Nat.le_refl _)
theorem uo {t:Tv} (h:Tree t) {g:Sg} {u x:Tv} (hu:u ∈ au 10 t) (hx:x ∈ dr g u):x ∈ au 10 t/\fr u<fr x:=by
 obtain ⟨p,hp,Ty⟩:=KM (h.of hu).d hx
 have Kl:=h.mem hu hp
 refine ⟨jV h.d Kl Ty,?_⟩
 have a1:=um h.d h.a Kl Ty
 have a2:=k_ (h.of hu).a hp
 omega
theorem mu {t:Tv} (h:Tree t) {u v:Tv} (hu:u ∈ au 10 t) (hv:v ∈ au 10 t):EW u v=true↔v ∈ au 10 u:=by
 unfold EW
 rw [List.any_eq_true]
 constructor
 ·rintro ⟨x,hx,e⟩
  have:x=v:=pL h.a (h.mem hu hx) hv (by simpa using e)
  rw [<-this]; exact hx
 intro hx; exact ⟨v,hx,by simp⟩
theorem count_one {t:Tv} (h:Tree t) {u:Tv} (v:Tv) (hu:u ∈ au 10 t):(au 10 u).countP (λ x=>fr x == fr v)=if EW u v=true then 1 else 0:=by
 have key:∀(l:List Tv),l.Pairwise (λ a b=>fr a<fr b)->l.countP (λ x=>fr x == fr v)=if l.any (λ x=>fr x == fr v)=true then 1 else 0:=by
  intro l
  induction l with
  | nil=>intro _; rfl
  | cons a l ih =>
   intro hp
   obtain ⟨h1,h2⟩:=List.pairwise_cons.1 hp
   rw [List.countP_cons,ih h2,List.any_cons]
   by_cases e:fr a=fr v
   ·have:l.any (λ x=>fr x == fr v)=false:=by
     rw [List.any_eq_false]
     intro x hx
     have:=h1 x hx
     simp; omega
    simp [e,this]
   simp [e]
 exact key _ (h.of hu).a
theorem KN {t:Tv} (h:Tree t) {u v:Tv} (hu:u ∈ au 10 t) (hv:v ∈ au 10 t) {j:Nat} (hj:j<v.ws.length) (g:Sg):oA v.ws[j] (dr g u)=if (if g.deep=true then EW u v else fr u == fr v)=true then gI g.l v.d.kind v.ws.length j v.ws[j] else 0:=by
 unfold dr
 by_cases hg:g.deep=true
 ·rw [if_pos hg,if_pos hg]
  have e:oA v.ws[j] ((au 10 u).flatMap (fC g.l))=((au 10 u).map (λ x=>oA v.ws[j] (fC g.l x))).sum:=countP_flatMap _ _ _
  rw [e,za (λ x=>fr x == fr v) (gI g.l v.d.kind v.ws.length j v.ws[j]) _ (au 10 u) (λ x hx=>AX h.d h.a (h.mem hu hx) hv hj g.l),count_one h v hu]
  split<;>simp
 rw [if_neg hg,if_neg hg]
 exact AX h.d h.a hu hv hj g.l
theorem Fh {t:Tv} (h:Tree t) {N:List Tv} (hN:∀u ∈ N,u ∈ au 10 t) {v:Tv} (hv:v ∈ au 10 t) {j:Nat} (hj:j<v.ws.length) (g:Sg):oA v.ws[j] (N.flatMap (dr g))=(if g.deep=true then rT v N else oA v N) * gI g.l v.d.kind v.ws.length j v.ws[j]:=by
 have e:oA v.ws[j] (N.flatMap (dr g))=(N.map (λ x=>oA v.ws[j] (dr g x))).sum:=countP_flatMap _ _ _
 rw [e,za (λ u=>if g.deep=true then EW u v else fr u == fr v) (gI g.l v.d.kind v.ws.length j v.ws[j]) _ N (λ u hu=>KN h (hN u hu) hv hj g)]
 congr 1
 unfold rT oA
 split<;>rfl
theorem vQ {t:Tv} (h:Tree t) {N:List Tv} (hN:∀u ∈ N,u ∈ au 10 t) {v:Tv} (hv:v ∈ au 10 t) {j:Nat} (hj:j<v.ws.length):rT v.ws[j] N=rT v N+oA v.ws[j] N:=by
 have hc:v.ws[j] ∈ v.ws:=List.getElem_mem hj
 have hct:=jV h.d hv hc
 have key:∀u ∈ N,EW u v.ws[j]=(EW u v || fr u == fr v.ws[j])/\¬(EW u v=true/\(fr u == fr v.ws[j])=true):=by
  intro u hu
  have Og:=hN u hu
  have Zo:¬(EW u v=true/\(fr u == fr v.ws[j])=true):=by
   rintro ⟨h1,h2⟩
   have a1:=k_ (h.of Og).a ((mu h Og hv).1 h1)
   have a2:=um h.d h.a hv hc
   have:fr u=fr v.ws[j]:=by simpa using h2
   omega
  refine ⟨?_,Zo⟩
  rw [Bool.eq_iff_iff,Bool.or_eq_true,mu h Og hct,mu h Og hv]
  constructor
  ·intro hx
   rcases AY hx with e | ⟨p,hp,Ty⟩
   ·right; rw [<-e]; simp
   left
   have rO:=h.mem Og hp
   have:fr p=fr v:=pZ h.d h.a rO hv Ty hc rfl
   rw [<-pL h.a rO hv this]; exact hp
  rintro (hx | hx)
  ·exact jV (h.of Og).d hx hc
  have:u=v.ws[j]:=pL h.a Og hct (by simpa using hx)
  rw [<-this]; exact bM (h.of Og).d
 unfold rT oA
 clear hN
 induction N with
 | nil=>rfl
 | cons u N ih =>
  have ih:=ih (λ x hx=>key x (List.mem_cons_of_mem _ hx))
  obtain ⟨k1,k2⟩:=key u (List.mem_cons_self)
  rw [List.countP_cons,List.countP_cons,List.countP_cons,ih,k1]
  cases h1:EW u v<;>cases h2:(fr u == fr v.ws[j])
  ·simp
  ·simp; omega
  ·simp; omega
  exact absurd ⟨h1,h2⟩ k2
theorem sI:∀(a b:List Sg) (l:List Tv),aI (a++b) l=aI b (aI a l)
 | [],_,_=>rfl
 | _::a,b,_=>sI a b _
theorem p7 {xs:List Sg} {i:Nat} (hi:i<xs.length) (l:List Tv):aI (xs.take (i+1)) l=(aI (xs.take i) l).flatMap (dr xs[i]):=by
 rw [List.take_succ_eq_append_getElem hi,sI]; rfl
theorem jA {t:Tv} (h:Tree t) (xs:List Sg):∀(N:List Tv),(∀u ∈ N,u ∈ au 10 t)->∀x ∈ aI xs N,x ∈ au 10 t:=by
 induction xs with
 | nil=>intro N hN x hx; exact hN x hx
 | cons g r ih =>
  intro N hN x hx
  refine ih _ (λ u hu=>?_) x hx
  obtain ⟨y,hy,EU⟩:=List.mem_flatMap.1 hu
  exact (uo h (hN y hy) EU).1
structure Fi (xs:List Sg) (t v:Tv) (tl:List Ct):Prop where
 len:tl.length=xs.length+1
 c:∀i,i<=xs.length->(eZ tl i).pN=oA v (aI (xs.take i) [t])/\(eZ tl i).al=rT v (aI (xs.take i) [t])
theorem p_ (pk L i:Nat) (c:Tv):∀(xs:List Sg) (ps:List Ct),ps.length=xs.length+1->(rU pk L i c xs ps).length=xs.length
 | [],_,_=>by simp [rU]
 | s::r,[],h=>by simp at h
 | s::r,[_],h=>by simp at h
 | s::r,p0::p1::ps,h=>by
  rw [rU,List.length_cons,p_ pk L i c r (p1::ps) (by simpa using h),List.length_cons]
theorem uq (pk L i:Nat) (c:Tv):∀(xs:List Sg) (ps:List Ct),ps.length=xs.length+1->∀k (hk:k<xs.length),eZ (rU pk L i c xs ps) k=⟨(if xs[k].deep=true then (eZ ps k).al else (eZ ps k).pN) * gI xs[k].l pk L i c,(eZ ps (k+1)).al+(if xs[k].deep=true then (eZ ps k).al else (eZ ps k).pN) * gI xs[k].l pk L i c⟩
 | [],_,_,k,hk=>absurd hk (Nat.not_lt_zero _)
 | s::r,[],h,_,_=>by simp at h
 | s::r,[_],h,_,_=>by simp at h
 | s::r,p0::p1::ps,h,0,hk=>by rw [rU]; rfl
 | s::r,p0::p1::ps,h,k+1,hk=>by
  rw [rU]
  exact uq pk L i c r (p1::ps) (by simpa using h) k (by simpa using hk)
theorem P_ {xs:List Sg} {t v:Tv} (h:Tree t) (hv:v ∈ au 10 t) {tl:List Ct} (k:Fi xs t v tl) {j:Nat} (hj:j<v.ws.length):Fi xs t v.ws[j] (vR xs v.d.kind v.ws.length j v.ws[j] tl):=by
 have hN:∀i,∀u ∈ aI (xs.take i) [t],u ∈ au 10 t:=λ i=>jA h _ [t] (λ u hu=>by rw [List.mem_singleton.1 hu]; exact bM h.d)
 have hc:v.ws[j] ∈ v.ws:=List.getElem_mem hj
 refine ⟨by rw [vR,List.length_cons,p_ _ _ _ _ _ _ k.len],λ i hi=>?_⟩
 have e0:(tl.headD ⟨0,0⟩)=eZ tl 0:=by cases tl<;>rfl
 cases i with
 | zero =>
  have k0:=(k.c 0 (Nat.zero_le _)).2
  have z:oA v.ws[j] [t]=0:=by
   have a1:=um h.d h.a hv hc
   have a2:=k_ h.a hv
   have:fr t≠fr v.ws[j]:=by omega
   simp [oA,this]
  have:=vQ h (N:=[t]) (λ u hu=>by rw [List.mem_singleton.1 hu]; exact bM h.d) hv hj
  rw [z] at this
  refine ⟨?_,?_⟩
  ·show 0=oA v.ws[j] [t]; rw [z]
  show (tl.headD ⟨0,0⟩).al=rT v.ws[j] [t]
  rw [e0,k0,this]; rfl
 | succ i =>
  have hi':i<xs.length:=by omega
  have kc:=k.c i (by omega)
  have Oh:=k.c (i+1) hi
  have e:eZ (vR xs v.d.kind v.ws.length j v.ws[j] tl) (i+1)=eZ (rU v.d.kind v.ws.length j v.ws[j] xs tl) i:=rfl
  rw [e,uq _ _ _ _ _ _ k.len i hi']
  have o:=Fh h (hN i) hv hj xs[i]
  rw [<-p7 hi'] at o
  have oa:=vQ h (hN (i+1)) hv hj
  refine ⟨?_,?_⟩
  ·simp only [kc.1,kc.2,o]
  simp only [kc.1,kc.2,Oh.2,oa,o]
theorem vS (s:List UInt8):∀(n a:Nat) (l:List b_),l.length<(dY s (n+1) a l).v.length
 | 0,a,l=>by rw [dY]; split<;>simp [dY]
 | n+1,a,l=>by
  rw [dY]
  split
  ·have:=vS s n ((bU s a).p+1) (l++[(bU s a).v])
   simp at this ⊢; omega
  simp
theorem KQ (s:List UInt8) (a:Nat):0<(fD s a).v.l.length:=by
 have h:∀a,0<(yS s a).v.length:=λ a=>by unfold yS; have:=vS s s.length (a+1) []; simpa using this
 have k:∀a,0<(fE s a).v.length:=λ a=>by unfold fE; split<;>simp
 unfold fD
 split
 ·exact h a
 split
 ·split
  ·exact h (a+2)
  exact k (a+2)
 exact k (a+1)
theorem vT (s:List UInt8):∀(n a:Nat) (l:List Sg),(∀g ∈ l,0<g.l.length)->∀g ∈ i_ s n a l,0<g.l.length
 | 0,_,_,h=>h
 | n+1,a,l,h=>by
  rw [i_]
  split
  ·refine vT s n _ _ (λ g hg=>?_)
   rcases List.mem_append.1 hg with x | x
   ·exact h g x
   rw [List.mem_singleton.1 x]; exact KQ s a
  exact h
theorem sJ (s:List UInt8):∀g ∈ cK s,0<g.l.length:=vT s _ _ _ (by simp)
theorem A6:∀(xs:List Sg),(∀g ∈ xs,0<g.l.length)->xs.length<=fJ xs
 | [],_=>Nat.zero_le _
 | g::xs,h=>by
  have:=A6 xs (λ x hx=>h x (List.mem_cons_of_mem _ hx))
  have h1:=h g (List.mem_cons_self)
  simp [fJ] at this ⊢; omega
def iu:List Sg->Nat
 | []=>1
 | g::r=>g.l.length * iu r
theorem vU:∀(xs:List Sg),iu xs<=2 ^ fJ xs
 | []=>by simp [iu,fJ]
 | g::r=>by
  have ih:=vU r
  have h:g.l.length<=2 ^ g.l.length:=Nat.le_of_lt Nat.lt_two_pow_self
  simp only [iu,fJ,List.map_cons,List.sum_cons,Nat.pow_add] at ih ⊢
  exact Nat.mul_le_mul h ih
theorem vV:∀(a b:List Sg),iu (a++b)=iu a * iu b
 | [],b=>by simp [iu]
 | g::a,b=>by simp [iu,vV a b,Nat.mul_assoc]
theorem CU (xs:List Sg) (i:Nat):fJ (xs.take i)<=fJ xs:=by
 have:fJ xs=fJ (xs.take i)+fJ (xs.drop i):=by
  have e:fJ (xs.take i++xs.drop i)=fJ (xs.take i)+fJ (xs.drop i):=by simp only [fJ,List.map_append,List.sum_append]
  rw [List.take_append_drop] at e; exact e
 omega
structure Oj (xs:List Sg) (d:Nat) (tl:List Ct):Prop where
 len:tl.length=xs.length+1
 c:∀i,i<=xs.length->(eZ tl i).pN<=2 ^ d * iu (xs.take i)/\(eZ tl i).al<=2 ^ d * iu (xs.take i)
theorem A7:∀(xs:List b_) (pk L i:Nat) (c:Tv),gI xs pk L i c<=xs.length
 | [],_,_,_,_=>Nat.le_refl _
 | x::xs,pk,L,i,c=>by
  have:=A7 xs pk L i c
  unfold gI at *
  simp only [List.map_cons,List.sum_cons,List.length_cons]
  split<;>omega
theorem KT (xs:List Sg) (h:∀g ∈ xs,0<g.l.length):Oj xs 0 (kL xs.length):=by
 refine ⟨by simp [kL],λ i hi=>?_⟩
 have pos:∀ys:List Sg,(∀g ∈ ys,0<g.l.length)->0<iu ys:=by
  intro ys
  induction ys with
  | nil=>intro _; simp [iu]
  | cons g r ih=>intro hy; exact Nat.mul_pos (hy g (List.mem_cons_self)) (ih (λ x hx=>hy x (List.mem_cons_of_mem _ hx)))
 have p:=pos (xs.take i) (λ g hg=>h g (List.mem_of_mem_take hg))
 cases i with
 | zero=>simp [eZ,kL,iu]
 | succ i =>
  have:eZ (kL xs.length) (i+1)=⟨0,0⟩:=by
   unfold eZ kL
   simp only [List.getD_cons_succ]
   rw [List.getD_eq_getElem?_getD,List.getElem?_replicate]
   split<;>rfl
  rw [this]; simp
theorem KU {xs:List Sg} {d:Nat} {tl:List Ct} (h:Oj xs d tl) (pk L i:Nat) (c:Tv):Oj xs (d+1) (vR xs pk L i c tl):=by
 refine ⟨by rw [vR,List.length_cons,p_ _ _ _ _ _ _ h.len],λ k hk=>?_⟩
 cases k with
 | zero =>
  have e0:(tl.headD ⟨0,0⟩)=eZ tl 0:=by cases tl<;>rfl
  have h0:=(h.c 0 (Nat.zero_le _)).2
  show 0<=_/\(tl.headD ⟨0,0⟩).al<=_
  rw [e0,Nat.pow_succ]
  simp [iu] at h0 ⊢
  omega
 | succ k =>
  have hk':k<xs.length:=by omega
  have a:=h.c k (by omega)
  have b:=(h.c (k+1) hk).2
  have e:eZ (vR xs pk L i c tl) (k+1)=eZ (rU pk L i c xs tl) k:=rfl
  rw [e,uq _ _ _ _ _ _ h.len k hk']
  have ep:iu (xs.take (k+1))=iu (xs.take k) * (xs[k].l.length):=by
   rw [List.take_succ_eq_append_getElem hk',vV]; simp [iu]
  have t:(if xs[k].deep=true then (eZ tl k).al else (eZ tl k).pN) * gI xs[k].l pk L i c<=2 ^ d * iu (xs.take k) * xs[k].l.length:=by
   refine Nat.mul_le_mul ?_ (A7 _ _ _ _ _)
   split
   ·exact a.2
   exact a.1
  rw [ep] at b ⊢
  rw [Nat.mul_assoc] at t
  rw [Nat.pow_succ]
  simp only
  have e2:2 ^ d * 2 * (iu (xs.take k) * xs[k].l.length)=2 ^ d * (iu (xs.take k) * xs[k].l.length)+2 ^ d * (iu (xs.take k) * xs[k].l.length):=by
   rw [Nat.mul_right_comm,Nat.mul_two]
  rw [e2]
  omega
theorem Oj.lt {xs:List Sg} {d:Nat} {tl:List Ct} (h:Oj xs d tl) (hd:d<=9) (hs:fJ xs<=10) (i:Nat):(eZ tl i).pN<=524288/\(eZ tl i).al<=524288:=by
 by_cases hi:i<=xs.length
 ·have a:=h.c i hi
  have p:=vU (xs.take i)
  have n:=CU xs i
  have p1:iu (xs.take i)<=2 ^ 10:=Nat.le_trans p (Nat.pow_le_pow_right (by omega) (by omega))
  have p2:2 ^ d<=2 ^ 9:=Nat.pow_le_pow_right (by omega) hd
  have p3:2 ^ d * iu (xs.take i)<=2 ^ 9 * 2 ^ 10:=Nat.mul_le_mul p2 p1
  have e:(2:Nat) ^ 9 * 2 ^ 10=524288:=by decide
  omega
 have:eZ tl i=⟨0,0⟩:=by
  unfold eZ
  rw [List.getD_eq_getElem?_getD,List.getElem?_eq_none (by rw [h.len]; omega)]; rfl
 rw [this]; simp
theorem vW {t:Tv} (h:Tree t):∀(xs:List Sg),xs≠[]->∀(N:List Tv),(∀u ∈ N,u ∈ au 10 t)->∀x ∈ aI xs N,fr t<fr x
 | [],hx,_,_,_,_=>absurd rfl hx
 | [g],_,N,hN,x,hx=>by
  have hx:x ∈ N.flatMap (dr g):=hx
  obtain ⟨u,hu,hxu⟩:=List.mem_flatMap.1 hx
  have a:=(uo h (hN u hu) hxu).2
  have b:=k_ h.a (hN u hu)
  omega
 | g::g2::r,_,N,hN,x,hx=>by
  refine vW h (g2::r) (by simp) (N.flatMap (dr g)) (λ u hu=>?_) x hx
  obtain ⟨y,hy,EU⟩:=List.mem_flatMap.1 hu
  exact (uo h (hN y hy) EU).1
theorem KV {t:Tv} (h:Tree t) (xs:List Sg):Fi xs t t (kL xs.length):=by
 refine ⟨by simp [kL],λ i hi=>?_⟩
 cases i with
 | zero =>
  have:EW t t=true:=(mu h (bM h.d) (bM h.d)).2 (bM h.d)
  simp [eZ,kL,aI,oA,rT,this]
 | succ i =>
  have e:eZ (kL xs.length) (i+1)=⟨0,0⟩:=by
   unfold eZ kL
   simp only [List.getD_cons_succ]
   rw [List.getD_eq_getElem?_getD,List.getElem?_replicate]
   split<;>rfl
  have hne:xs.take (i+1)≠[]:=by cases xs with
   | nil=>simp at hi
   | cons a b=>simp
  have up:∀x ∈ aI (xs.take (i+1)) [t],fr t<fr x:=vW h _ hne [t] (λ u hu=>by rw [List.mem_singleton.1 hu]; exact bM h.d)
  have sub:∀x ∈ aI (xs.take (i+1)) [t],x ∈ au 10 t:=jA h _ [t] (λ u hu=>by rw [List.mem_singleton.1 hu]; exact bM h.d)
  rw [e]
  refine ⟨?_,?_⟩
  ·symm
   show oA t _=0
   unfold oA
   rw [List.countP_eq_zero]
   intro u hu
   have:=up u hu
   simp; omega
  symm
  show rT t _=0
  unfold rT
  rw [List.countP_eq_zero]
  intro u hu hin
  have a:=up u hu
  have b:=k_ (h.of (sub u hu)).a ((mu h (sub u hu) (bM h.d)).1 hin)
  omega
theorem Fj {t:Tv} (h:Tree t) (xs:List Sg) (hx:∀g ∈ xs,0<g.l.length):∀(n:Nat) (v:Tv),Deep n v->v ∈ au 10 t->∀tl d,Fi xs t v tl->Oj xs d tl->d+n<=10->∀u ∈ au n v,∃tl' d',Fi xs t u tl'/\Oj xs d' tl'/\d'<=9
 | 0,_,hd,_,_,_,_,_,_,_,_=>hd.elim
 | n+1,v,hd,hv,tl,d,k1,k2,hdn,u,hu=>by
  have hu:u ∈ v::v.ws.flatMap (au n):=hu
  rcases List.mem_cons.1 hu with e | e
  ·subst e; exact ⟨tl,d,k1,k2,by omega⟩
  obtain ⟨c,hc,huc⟩:=List.mem_flatMap.1 e
  obtain ⟨j,hj,rfl⟩:=List.mem_iff_getElem.1 hc
  exact Fj h xs hx n _ (hd _ hc) (jV h.d hv hc) _ (d+1) (P_ h hv k1 hj) (KU k2 _ _ _ _) (by omega) u huc
theorem CV {t:Tv} (h:Tree t) (xs:List Sg) (hx:∀g ∈ xs,0<g.l.length) (hs:fJ xs<=10) {u:Tv} (hu:u ∈ au 10 t) {i:Nat} (hi:i<=xs.length):oA u (aI (xs.take i) [t])<=524288:=by
 obtain ⟨tl,d,k1,k2,k3⟩:=Fj h xs hx 10 t h.d (bM h.d) _ 0 (KV h xs) (KT xs hx) (by omega) u hu
 rw [<-(k1.c i hi).1]
 exact (k2.lt k3 hs i).1
theorem A8:∀(L:List Tv),L.Pairwise (λ a b=>fr a<fr b)->∀(N:List Tv),(∀x ∈ N,∃y ∈ L,fr y=fr x)->N.length=(L.map (λ v=>oA v N)).sum
 | [],_,N,h=>by
  cases N with
  | nil=>rfl
  | cons x N=>obtain ⟨y,hy,_⟩:=h x (List.mem_cons_self); cases hy
 | a::L,hp,N,h=>by
  obtain ⟨h1,h2⟩:=List.pairwise_cons.1 hp
  have e:=List.length_eq_countP_add_countP (l:=N) (λ u=>fr u == fr a)
  have ih:=A8 L h2 (N.filter (λ u=>!(fr u == fr a))) (λ x hx=>by
   obtain ⟨hx1,hx2⟩:=List.mem_filter.1 hx
   obtain ⟨y,hy,ey⟩:=h x hx1
   rcases List.mem_cons.1 hy with z | z
   ·subst z; simp [ey] at hx2
   exact ⟨y,z,ey⟩)
  have e2:(N.filter (λ u=>!(fr u == fr a))).length=N.countP (λ u=>!(fr u == fr a)):=List.countP_eq_length_filter.symm
  have e3:L.map (λ v=>oA v (N.filter (λ u=>!(fr u == fr a))))=L.map (λ v=>oA v N):=by
   apply List.map_congr_left
   intro v hv
   have hlt:=h1 v hv
   unfold oA
   rw [List.countP_filter]
   apply List.countP_congr
   intro x _
   simp
   intro hx
   omega
  rw [List.map_cons,List.sum_cons,<-e3,<-ih,e2]
  have e4:N.countP (λ u=>!(fr u == fr a))=N.countP (λ a_1=>decide ¬(fr a_1 == fr a)=true):=by
   apply List.countP_congr
   intro x _
   simp
  unfold oA
  rw [e4]
  exact e
theorem Fk {α:Type} (f:α->Nat) (k:Nat):∀(l:List α),(∀a ∈ l,f a<=k)->(l.map f).sum<=l.length * k
 | [],_=>by simp
 | a::l,h=>by
  have:=Fk f k l (λ x hx=>h x (List.mem_cons_of_mem _ hx))
  have h1:=h a (List.mem_cons_self)
  simp only [List.map_cons,List.sum_cons,List.length_cons,Nat.add_mul,Nat.one_mul]
  omega
theorem ur:∀(l:List Nat) (a B:Nat),l.Pairwise (·<·)->(∀x ∈ l,a<=x/\x<B)->l.length<=B - a
 | [],_,_,_,_=>Nat.zero_le _
 | x::l,a,B,hp,h=>by
  obtain ⟨h1,h2⟩:=List.pairwise_cons.1 hp
  have hx:=h x (List.mem_cons_self)
  have:=ur l (x+1) B h2 (λ y hy=>⟨h1 y hy,(h y (List.mem_cons_of_mem _ hy)).2⟩)
  simp; omega
theorem nC {t:Tv} (h:Tree t) {B:Nat} (hB:∀v ∈ au 10 t,fr v<B) (xs:List Sg) (hx:∀g ∈ xs,0<g.l.length) (hs:fJ xs<=10) {i:Nat} (hi:i<=xs.length):(aI (xs.take i) [t]).length<=B * 524288:=by
 have sub:∀x ∈ aI (xs.take i) [t],x ∈ au 10 t:=jA h _ [t] (λ u hu=>by rw [List.mem_singleton.1 hu]; exact bM h.d)
 rw [A8 (au 10 t) h.a _ (λ x hx=>⟨x,sub x hx,rfl⟩)]
 have a:=Fk (λ v=>oA v (aI (xs.take i) [t])) 524288 (au 10 t) (λ v hv=>CV h xs hx hs hv hi)
 have b:(au 10 t).length<=B:=by
  have:=ur ((au 10 t).map fr) 0 B (List.pairwise_map.2 h.a) (λ x hx=>by
   obtain ⟨v,hv,rfl⟩:=List.mem_map.1 hx
   exact ⟨Nat.zero_le _,hB v hv⟩)
  simpa using this
 exact Nat.le_trans a (Nat.mul_le_mul_right _ b)
def qa (t:Tv):List Nat:=(au 10 t).map fr
def vI:List Fm->List Nat
 | []=>[]
 | f::r=>vI r++(f.d.ai::f.ws.flatMap qa)
def vX:List Fm->Prop
 | []=>True
 | f::r=>(∀c ∈ f.ws,Deep (9 - r.length) c)/\vX r
structure GF (g:Gs):Prop where
 len:g.st.length<=8
 p:(vI g.st).Pairwise (·<·)
 b:∀x ∈ vI g.st,x<g.bd
 d:vX g.st
 l:g.st=[]->∀t,g.last=some t->Deep 10 t/\(qa t).Pairwise (·<·)/\∀x ∈ qa t,x<g.bd
theorem zb {d:dO} {ws:List Tv} {n:Nat} (hn:n<=9) (h:∀c ∈ ws,Deep n c):qa ⟨d,ws⟩=d.ai::ws.flatMap qa:=by
 unfold qa
 show fr ⟨d,ws⟩::(ws.flatMap (au 9)).map fr=_
 rw [List.map_flatMap]
 congr 1
 exact iB (λ c hc=>by rw [gH (m:=9) (h c hc) hn,<-gH (m:=10) (h c hc) (by omega)])
theorem vY {g:Gs} {f:Fm} {r:List Fm} {to:Nat} (hl:r.length<=8) (hk:f.kp=true) (hp:(vI (f::r)).Pairwise (·<·)) (hb:∀x ∈ vI (f::r),x<g.bd) (hd:vX (f::r)):GF (dQ g f r to):=by
 have e:=zb (d:={ f.d with to:=to }) (ws:=f.ws) (n:=9 - r.length) (by omega) hd.1
 have hD:Deep (9 - r.length+1) (f.tv to):=hd.1
 have est:vI (nw r f.kp (f.tv to))=if r=[] then [] else vI (f::r):=by
  cases r with
  | nil=>rfl
  | cons p q =>
   rw [if_neg (by simp)]
   show vI (gU p f.kp (f.tv to)::q)=_
   unfold gU
   rw [if_pos hk]
   simp only [vI,List.flatMap_append,List.flatMap_cons,List.flatMap_nil,List.append_nil]
   have:qa (f.tv to)=f.d.ai::f.ws.flatMap qa:=e
   rw [this]
   simp
 refine ⟨by simp [dQ,uu]; exact hl,?_,?_,?_,?_⟩
 ·show (vI (nw r f.kp (f.tv to))).Pairwise _
  rw [est]; split
  ·exact List.Pairwise.nil
  exact hp
 ·show ∀x ∈ vI (nw r f.kp (f.tv to)),x<g.bd
  rw [est]; split
  ·intro x hx; cases hx
  exact hb
 ·show vX (nw r f.kp (f.tv to))
  cases r with
  | nil=>trivial
  | cons p q =>
   obtain ⟨_,h2,h3⟩:=hd
   refine ⟨?_,h3⟩
   unfold gU
   rw [if_pos hk]
   intro c hc
   rcases List.mem_append.1 hc with x | x
   ·exact h2 c x
   rw [List.mem_singleton.1 x]
   exact hD.up (by simp at hl ⊢; omega)
 intro h0 t ht
 have hr:r=[]:=by
  cases r with
  | nil=>rfl
  | cons p q=>simp [dQ,nw] at h0
 subst hr
 have et:f.tv to=t:=Option.some.inj ht
 rw [<-et]
 have es:qa (f.tv to)=f.d.ai::f.ws.flatMap qa:=e
 have e2:vI [f]=f.d.ai::f.ws.flatMap qa:=by simp [vI]
 rw [e2] at hp hb
 exact ⟨hD.up (by simp),by rw [es]; exact hp,by rw [es]; exact hb⟩
theorem vZ {g:Gs} (h:GF g) {ai:Nat} (hf:g.bd<=ai) {f:Fm} (hd:f.d.ai=ai) (hw:f.ws=[]):(vI (f::g.st)).Pairwise (·<·)/\(∀x ∈ vI (f::g.st),x<ai+1)/\vX (f::g.st):=by
 have e:vI (f::g.st)=vI g.st++[ai]:=by simp [vI,hd,hw]
 rw [e]
 refine ⟨?_,?_,?_⟩
 ·rw [List.pairwise_append]
  refine ⟨h.p,by simp,λ a ha b hb=>?_⟩
  rw [List.mem_singleton.1 hb]
  have:=h.b a ha; omega
 ·intro x hx
  rcases List.mem_append.1 hx with y | y
  ·have:=h.b x y; omega
  rw [List.mem_singleton.1 y]; omega
 refine ⟨?_,h.d⟩
 rw [hw]; intro c hc; cases hc
theorem KX {g:Gs} {t:Tok} (h:GF g) (hi:nD g.st g.ix) (ht:f_ g.sh t):GF (aR g t true):=by
 have hl:g.sh.op.length=g.st.length:=by simp [Gs.sh]
 have h8:=h.len
 unfold aR
 by_cases h0:t.k=0
 ·rw [if_pos h0]
  have k0:=ht.k0 h0
  obtain ⟨a,b,c⟩:=vZ h (ai:=t.ai) k0.2.2.2.2 (f:=aM g t true) rfl rfl
  exact ⟨by simp; omega,a,b,c,λ x=>by simp at x⟩
 rw [if_neg h0]
 by_cases h1:t.k=1
 ·rw [if_pos h1]
  cases hs:g.st with
  | nil=>simp only; exact ⟨by simp [hs],by rw [hs]; exact List.Pairwise.nil,(by rw [hs]; intro x hx; cases hx),(by rw [hs]; trivial),λ_=>h.l hs⟩
  | cons f r =>
   have hp:=h.p
   have hb:=h.b
   have hd:=h.d
   rw [hs] at hp hb hd hi h8
   exact vY (by simp at h8; omega) hi.2.1 hp hb hd
 rw [if_neg h1]
 by_cases h2:t.k=2
 ·rw [if_pos h2]; exact ⟨h.len,h.p,h.b,h.d,h.l⟩
 rw [if_neg h2]
 have k3:=ht.k3 (by have:=ht.k; omega)
 obtain ⟨a,b,c⟩:=vZ h (ai:=t.ai) k3.2.2.2.2 (f:=aM g t true) rfl rfl
 exact vY (g:={ g with nm:=[],bd:=t.ai+1 }) h8 rfl a b c
theorem zc:∀{ts:List Tok} {g:Gs},GF g->nD g.st g.ix->o_ g.sh ts->GF (dB g ts)
 | [],_,h,_,_=>h
 | t::r,g,h,hi,ho=>by
  rw [jB]
  exact zc (KX h hi ho.1) (A9 hi) (by rw [jW g t true ho.1]; exact ho.2)
theorem v_:GF bK:=⟨by simp [bK],List.Pairwise.nil,λ x hx=>(by cases hx),trivial,λ_ t ht=>(by cases ht)⟩
theorem uv:∀{ts:List Tok} {g:Gs} {B:Nat},g.bd<=B->o_ g.sh ts->(∀t ∈ ts,t.ai<B)->(dB g ts).bd<=B
 | [],_,_,h,_,_=>h
 | t::r,g,B,h,ho,hB=>by
  rw [jB]
  refine uv ?_ (by rw [jW g t true ho.1]; exact ho.2) (λ x hx=>hB x (List.mem_cons_of_mem _ hx))
  have e:(aR g t true).bd=(gJ g.sh t).bd:=congrArg Sh.bd (jW g t true ho.1)
  have hf:=hB t (List.mem_cons_self)
  have hg:g.sh.bd=g.bd:=rfl
  rw [e]
  unfold gJ
  split
  ·show t.ai+1<=B; omega
  split
  ·show g.bd<=B; exact h
  split
  ·exact h
  show t.ai+1<=B; omega
theorem uw {l:List UInt8} (hl:l.length<=4000000) (h:cw l=0) {t:Tv} (ht:ja l=some t):Tree t/\∀v ∈ au 10 t,fr v<4000000:=by
 obtain ⟨h1,h2,_⟩:=Fl hl h
 have G:=zc v_ (show nD bK.st bK.ix from trivial) (ts:=jC l) h1
 obtain ⟨a,b,c⟩:=G.l h2 t ht
 have bd:(dB bK (jC l)).bd<=4000000:=by
  refine uv (by simp [bK]) h1 ?_
  have:∀(ts:List Tok) (s:Sh),o_ s ts->∀t ∈ ts,t.ai<4000000:=by
   intro ts
   induction ts with
   | nil=>intro _ _ t ht; cases ht
   | cons x r ih =>
    intro s ho t ht
    rcases List.mem_cons.1 ht with e | e
    ·rw [e]; exact ho.1.ai
    exact ih _ ho.2 t e
  exact this _ _ h1
 refine ⟨⟨a,List.pairwise_map.1 b⟩,λ v hv=>?_⟩
 have:=c (fr v) (List.mem_map.2 ⟨v,hv,rfl⟩)
 omega
end Tr
