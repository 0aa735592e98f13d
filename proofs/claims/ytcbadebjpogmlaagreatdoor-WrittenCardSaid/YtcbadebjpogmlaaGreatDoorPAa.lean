import Derived.Test.YtcbadebjpogmlaaGreatDoorPFa
import Derived.Test.YtcbadebjpogmlaaGreatDoorPSq
namespace Tr
def Deep:Nat→Tv→Prop
 | 0,_=>False
 | n+1,t=>∀c ∈ t.ws,Deep n c
theorem fm_congr {α β:Type} {f g:α→List β}:∀{l:List α},(∀a ∈ l,f a=g a)→l.flatMap f=l.flatMap g
 | [],_=>rfl
 | a::l,h=>by rw [List.flatMap_cons,List.flatMap_cons,h a (List.mem_cons_self),fm_congr (fun x hx=>h x (List.mem_cons_of_mem _ hx))]
theorem allT_deep:∀{n m:Nat} {t:Tv},Deep n t→n≤m→allT m t=allT n t
 | 0,_,_,h,_=>h.elim
 | n+1,0,_,_,hm=>by omega
 | n+1,m+1,t,h,hm=>by
  unfold allT
  congr 1
  exact fm_congr (fun c hc=>allT_deep (h c hc) (by omega))
theorem Deep.up:∀{n m:Nat} {t:Tv},Deep n t→n≤m→Deep m t
 | 0,_,_,h,_=>h.elim
 | _+1,0,_,_,hm=>by omega
 | _+1,_+1,_,h,hm=>fun c hc=>(h c hc).up (by omega)
def fr (t:Tv):Nat:=t.d.frm
def Asc (n:Nat) (t:Tv):Prop:=(allT n t).Pairwise (fun a b=>fr a<fr b)
theorem self_mem {n:Nat} {t:Tv} (h:Deep n t):t ∈ allT n t:=by
 cases n with
 | zero=>exact h.elim
 | succ n=>unfold allT; exact List.mem_cons_self
theorem kid_sub {n:Nat} {t c:Tv} (hc:c ∈ t.ws):∀v ∈ allT n c,v ∈ allT (n+1) t:=fun v hv=>by
 unfold allT; exact List.mem_cons_of_mem _ (List.mem_flatMap.2 ⟨c,hc,hv⟩)
theorem all_trans:∀{n:Nat} {t u v:Tv},Deep n t→u ∈ allT n t→v ∈ allT 10 u→n≤10→v ∈ allT n t
 | 0,_,_,_,h,_,_,_=>h.elim
 | n+1,t,u,v,h,hu,hv,hn=>by
  unfold allT at hu
  rcases List.mem_cons.1 hu with e | e
  ·subst e
   rw [allT_deep h hn] at hv
   exact hv
  obtain ⟨c,hc,hu2⟩:=List.mem_flatMap.1 e
  exact kid_sub hc v (all_trans (h c hc) hu2 hv (by omega))
theorem asc_inj {n:Nat} {t u v:Tv} (h:Asc n t) (hu:u ∈ allT n t) (hv:v ∈ allT n t) (e:fr u=fr v):u=v:=by
 obtain ⟨i,hi,rfl⟩:=List.mem_iff_getElem.1 hu
 obtain ⟨j,hj,rfl⟩:=List.mem_iff_getElem.1 hv
 have hp:=List.pairwise_iff_getElem.1 h
 rcases Nat.lt_trichotomy i j with x | x | x
 ·have:=hp i j hi hj x; omega
 ·subst x; rfl
 have:=hp j i hj hi x; omega
theorem sub_of:∀{n:Nat} {t u:Tv},Deep n t→u ∈ allT n t→∃m,m≤n∧Deep m u∧(allT m u).Sublist (allT n t)
 | 0,_,_,h,_=>h.elim
 | n+1,t,u,h,hu=>by
  unfold allT at hu
  rcases List.mem_cons.1 hu with e | e
  ·subst e; exact ⟨n+1,Nat.le_refl _,h,List.Sublist.refl _⟩
  obtain ⟨c,hc,hu2⟩:=List.mem_flatMap.1 e
  obtain ⟨m,h1,h2,h3⟩:=sub_of (h c hc) hu2
  refine ⟨m,by omega,h2,h3.trans ?_⟩
  show (allT n c).Sublist (t::t.ws.flatMap (allT n))
  refine List.Sublist.cons _ ?_
  obtain ⟨a,b,hab⟩:=List.append_of_mem hc
  rw [hab,List.flatMap_append,List.flatMap_cons]
  exact (List.sublist_append_left _ _).trans (List.sublist_append_right _ _)
theorem asc_sub {n:Nat} {t u:Tv} (hd:Deep n t) (h:Asc n t) (hu:u ∈ allT n t) (hn:n≤10):Asc 10 u∧Deep 10 u:=by
 obtain ⟨m,h1,h2,h3⟩:=sub_of hd hu
 refine ⟨?_,h2.up (by omega)⟩
 unfold Asc
 rw [allT_deep h2 (by omega)]
 exact h.sublist h3
def occ (v:Tv) (l:List Tv):Nat:=l.countP (fun u=>fr u == fr v)
def inT (u v:Tv):Bool:=(allT 10 u).any (fun x=>fr x == fr v)
def occA (v:Tv) (l:List Tv):Nat:=l.countP (fun u=>inT u v)
theorem countP_flatMap {α β:Type} (p:β→Bool) (f:α→List β):∀(l:List α),(l.flatMap f).countP p=(l.map (fun a=>(f a).countP p)).sum
 | []=>rfl
 | a::l=>by rw [List.flatMap_cons,List.countP_append,countP_flatMap p f l]; simp
theorem sum_if {α:Type} (p:α→Bool) (k:Nat) (f:α→Nat):∀(l:List α),(∀a ∈ l,f a=if p a=true then k else 0)→(l.map f).sum=l.countP p * k
 | [],_=>by simp
 | a::l,h=>by
  rw [List.map_cons,List.sum_cons,sum_if p k f l (fun x hx=>h x (List.mem_cons_of_mem _ hx)),h a (List.mem_cons_self),List.countP_cons]
  split<;>simp_all [Nat.add_mul,Nat.add_comm]
theorem mem_kid {n:Nat} {t u d:Tv} (hd:Deep n t) (hu:u ∈ allT n t) (hk:d ∈ u.ws):d ∈ allT n t:=by
 obtain ⟨m,_,h2,h3⟩:=sub_of hd hu
 refine h3.subset ?_
 cases m with
 | zero=>exact h2.elim
 | succ m=>exact kid_sub hk d (self_mem (h2 d hk))
theorem lt_kid {n:Nat} {t u d:Tv} (hd:Deep n t) (ha:Asc n t) (hu:u ∈ allT n t) (hk:d ∈ u.ws):fr u<fr d:=by
 obtain ⟨m,_,h2,h3⟩:=sub_of hd hu
 have h4:Asc m u:=ha.sublist h3
 cases m with
 | zero=>exact h2.elim
 | succ m =>
  have:(u::u.ws.flatMap (allT m)).Pairwise (fun a b=>fr a<fr b):=h4
  exact (List.pairwise_cons.1 this).1 d (List.mem_flatMap.2 ⟨d,hk,self_mem (h2 d hk)⟩)
theorem self_le {n:Nat} {t u:Tv} (ha:Asc n t) (hu:u ∈ allT n t):fr t≤fr u:=by
 cases n with
 | zero=>cases hu
 | succ n =>
  have h4:(t::t.ws.flatMap (allT n)).Pairwise (fun a b=>fr a<fr b):=ha
  have hu:u ∈ t::t.ws.flatMap (allT n):=hu
  rcases List.mem_cons.1 hu with e | e
  ·rw [e]; exact Nat.le_refl _
  exact Nat.le_of_lt ((List.pairwise_cons.1 h4).1 u e)
theorem disj {n:Nat} {ws:List Tv} (h:(ws.flatMap (allT n)).Pairwise (fun a b=>fr a<fr b)) {k k' x y:Tv} (hk:k ∈ ws) (hk':k' ∈ ws) (hx:x ∈ allT n k) (hy:y ∈ allT n k') (e:fr x=fr y):k=k':=by
 obtain ⟨_,h2⟩:=List.pairwise_flatMap.1 h
 obtain ⟨i,hi,rfl⟩:=List.mem_iff_getElem.1 hk
 obtain ⟨j,hj,rfl⟩:=List.mem_iff_getElem.1 hk'
 have hp:=List.pairwise_iff_getElem.1 h2
 rcases Nat.lt_trichotomy i j with z | z | z
 ·have:=hp i j hi hj z x hx y hy; omega
 ·subst z; rfl
 have:=hp j i hj hi z y hy x hx; omega
theorem par_uniq:∀{n:Nat} {t u v d c:Tv},Deep n t→Asc n t→u ∈ allT n t→v ∈ allT n t→d ∈ u.ws→c ∈ v.ws→fr d=fr c→fr u=fr v
 | 0,_,_,_,_,_,h,_,_,_,_,_,_=>h.elim
 | n+1,t,u,v,d,c,hd,ha,hu,hv,hdu,hcv,e=>by
  have h4:(t::t.ws.flatMap (allT n)).Pairwise (fun a b=>fr a<fr b):=ha
  have h5:=(List.pairwise_cons.1 h4).2
  have sub:∀k ∈ t.ws,Asc n k:=fun k hk=>(List.pairwise_flatMap.1 h5).1 k hk
  have one:∀{k v d c:Tv},k ∈ t.ws→v ∈ allT n k→c ∈ v.ws→d ∈ t.ws→fr d=fr c→False:=fun {k v d c} hk hv hc hdt e=>by
   have hc2:=mem_kid (hd k hk) hv hc
   have:d=k:=disj h5 hdt hk (self_mem (hd d hdt)) hc2 e
   subst this
   have a1:=lt_kid (hd d hk) (sub d hk) hv hc
   have a2:=self_le (sub d hk) hv
   omega
  have hu:u ∈ t::t.ws.flatMap (allT n):=hu
  have hv:v ∈ t::t.ws.flatMap (allT n):=hv
  rcases List.mem_cons.1 hu with eu | eu
  ·rcases List.mem_cons.1 hv with ev | ev
   ·rw [eu,ev]
   obtain ⟨k,hk,hv2⟩:=List.mem_flatMap.1 ev
   subst eu
   exact (one hk hv2 hcv hdu e).elim
  obtain ⟨k,hk,hu2⟩:=List.mem_flatMap.1 eu
  rcases List.mem_cons.1 hv with ev | ev
  ·subst ev
   exact (one hk hu2 hdu hcv e.symm).elim
  obtain ⟨k',hk',hv2⟩:=List.mem_flatMap.1 ev
  have:k=k':=disj h5 hk hk' (mem_kid (hd k hk) hu2 hdu) (mem_kid (hd k' hk') hv2 hcv) e
  subst this
  exact par_uniq (hd k hk) (sub k hk) hu2 hv2 hdu hcv e
theorem zip_count (q:Tv×Nat→Bool) {c:Tv}:∀(ws:List Tv) (m j:Nat) (hj:j<ws.length),ws[j]=c→(∀i (h:i<ws.length),i≠j→fr ws[i]≠fr c)→(ws.zipIdx m).countP (fun p=>q p && fr p.1 == fr c)=if q (c,m+j)=true then 1 else 0
 | [],_,_,hj,_,_=>absurd hj (Nat.not_lt_zero _)
 | a::ws,m,0,_,e,h=>by
  have e:a=c:=e
  subst e
  have z:(ws.zipIdx (m+1)).countP (fun p=>q p && fr p.1 == fr a)=0:=by
   rw [List.countP_eq_zero]
   rintro ⟨x,i⟩ hx
   obtain ⟨h1,h2,h3⟩:=List.mem_zipIdx hx
   have:=h (i - (m+1)+1) (by simp; omega) (by omega)
   simp only [List.getElem_cons_succ] at this
   rw [h3]
   simp [this]
  rw [List.zipIdx_cons,List.countP_cons,z]
  simp
 | a::ws,m,j+1,hj,e,h=>by
  have h0:=h 0 (by simp) (by omega)
  have ih:=zip_count q ws (m+1) j (by simpa using hj) e (fun i hi hn=>h (i+1) (by simpa using hi) (by omega))
  have e2:m+1+j=m+(j+1):=by omega
  rw [List.zipIdx_cons,List.countP_cons,ih,e2]
  have h0:fr a≠fr c:=h0
  simp [h0]
theorem sum0 {α:Type}:∀(l:List α),(l.map (fun _=>0)).sum=0
 | []=>rfl
 | _::l=>by rw [List.map_cons,List.sum_cons,sum0 l]
theorem occ_dir {n:Nat} {t u v:Tv} (hd:Deep n t) (ha:Asc n t) (hu:u ∈ allT n t) (hv:v ∈ allT n t) {j:Nat} (hj:j<v.ws.length) (l:List Sel):occ v.ws[j] (dirS l u)=if (fr u == fr v)=true then cntS l v.d.kind v.ws.length j v.ws[j] else 0:=by
 unfold occ dirS
 rw [countP_flatMap]
 by_cases e:fr u=fr v
 ·rw [if_pos (by simpa using e)]
  have:u=v:=asc_inj ha hu hv e
  subst this
  unfold cntS
  congr 1
  apply List.map_congr_left
  intro x _
  unfold takS
  rw [List.countP_map,List.countP_filter]
  have:=zip_count (c:=u.ws[j]) (fun p=>takes1 x u.d.kind u.ws.length p.2 p.1) u.ws 0 j hj rfl (fun i hi hn ef=>by
   obtain ⟨m,_,h2,h3⟩:=sub_of hd hu
   cases m with
   | zero=>exact h2.elim
   | succ m =>
    have h4:(u::u.ws.flatMap (allT m)).Pairwise (fun a b=>fr a<fr b):=ha.sublist h3
    obtain ⟨_,h6⟩:=List.pairwise_flatMap.1 (List.pairwise_cons.1 h4).2
    have hp:=List.pairwise_iff_getElem.1 h6
    rcases Nat.lt_or_ge i j with z | z
    ·have:=hp i j hi hj z _ (self_mem (h2 _ (List.getElem_mem hi))) _ (self_mem (h2 _ (List.getElem_mem hj))); omega
    have:=hp j i hj hi (by omega) _ (self_mem (h2 _ (List.getElem_mem hj))) _ (self_mem (h2 _ (List.getElem_mem hi))); omega)
  rw [Nat.zero_add] at this
  rw [← this]
  congr 1
  funext p
  first | rfl | exact Bool.and_comm _ _
 rw [if_neg (by simpa using e)]
 have:(l.map (fun x=>(takS x u).countP (fun w=>fr w == fr v.ws[j])))=l.map (fun _=>0):=by
  apply List.map_congr_left
  intro x _
  rw [List.countP_eq_zero]
  intro w hw hf
  unfold takS at hw
  obtain ⟨⟨w2,i⟩,hw2,rfl⟩:=List.mem_map.1 hw
  have hm:=(List.mem_filter.1 hw2).1
  obtain ⟨_,h2,h3⟩:=List.mem_zipIdx hm
  have hwu:w2 ∈ u.ws:=by rw [h3]; exact List.getElem_mem _
  exact e (par_uniq hd ha hu hv hwu (List.getElem_mem hj) (by simpa using hf))
 rw [this]
 exact sum0 l
end Tr
namespace Tr
theorem all_par:∀{n:Nat} {u x:Tv},x ∈ allT n u→x=u∨∃p ∈ allT n u,x ∈ p.ws
 | 0,_,_,h=>by cases h
 | n+1,u,x,h=>by
  have h:x ∈ u::u.ws.flatMap (allT n):=h
  rcases List.mem_cons.1 h with e | e
  ·exact Or.inl e
  obtain ⟨k,hk,hx⟩:=List.mem_flatMap.1 e
  right
  rcases all_par hx with e2 | ⟨p,hp,hxp⟩
  ·exact ⟨u,List.mem_cons_self,by rw [e2]; exact hk⟩
  exact ⟨p,kid_sub hk p hp,hxp⟩
theorem dir_sub {l:List Sel} {u x:Tv} (h:x ∈ dirS l u):x ∈ u.ws:=by
 unfold dirS at h
 obtain ⟨s,_,hx⟩:=List.mem_flatMap.1 h
 unfold takS at hx
 obtain ⟨⟨w2,i⟩,hw2,rfl⟩:=List.mem_map.1 hx
 obtain ⟨_,_,h3⟩:=List.mem_zipIdx (List.mem_filter.1 hw2).1
 rw [h3]; exact List.getElem_mem _
theorem seg_par {g:Sg} {u x:Tv} (hd:Deep 10 u) (h:x ∈ segS g u):∃p ∈ allT 10 u,x ∈ p.ws:=by
 unfold segS at h
 split at h
 ·obtain ⟨p,hp,hx⟩:=List.mem_flatMap.1 h
  exact ⟨p,hp,dir_sub hx⟩
 exact ⟨u,self_mem hd,dir_sub h⟩
structure Tree (t:Tv):Prop where
 d:Deep 10 t
 a:Asc 10 t
theorem Tree.of {t u:Tv} (h:Tree t) (hu:u ∈ allT 10 t):Tree u:=⟨(asc_sub h.d h.a hu (Nat.le_refl _)).2,(asc_sub h.d h.a hu (Nat.le_refl _)).1⟩
theorem Tree.mem {t u v:Tv} (h:Tree t) (hu:u ∈ allT 10 t) (hv:v ∈ allT 10 u):v ∈ allT 10 t:=all_trans h.d hu hv (Nat.le_refl _)
theorem seg_sub {t:Tv} (h:Tree t) {g:Sg} {u x:Tv} (hu:u ∈ allT 10 t) (hx:x ∈ segS g u):x ∈ allT 10 t∧fr u<fr x:=by
 obtain ⟨p,hp,hxp⟩:=seg_par (h.of hu).d hx
 have hp2:=h.mem hu hp
 refine ⟨mem_kid h.d hp2 hxp,?_⟩
 have a1:=lt_kid h.d h.a hp2 hxp
 have a2:=self_le (h.of hu).a hp
 omega
theorem inT_iff {t:Tv} (h:Tree t) {u v:Tv} (hu:u ∈ allT 10 t) (hv:v ∈ allT 10 t):inT u v=true↔v ∈ allT 10 u:=by
 unfold inT
 rw [List.any_eq_true]
 constructor
 ·rintro ⟨x,hx,e⟩
  have:x=v:=asc_inj h.a (h.mem hu hx) hv (by simpa using e)
  rw [← this]; exact hx
 intro hx; exact ⟨v,hx,by simp⟩
theorem count_one {t:Tv} (h:Tree t) {u:Tv} (v:Tv) (hu:u ∈ allT 10 t):(allT 10 u).countP (fun x=>fr x == fr v)=if inT u v=true then 1 else 0:=by
 have key:∀(l:List Tv),l.Pairwise (fun a b=>fr a<fr b)→l.countP (fun x=>fr x == fr v)=if l.any (fun x=>fr x == fr v)=true then 1 else 0:=by
  intro l
  induction l with
  | nil=>intro _; rfl
  | cons a l ih =>
   intro hp
   obtain ⟨h1,h2⟩:=List.pairwise_cons.1 hp
   rw [List.countP_cons,ih h2,List.any_cons]
   by_cases e:fr a=fr v
   ·have:l.any (fun x=>fr x == fr v)=false:=by
     rw [List.any_eq_false]
     intro x hx
     have:=h1 x hx
     simp; omega
    simp [e,this]
   simp [e]
 exact key _ (h.of hu).a
theorem occ_seg {t:Tv} (h:Tree t) {u v:Tv} (hu:u ∈ allT 10 t) (hv:v ∈ allT 10 t) {j:Nat} (hj:j<v.ws.length) (g:Sg):occ v.ws[j] (segS g u)=if (if g.deep=true then inT u v else fr u == fr v)=true then cntS g.l v.d.kind v.ws.length j v.ws[j] else 0:=by
 unfold segS
 by_cases hg:g.deep=true
 ·rw [if_pos hg,if_pos hg]
  have e:occ v.ws[j] ((allT 10 u).flatMap (dirS g.l))=((allT 10 u).map (fun x=>occ v.ws[j] (dirS g.l x))).sum:=countP_flatMap _ _ _
  rw [e,sum_if (fun x=>fr x == fr v) (cntS g.l v.d.kind v.ws.length j v.ws[j]) _ (allT 10 u) (fun x hx=>occ_dir h.d h.a (h.mem hu hx) hv hj g.l),count_one h v hu]
  split<;>simp
 rw [if_neg hg,if_neg hg]
 exact occ_dir h.d h.a hu hv hj g.l
theorem occ_flat {t:Tv} (h:Tree t) {N:List Tv} (hN:∀u ∈ N,u ∈ allT 10 t) {v:Tv} (hv:v ∈ allT 10 t) {j:Nat} (hj:j<v.ws.length) (g:Sg):occ v.ws[j] (N.flatMap (segS g))=(if g.deep=true then occA v N else occ v N) * cntS g.l v.d.kind v.ws.length j v.ws[j]:=by
 have e:occ v.ws[j] (N.flatMap (segS g))=(N.map (fun x=>occ v.ws[j] (segS g x))).sum:=countP_flatMap _ _ _
 rw [e,sum_if (fun u=>if g.deep=true then inT u v else fr u == fr v) (cntS g.l v.d.kind v.ws.length j v.ws[j]) _ N (fun u hu=>occ_seg h (hN u hu) hv hj g)]
 congr 1
 unfold occA occ
 split<;>rfl
theorem occA_kid {t:Tv} (h:Tree t) {N:List Tv} (hN:∀u ∈ N,u ∈ allT 10 t) {v:Tv} (hv:v ∈ allT 10 t) {j:Nat} (hj:j<v.ws.length):occA v.ws[j] N=occA v N+occ v.ws[j] N:=by
 have hc:v.ws[j] ∈ v.ws:=List.getElem_mem hj
 have hct:=mem_kid h.d hv hc
 have key:∀u ∈ N,inT u v.ws[j]=(inT u v || fr u == fr v.ws[j])∧¬(inT u v=true∧(fr u == fr v.ws[j])=true):=by
  intro u hu
  have hut:=hN u hu
  have excl:¬(inT u v=true∧(fr u == fr v.ws[j])=true):=by
   rintro ⟨h1,h2⟩
   have a1:=self_le (h.of hut).a ((inT_iff h hut hv).1 h1)
   have a2:=lt_kid h.d h.a hv hc
   have:fr u=fr v.ws[j]:=by simpa using h2
   omega
  refine ⟨?_,excl⟩
  rw [Bool.eq_iff_iff,Bool.or_eq_true,inT_iff h hut hct,inT_iff h hut hv]
  constructor
  ·intro hx
   rcases all_par hx with e | ⟨p,hp,hxp⟩
   ·right; rw [← e]; simp
   left
   have hpt:=h.mem hut hp
   have:fr p=fr v:=par_uniq h.d h.a hpt hv hxp hc rfl
   rw [← asc_inj h.a hpt hv this]; exact hp
  rintro (hx | hx)
  ·exact mem_kid (h.of hut).d hx hc
  have:u=v.ws[j]:=asc_inj h.a hut hct (by simpa using hx)
  rw [← this]; exact self_mem (h.of hut).d
 unfold occA occ
 clear hN
 induction N with
 | nil=>rfl
 | cons u N ih =>
  have ih:=ih (fun x hx=>key x (List.mem_cons_of_mem _ hx))
  obtain ⟨k1,k2⟩:=key u (List.mem_cons_self)
  rw [List.countP_cons,List.countP_cons,List.countP_cons,ih,k1]
  cases h1:inT u v<;>cases h2:(fr u == fr v.ws[j])
  ·simp
  ·simp; omega
  ·simp; omega
  exact absurd ⟨h1,h2⟩ k2
theorem nodes_app:∀(a b:List Sg) (l:List Tv),nodesS (a++b) l=nodesS b (nodesS a l)
 | [],_,_=>rfl
 | _::a,b,_=>nodes_app a b _
theorem nodes_take {xs:List Sg} {i:Nat} (hi:i<xs.length) (l:List Tv):nodesS (xs.take (i+1)) l=(nodesS (xs.take i) l).flatMap (segS xs[i]):=by
 rw [List.take_succ_eq_append_getElem hi,nodes_app]; rfl
theorem nodes_sub {t:Tv} (h:Tree t) (xs:List Sg):∀(N:List Tv),(∀u ∈ N,u ∈ allT 10 t)→∀x ∈ nodesS xs N,x ∈ allT 10 t:=by
 induction xs with
 | nil=>intro N hN x hx; exact hN x hx
 | cons g r ih =>
  intro N hN x hx
  refine ih _ (fun u hu=>?_) x hx
  obtain ⟨y,hy,hu2⟩:=List.mem_flatMap.1 hu
  exact (seg_sub h (hN y hy) hu2).1
structure TlOk (xs:List Sg) (t v:Tv) (tl:List Ct):Prop where
 len:tl.length=xs.length+1
 c:∀i,i≤xs.length→(ctAt tl i).its=occ v (nodesS (xs.take i) [t])∧(ctAt tl i).al=occA v (nodesS (xs.take i) [t])
theorem tlGo_len (pk L i:Nat) (c:Tv):∀(xs:List Sg) (ps:List Ct),ps.length=xs.length+1→(tlGo pk L i c xs ps).length=xs.length
 | [],_,_=>by simp [tlGo]
 | s::r,[],h=>by simp at h
 | s::r,[_],h=>by simp at h
 | s::r,p0::p1::ps,h=>by
  rw [tlGo,List.length_cons,tlGo_len pk L i c r (p1::ps) (by simpa using h),List.length_cons]
theorem tlGo_at (pk L i:Nat) (c:Tv):∀(xs:List Sg) (ps:List Ct),ps.length=xs.length+1→∀k (hk:k<xs.length),ctAt (tlGo pk L i c xs ps) k=⟨(if xs[k].deep=true then (ctAt ps k).al else (ctAt ps k).its) * cntS xs[k].l pk L i c,(ctAt ps (k+1)).al+(if xs[k].deep=true then (ctAt ps k).al else (ctAt ps k).its) * cntS xs[k].l pk L i c⟩
 | [],_,_,k,hk=>absurd hk (Nat.not_lt_zero _)
 | s::r,[],h,_,_=>by simp at h
 | s::r,[_],h,_,_=>by simp at h
 | s::r,p0::p1::ps,h,0,hk=>by rw [tlGo]; rfl
 | s::r,p0::p1::ps,h,k+1,hk=>by
  rw [tlGo]
  exact tlGo_at pk L i c r (p1::ps) (by simpa using h) k (by simpa using hk)
theorem tl_kid {xs:List Sg} {t v:Tv} (h:Tree t) (hv:v ∈ allT 10 t) {tl:List Ct} (k:TlOk xs t v tl) {j:Nat} (hj:j<v.ws.length):TlOk xs t v.ws[j] (tlOf xs v.d.kind v.ws.length j v.ws[j] tl):=by
 have hN:∀i,∀u ∈ nodesS (xs.take i) [t],u ∈ allT 10 t:=fun i=>nodes_sub h _ [t] (fun u hu=>by rw [List.mem_singleton.1 hu]; exact self_mem h.d)
 have hc:v.ws[j] ∈ v.ws:=List.getElem_mem hj
 refine ⟨by rw [tlOf,List.length_cons,tlGo_len _ _ _ _ _ _ k.len],fun i hi=>?_⟩
 have e0:(tl.headD ⟨0,0⟩)=ctAt tl 0:=by cases tl<;>rfl
 cases i with
 | zero =>
  have k0:=(k.c 0 (Nat.zero_le _)).2
  have z:occ v.ws[j] [t]=0:=by
   have a1:=lt_kid h.d h.a hv hc
   have a2:=self_le h.a hv
   have:fr t≠fr v.ws[j]:=by omega
   simp [occ,this]
  have:=occA_kid h (N:=[t]) (fun u hu=>by rw [List.mem_singleton.1 hu]; exact self_mem h.d) hv hj
  rw [z] at this
  refine ⟨?_,?_⟩
  ·show 0=occ v.ws[j] [t]; rw [z]
  show (tl.headD ⟨0,0⟩).al=occA v.ws[j] [t]
  rw [e0,k0,this]; rfl
 | succ i =>
  have hi':i<xs.length:=by omega
  have kc:=k.c i (by omega)
  have kc1:=k.c (i+1) hi
  have e:ctAt (tlOf xs v.d.kind v.ws.length j v.ws[j] tl) (i+1)=ctAt (tlGo v.d.kind v.ws.length j v.ws[j] xs tl) i:=rfl
  rw [e,tlGo_at _ _ _ _ _ _ k.len i hi']
  have o:=occ_flat h (hN i) hv hj xs[i]
  rw [← nodes_take hi'] at o
  have oa:=occA_kid h (hN (i+1)) hv hj
  refine ⟨?_,?_⟩
  ·simp only [kc.1,kc.2,o]
  simp only [kc.1,kc.2,kc1.2,oa,o]
end Tr
namespace Tr
theorem sels_len (s:List UInt8):∀(n a:Nat) (l:List Sel),l.length<(pSels s (n+1) a l).v.length
 | 0,a,l=>by rw [pSels]; split<;>simp [pSels]
 | n+1,a,l=>by
  rw [pSels]
  split
  ·have:=sels_len s n ((pSel s a).p+1) (l++[(pSel s a).v])
   simp at this ⊢; omega
  simp
theorem seg_len (s:List UInt8) (a:Nat):0<(pSeg s a).v.l.length:=by
 have h:∀a,0<(pBr s a).v.length:=fun a=>by unfold pBr; have:=sels_len s s.length (a+1) []; simpa using this
 have k:∀a,0<(pWord s a).v.length:=fun a=>by unfold pWord; split<;>simp
 unfold pSeg
 split
 ·exact h a
 split
 ·split
  ·exact h (a+2)
  exact k (a+2)
 exact k (a+1)
theorem segs_len (s:List UInt8):∀(n a:Nat) (l:List Sg),(∀g ∈ l,0<g.l.length)→∀g ∈ pSegs s n a l,0<g.l.length
 | 0,_,_,h=>h
 | n+1,a,l,h=>by
  rw [pSegs]
  split
  ·refine segs_len s n _ _ (fun g hg=>?_)
   rcases List.mem_append.1 hg with x | x
   ·exact h g x
   rw [List.mem_singleton.1 x]; exact seg_len s a
  exact h
theorem query_len (s:List UInt8):∀g ∈ pQuery s,0<g.l.length:=segs_len s _ _ _ (by simp)
theorem len_sel:∀(xs:List Sg),(∀g ∈ xs,0<g.l.length)→xs.length≤selN xs
 | [],_=>Nat.zero_le _
 | g::xs,h=>by
  have:=len_sel xs (fun x hx=>h x (List.mem_cons_of_mem _ hx))
  have h1:=h g (List.mem_cons_self)
  simp [selN] at this ⊢; omega
def selP:List Sg→Nat
 | []=>1
 | g::r=>g.l.length * selP r
theorem selP_pow:∀(xs:List Sg),selP xs≤2 ^ selN xs
 | []=>by simp [selP,selN]
 | g::r=>by
  have ih:=selP_pow r
  have h:g.l.length≤2 ^ g.l.length:=Nat.le_of_lt Nat.lt_two_pow_self
  simp only [selP,selN,List.map_cons,List.sum_cons,Nat.pow_add] at ih ⊢
  exact Nat.mul_le_mul h ih
theorem selP_app:∀(a b:List Sg),selP (a++b)=selP a * selP b
 | [],b=>by simp [selP]
 | g::a,b=>by simp [selP,selP_app a b,Nat.mul_assoc]
theorem selN_take (xs:List Sg) (i:Nat):selN (xs.take i)≤selN xs:=by
 have:selN xs=selN (xs.take i)+selN (xs.drop i):=by
  have e:selN (xs.take i++xs.drop i)=selN (xs.take i)+selN (xs.drop i):=by simp only [selN,List.map_append,List.sum_append]
  rw [List.take_append_drop] at e; exact e
 omega
structure CtB (xs:List Sg) (d:Nat) (tl:List Ct):Prop where
 len:tl.length=xs.length+1
 c:∀i,i≤xs.length→(ctAt tl i).its≤2 ^ d * selP (xs.take i)∧(ctAt tl i).al≤2 ^ d * selP (xs.take i)
theorem cnt_le':∀(xs:List Sel) (pk L i:Nat) (c:Tv),cntS xs pk L i c≤xs.length
 | [],_,_,_,_=>Nat.le_refl _
 | x::xs,pk,L,i,c=>by
  have:=cnt_le' xs pk L i c
  unfold cntS at *
  simp only [List.map_cons,List.sum_cons,List.length_cons]
  split<;>omega
theorem ctb_out (xs:List Sg) (h:∀g ∈ xs,0<g.l.length):CtB xs 0 (tlOut xs.length):=by
 refine ⟨by simp [tlOut],fun i hi=>?_⟩
 have pos:∀ys:List Sg,(∀g ∈ ys,0<g.l.length)→0<selP ys:=by
  intro ys
  induction ys with
  | nil=>intro _; simp [selP]
  | cons g r ih=>intro hy; exact Nat.mul_pos (hy g (List.mem_cons_self)) (ih (fun x hx=>hy x (List.mem_cons_of_mem _ hx)))
 have p:=pos (xs.take i) (fun g hg=>h g (List.mem_of_mem_take hg))
 cases i with
 | zero=>simp [ctAt,tlOut,selP]
 | succ i =>
  have:ctAt (tlOut xs.length) (i+1)=⟨0,0⟩:=by
   unfold ctAt tlOut
   simp only [List.getD_cons_succ]
   rw [List.getD_eq_getElem?_getD,List.getElem?_replicate]
   split<;>rfl
  rw [this]; simp
theorem ctb_kid {xs:List Sg} {d:Nat} {tl:List Ct} (h:CtB xs d tl) (pk L i:Nat) (c:Tv):CtB xs (d+1) (tlOf xs pk L i c tl):=by
 refine ⟨by rw [tlOf,List.length_cons,tlGo_len _ _ _ _ _ _ h.len],fun k hk=>?_⟩
 cases k with
 | zero =>
  have e0:(tl.headD ⟨0,0⟩)=ctAt tl 0:=by cases tl<;>rfl
  have h0:=(h.c 0 (Nat.zero_le _)).2
  show 0≤_∧(tl.headD ⟨0,0⟩).al≤_
  rw [e0,Nat.pow_succ]
  simp [selP] at h0 ⊢
  omega
 | succ k =>
  have hk':k<xs.length:=by omega
  have a:=h.c k (by omega)
  have b:=(h.c (k+1) hk).2
  have e:ctAt (tlOf xs pk L i c tl) (k+1)=ctAt (tlGo pk L i c xs tl) k:=rfl
  rw [e,tlGo_at _ _ _ _ _ _ h.len k hk']
  have ep:selP (xs.take (k+1))=selP (xs.take k) * (xs[k].l.length):=by
   rw [List.take_succ_eq_append_getElem hk',selP_app]; simp [selP]
  have t:(if xs[k].deep=true then (ctAt tl k).al else (ctAt tl k).its) * cntS xs[k].l pk L i c≤2 ^ d * selP (xs.take k) * xs[k].l.length:=by
   refine Nat.mul_le_mul ?_ (cnt_le' _ _ _ _ _)
   split
   ·exact a.2
   exact a.1
  rw [ep] at b ⊢
  rw [Nat.mul_assoc] at t
  rw [Nat.pow_succ]
  simp only
  have e2:2 ^ d * 2 * (selP (xs.take k) * xs[k].l.length)=2 ^ d * (selP (xs.take k) * xs[k].l.length)+2 ^ d * (selP (xs.take k) * xs[k].l.length):=by
   rw [Nat.mul_right_comm,Nat.mul_two]
  rw [e2]
  omega
theorem CtB.lt {xs:List Sg} {d:Nat} {tl:List Ct} (h:CtB xs d tl) (hd:d≤9) (hs:selN xs≤10) (i:Nat):(ctAt tl i).its≤524288∧(ctAt tl i).al≤524288:=by
 by_cases hi:i≤xs.length
 ·have a:=h.c i hi
  have p:=selP_pow (xs.take i)
  have n:=selN_take xs i
  have p1:selP (xs.take i)≤2 ^ 10:=Nat.le_trans p (Nat.pow_le_pow_right (by omega) (by omega))
  have p2:2 ^ d≤2 ^ 9:=Nat.pow_le_pow_right (by omega) hd
  have p3:2 ^ d * selP (xs.take i)≤2 ^ 9 * 2 ^ 10:=Nat.mul_le_mul p2 p1
  have e:(2:Nat) ^ 9 * 2 ^ 10=524288:=by decide
  omega
 have:ctAt tl i=⟨0,0⟩:=by
  unfold ctAt
  rw [List.getD_eq_getElem?_getD,List.getElem?_eq_none (by rw [h.len]; omega)]; rfl
 rw [this]; simp
end Tr
namespace Tr
theorem nodes_up {t:Tv} (h:Tree t):∀(xs:List Sg),xs≠[]→∀(N:List Tv),(∀u ∈ N,u ∈ allT 10 t)→∀x ∈ nodesS xs N,fr t<fr x
 | [],hx,_,_,_,_=>absurd rfl hx
 | [g],_,N,hN,x,hx=>by
  have hx:x ∈ N.flatMap (segS g):=hx
  obtain ⟨u,hu,hxu⟩:=List.mem_flatMap.1 hx
  have a:=(seg_sub h (hN u hu) hxu).2
  have b:=self_le h.a (hN u hu)
  omega
 | g::g2::r,_,N,hN,x,hx=>by
  refine nodes_up h (g2::r) (by simp) (N.flatMap (segS g)) (fun u hu=>?_) x hx
  obtain ⟨y,hy,hu2⟩:=List.mem_flatMap.1 hu
  exact (seg_sub h (hN y hy) hu2).1
theorem tl_root {t:Tv} (h:Tree t) (xs:List Sg):TlOk xs t t (tlOut xs.length):=by
 refine ⟨by simp [tlOut],fun i hi=>?_⟩
 cases i with
 | zero =>
  have:inT t t=true:=(inT_iff h (self_mem h.d) (self_mem h.d)).2 (self_mem h.d)
  simp [ctAt,tlOut,nodesS,occ,occA,this]
 | succ i =>
  have e:ctAt (tlOut xs.length) (i+1)=⟨0,0⟩:=by
   unfold ctAt tlOut
   simp only [List.getD_cons_succ]
   rw [List.getD_eq_getElem?_getD,List.getElem?_replicate]
   split<;>rfl
  have hne:xs.take (i+1)≠[]:=by cases xs with
   | nil=>simp at hi
   | cons a b=>simp
  have up:∀x ∈ nodesS (xs.take (i+1)) [t],fr t<fr x:=nodes_up h _ hne [t] (fun u hu=>by rw [List.mem_singleton.1 hu]; exact self_mem h.d)
  have sub:∀x ∈ nodesS (xs.take (i+1)) [t],x ∈ allT 10 t:=nodes_sub h _ [t] (fun u hu=>by rw [List.mem_singleton.1 hu]; exact self_mem h.d)
  rw [e]
  refine ⟨?_,?_⟩
  ·symm
   show occ t _=0
   unfold occ
   rw [List.countP_eq_zero]
   intro u hu
   have:=up u hu
   simp; omega
  symm
  show occA t _=0
  unfold occA
  rw [List.countP_eq_zero]
  intro u hu hin
  have a:=up u hu
  have b:=self_le (h.of (sub u hu)).a ((inT_iff h (sub u hu) (self_mem h.d)).1 hin)
  omega
theorem tl_all {t:Tv} (h:Tree t) (xs:List Sg) (hx:∀g ∈ xs,0<g.l.length):∀(n:Nat) (v:Tv),Deep n v→v ∈ allT 10 t→∀tl d,TlOk xs t v tl→CtB xs d tl→d+n≤10→∀u ∈ allT n v,∃tl' d',TlOk xs t u tl'∧CtB xs d' tl'∧d'≤9
 | 0,_,hd,_,_,_,_,_,_,_,_=>hd.elim
 | n+1,v,hd,hv,tl,d,k1,k2,hdn,u,hu=>by
  have hu:u ∈ v::v.ws.flatMap (allT n):=hu
  rcases List.mem_cons.1 hu with e | e
  ·subst e; exact ⟨tl,d,k1,k2,by omega⟩
  obtain ⟨c,hc,huc⟩:=List.mem_flatMap.1 e
  obtain ⟨j,hj,rfl⟩:=List.mem_iff_getElem.1 hc
  exact tl_all h xs hx n _ (hd _ hc) (mem_kid h.d hv hc) _ (d+1) (tl_kid h hv k1 hj) (ctb_kid k2 _ _ _ _) (by omega) u huc
theorem occ_bound {t:Tv} (h:Tree t) (xs:List Sg) (hx:∀g ∈ xs,0<g.l.length) (hs:selN xs≤10) {u:Tv} (hu:u ∈ allT 10 t) {i:Nat} (hi:i≤xs.length):occ u (nodesS (xs.take i) [t])≤524288:=by
 obtain ⟨tl,d,k1,k2,k3⟩:=tl_all h xs hx 10 t h.d (self_mem h.d) _ 0 (tl_root h xs) (ctb_out xs hx) (by omega) u hu
 rw [← (k1.c i hi).1]
 exact (k2.lt k3 hs i).1
theorem len_occ:∀(L:List Tv),L.Pairwise (fun a b=>fr a<fr b)→∀(N:List Tv),(∀x ∈ N,∃y ∈ L,fr y=fr x)→N.length=(L.map (fun v=>occ v N)).sum
 | [],_,N,h=>by
  cases N with
  | nil=>rfl
  | cons x N=>obtain ⟨y,hy,_⟩:=h x (List.mem_cons_self); cases hy
 | a::L,hp,N,h=>by
  obtain ⟨h1,h2⟩:=List.pairwise_cons.1 hp
  have e:=List.length_eq_countP_add_countP (l:=N) (fun u=>fr u == fr a)
  have ih:=len_occ L h2 (N.filter (fun u=>!(fr u == fr a))) (fun x hx=>by
   obtain ⟨hx1,hx2⟩:=List.mem_filter.1 hx
   obtain ⟨y,hy,ey⟩:=h x hx1
   rcases List.mem_cons.1 hy with z | z
   ·subst z; simp [ey] at hx2
   exact ⟨y,z,ey⟩)
  have e2:(N.filter (fun u=>!(fr u == fr a))).length=N.countP (fun u=>!(fr u == fr a)):=List.countP_eq_length_filter.symm
  have e3:L.map (fun v=>occ v (N.filter (fun u=>!(fr u == fr a))))=L.map (fun v=>occ v N):=by
   apply List.map_congr_left
   intro v hv
   have hlt:=h1 v hv
   unfold occ
   rw [List.countP_filter]
   apply List.countP_congr
   intro x _
   simp
   intro hx
   omega
  rw [List.map_cons,List.sum_cons,← e3,← ih,e2]
  have e4:N.countP (fun u=>!(fr u == fr a))=N.countP (fun a_1=>decide ¬(fr a_1 == fr a)=true):=by
   apply List.countP_congr
   intro x _
   simp
  unfold occ
  rw [e4]
  exact e
theorem sum_le {α:Type} (f:α→Nat) (k:Nat):∀(l:List α),(∀a ∈ l,f a≤k)→(l.map f).sum≤l.length * k
 | [],_=>by simp
 | a::l,h=>by
  have:=sum_le f k l (fun x hx=>h x (List.mem_cons_of_mem _ hx))
  have h1:=h a (List.mem_cons_self)
  simp only [List.map_cons,List.sum_cons,List.length_cons,Nat.add_mul,Nat.one_mul]
  omega
theorem asc_len:∀(l:List Nat) (a B:Nat),l.Pairwise (·<·)→(∀x ∈ l,a≤x∧x<B)→l.length≤B - a
 | [],_,_,_,_=>Nat.zero_le _
 | x::l,a,B,hp,h=>by
  obtain ⟨h1,h2⟩:=List.pairwise_cons.1 hp
  have hx:=h x (List.mem_cons_self)
  have:=asc_len l (x+1) B h2 (fun y hy=>⟨h1 y hy,(h y (List.mem_cons_of_mem _ hy)).2⟩)
  simp; omega
theorem nodes_len {t:Tv} (h:Tree t) {B:Nat} (hB:∀v ∈ allT 10 t,fr v<B) (xs:List Sg) (hx:∀g ∈ xs,0<g.l.length) (hs:selN xs≤10) {i:Nat} (hi:i≤xs.length):(nodesS (xs.take i) [t]).length≤B * 524288:=by
 have sub:∀x ∈ nodesS (xs.take i) [t],x ∈ allT 10 t:=nodes_sub h _ [t] (fun u hu=>by rw [List.mem_singleton.1 hu]; exact self_mem h.d)
 rw [len_occ (allT 10 t) h.a _ (fun x hx=>⟨x,sub x hx,rfl⟩)]
 have a:=sum_le (fun v=>occ v (nodesS (xs.take i) [t])) 524288 (allT 10 t) (fun v hv=>occ_bound h xs hx hs hv hi)
 have b:(allT 10 t).length≤B:=by
  have:=asc_len ((allT 10 t).map fr) 0 B (List.pairwise_map.2 h.a) (fun x hx=>by
   obtain ⟨v,hv,rfl⟩:=List.mem_map.1 hx
   exact ⟨Nat.zero_le _,hB v hv⟩)
  simpa using this
 exact Nat.le_trans a (Nat.mul_le_mul_right _ b)
end Tr
namespace Tr
def subF (t:Tv):List Nat:=(allT 10 t).map fr
def stF:List Fm→List Nat
 | []=>[]
 | f::r=>stF r++(f.d.frm::f.ws.flatMap subF)
def DeepS:List Fm→Prop
 | []=>True
 | f::r=>(∀c ∈ f.ws,Deep (9 - r.length) c)∧DeepS r
structure GF (g:Gs):Prop where
 len:g.st.length≤8
 p:(stF g.st).Pairwise (·<·)
 b:∀x ∈ stF g.st,x<g.bd
 d:DeepS g.st
 l:g.st=[]→∀t,g.last=some t→Deep 10 t∧(subF t).Pairwise (·<·)∧∀x ∈ subF t,x<g.bd
theorem subF_close {d:Dat} {ws:List Tv} {n:Nat} (hn:n≤9) (h:∀c ∈ ws,Deep n c):subF ⟨d,ws⟩=d.frm::ws.flatMap subF:=by
 unfold subF
 show fr ⟨d,ws⟩::(ws.flatMap (allT 9)).map fr=_
 rw [List.map_flatMap]
 congr 1
 exact fm_congr (fun c hc=>by rw [allT_deep (m:=9) (h c hc) hn,← allT_deep (m:=10) (h c hc) (by omega)])
theorem gf_close {g:Gs} {f:Fm} {r:List Fm} {to:Nat} (hl:r.length≤8) (hk:f.kp=true) (hp:(stF (f::r)).Pairwise (·<·)) (hb:∀x ∈ stF (f::r),x<g.bd) (hd:DeepS (f::r)):GF (gClose g f r to):=by
 have e:=subF_close (d:={ f.d with to:=to }) (ws:=f.ws) (n:=9 - r.length) (by omega) hd.1
 have hD:Deep (9 - r.length+1) (f.tv to):=hd.1
 have est:stF (gOn r f.kp (f.tv to))=if r=[] then [] else stF (f::r):=by
  cases r with
  | nil=>rfl
  | cons p q =>
   rw [if_neg (by simp)]
   show stF (gKeep p f.kp (f.tv to)::q)=_
   unfold gKeep
   rw [if_pos hk]
   simp only [stF,List.flatMap_append,List.flatMap_cons,List.flatMap_nil,List.append_nil]
   have:subF (f.tv to)=f.d.frm::f.ws.flatMap subF:=e
   rw [this]
   simp
 refine ⟨by simp [gClose,gOn_len]; exact hl,?_,?_,?_,?_⟩
 ·show (stF (gOn r f.kp (f.tv to))).Pairwise _
  rw [est]; split
  ·exact List.Pairwise.nil
  exact hp
 ·show ∀x ∈ stF (gOn r f.kp (f.tv to)),x<g.bd
  rw [est]; split
  ·intro x hx; cases hx
  exact hb
 ·show DeepS (gOn r f.kp (f.tv to))
  cases r with
  | nil=>trivial
  | cons p q =>
   obtain ⟨_,h2,h3⟩:=hd
   refine ⟨?_,h3⟩
   unfold gKeep
   rw [if_pos hk]
   intro c hc
   rcases List.mem_append.1 hc with x | x
   ·exact h2 c x
   rw [List.mem_singleton.1 x]
   exact hD.up (by simp at hl ⊢; omega)
 intro h0 t ht
 have hr:r=[]:=by
  cases r with
  | nil=>rfl
  | cons p q=>simp [gClose,gOn] at h0
 subst hr
 have et:f.tv to=t:=Option.some.inj ht
 rw [← et]
 have es:subF (f.tv to)=f.d.frm::f.ws.flatMap subF:=e
 have e2:stF [f]=f.d.frm::f.ws.flatMap subF:=by simp [stF]
 rw [e2] at hp hb
 exact ⟨hD.up (by simp),by rw [es]; exact hp,by rw [es]; exact hb⟩
theorem gf_begin {g:Gs} (h:GF g) {frm:Nat} (hf:g.bd≤frm) {f:Fm} (hd:f.d.frm=frm) (hw:f.ws=[]):(stF (f::g.st)).Pairwise (·<·)∧(∀x ∈ stF (f::g.st),x<frm+1)∧DeepS (f::g.st):=by
 have e:stF (f::g.st)=stF g.st++[frm]:=by simp [stF,hd,hw]
 rw [e]
 refine ⟨?_,?_,?_⟩
 ·rw [List.pairwise_append]
  refine ⟨h.p,by simp,fun a ha b hb=>?_⟩
  rw [List.mem_singleton.1 hb]
  have:=h.b a ha; omega
 ·intro x hx
  rcases List.mem_append.1 hx with y | y
  ·have:=h.b x y; omega
  rw [List.mem_singleton.1 y]; omega
 refine ⟨?_,h.d⟩
 rw [hw]; intro c hc; cases hc
theorem gf_take {g:Gs} {t:Tok} (h:GF g) (hi:ixOk g.st g.ix) (ht:TokOk g.sh t):GF (gTake g t true):=by
 have hl:g.sh.op.length=g.st.length:=by simp [Gs.sh]
 have h8:=h.len
 unfold gTake
 by_cases h0:t.k=0
 ·rw [if_pos h0]
  have k0:=ht.k0 h0
  obtain ⟨a,b,c⟩:=gf_begin h (frm:=t.frm) k0.2.2.2.2 (f:=gBegin g t true) rfl rfl
  exact ⟨by simp; omega,a,b,c,fun x=>by simp at x⟩
 rw [if_neg h0]
 by_cases h1:t.k=1
 ·rw [if_pos h1]
  cases hs:g.st with
  | nil=>simp only; exact ⟨by simp [hs],by rw [hs]; exact List.Pairwise.nil,(by rw [hs]; intro x hx; cases hx),(by rw [hs]; trivial),fun _=>h.l hs⟩
  | cons f r =>
   have hp:=h.p
   have hb:=h.b
   have hd:=h.d
   rw [hs] at hp hb hd hi h8
   exact gf_close (by simp at h8; omega) hi.2.1 hp hb hd
 rw [if_neg h1]
 by_cases h2:t.k=2
 ·rw [if_pos h2]; exact ⟨h.len,h.p,h.b,h.d,h.l⟩
 rw [if_neg h2]
 have k3:=ht.k3 (by have:=ht.k; omega)
 obtain ⟨a,b,c⟩:=gf_begin h (frm:=t.frm) k3.2.2.2.2 (f:=gBegin g t true) rfl rfl
 exact gf_close (g:={ g with nm:=[],bd:=t.frm+1 }) h8 rfl a b c
theorem gf_run:∀{ts:List Tok} {g:Gs},GF g→ixOk g.st g.ix→OkL g.sh ts→GF (gRun g ts)
 | [],_,h,_,_=>h
 | t::r,g,h,hi,ho=>by
  rw [gRun_cons]
  exact gf_run (gf_take h hi ho.1) (ix_take hi) (by rw [sh_take g t true ho.1]; exact ho.2)
theorem gInit_gf:GF gInit:=⟨by simp [gInit],List.Pairwise.nil,fun x hx=>(by cases hx),trivial,fun _ t ht=>(by cases ht)⟩
theorem gRun_bd:∀{ts:List Tok} {g:Gs} {B:Nat},g.bd≤B→OkL g.sh ts→(∀t ∈ ts,t.frm<B)→(gRun g ts).bd≤B
 | [],_,_,h,_,_=>h
 | t::r,g,B,h,ho,hB=>by
  rw [gRun_cons]
  refine gRun_bd ?_ (by rw [sh_take g t true ho.1]; exact ho.2) (fun x hx=>hB x (List.mem_cons_of_mem _ hx))
  have e:(gTake g t true).bd=(shTake g.sh t).bd:=congrArg Sh.bd (sh_take g t true ho.1)
  have hf:=hB t (List.mem_cons_self)
  have hg:g.sh.bd=g.bd:=rfl
  rw [e]
  unfold shTake
  split
  ·show t.frm+1≤B; omega
  split
  ·show g.bd≤B; exact h
  split
  ·exact h
  show t.frm+1≤B; omega
theorem tx_tree {l:List UInt8} (hl:l.length≤4000000) (h:txErr l=0) {t:Tv} (ht:txVal l=some t):Tree t∧∀v ∈ allT 10 t,fr v<4000000:=by
 obtain ⟨h1,h2,_⟩:=tx_ok hl h
 have G:=gf_run gInit_gf (show ixOk gInit.st gInit.ix from trivial) (ts:=txTs l) h1
 obtain ⟨a,b,c⟩:=G.l h2 t ht
 have bd:(gRun gInit (txTs l)).bd≤4000000:=by
  refine gRun_bd (by simp [gInit]) h1 ?_
  have:∀(ts:List Tok) (s:Sh),OkL s ts→∀t ∈ ts,t.frm<4000000:=by
   intro ts
   induction ts with
   | nil=>intro _ _ t ht; cases ht
   | cons x r ih =>
    intro s ho t ht
    rcases List.mem_cons.1 ht with e | e
    ·rw [e]; exact ho.1.frm
    exact ih _ ho.2 t e
  exact this _ _ h1
 refine ⟨⟨a,List.pairwise_map.1 b⟩,fun v hv=>?_⟩
 have:=c (fr v) (List.mem_map.2 ⟨v,hv,rfl⟩)
 omega
end Tr
