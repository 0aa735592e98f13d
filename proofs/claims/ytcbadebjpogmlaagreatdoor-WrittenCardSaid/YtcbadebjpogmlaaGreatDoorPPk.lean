import Derived.Test.YtcbadebjpogmlaaGreatDoorPPi
import Derived.Test.YtcbadebjpogmlaaGreatDoorPPh
namespace Tr
structure OpenAt (p:List UInt8) (i a:Nat):Prop where
 lt:a<p.length
 nb:NB (p.drop a)
 e:(sRun sInit (p.drop a)).e=0
 s:Sim i (Zs p) (Zs (p.drop a))
structure Own (p:List UInt8) (u:Tv):Prop where
 lt:u.d.frm<u.d.to
 le:u.d.to≤p.length
 o:OwnT ((p.take u.d.to).drop u.d.frm)
theorem Own.app {p:List UInt8} {u:Tv} (h:Own p u) (r:List UInt8):Own (p++r) u :=
 ⟨h.lt,by rw [List.length_append]; have:=h.le; omega,by rw [List.take_append_of_le_length h.le]; exact h.o⟩
def FrO (p:List UInt8):List Fm→Prop
 | []=>True
 | f::r=>OpenAt p r.length f.d.frm∧FrO p r
def AllO (p:List UInt8) (v:Tv):Prop:=∀u ∈ allT 10 v,Own p u
def ClO (p:List UInt8) (st:List Fm):Prop:=∀f ∈ st,∀w ∈ f.ws,AllO p w
structure J (p:List UInt8):Prop where
 fr:FrO p (Gt p).st
 mak:6≤(Zs p).st→(Zs p).tk.k=3→OpenAt p (Zs p).op.length (Zs p).tk.frm
 cl:ClO p (Gt p).st
 la:∀v,(Gt p).last=some v→AllO p v
theorem drop_snoc {p:List UInt8} {a:Nat} (b:UInt8) (h:a≤p.length):(p++[b]).drop a=p.drop a++[b]:=by
 rw [List.drop_append_of_le_length h]
theorem openAt_step {p:List UInt8} {b:UInt8} (S:Sc p b) (hl:p.length<4000000) {i a:Nat} (h:OpenAt p i a) (hs:Sim i (Zs p) (Zs (p.drop a))→Sim i (sNext (Zs p) b.toNat).z (sNext (Zs (p.drop a)) b.toNat).z):OpenAt (p++[b]) i a∧Sc (p.drop a) b:=by
 have ha:=h.lt
 have M:=hs h.s
 have n:=S.nst
 have e2:(sRun sInit (p.drop a++[b])).e=0:=(snoc_run h.e).2 ⟨by rw [M.st]; omega,by rw [M.st]; omega⟩
 have S2:Sc (p.drop a) b:=sc_of (by rw [List.length_drop]; omega) e2
 refine ⟨⟨by simp; omega,by rw [drop_snoc b (by omega)]; exact h.nb.app _,by rw [drop_snoc b (by omega)]; exact e2,?_⟩,S2⟩
 rw [drop_snoc b (by omega),S.z,S2.z]
 exact ⟨M.st,M.op,M.s,M.n,M.w⟩
theorem openAt_in {p:List UInt8} {b:UInt8} (S:Sc p b) (hl:p.length<4000000) {i a:Nat} (h:OpenAt p i a) (hi:i<(Zs p).op.length):OpenAt (p++[b]) i a∧Sc (p.drop a) b :=
 openAt_step S hl h (fun M=>sim_open M hi S.ok.op.1 S.st S.nst)
theorem frO_up {p:List UInt8} {b:UInt8} (S:Sc p b) (hl:p.length<4000000):∀{st:List Fm},st.length≤(Zs p).op.length→FrO p st→FrO (p++[b]) st
 | [],_,_=>trivial
 | _::r,hs,h=>⟨(openAt_in S hl h.1 (by simp at hs; omega)).1,frO_up S hl (by simp at hs; omega) h.2⟩
theorem frO_on {p:List UInt8} {r:List Fm} {kp:Bool} {v:Tv} (h:FrO p r):FrO p (gOn r kp v):=by
 cases r with
 | nil=>trivial
 | cons a q =>
  have e:(gKeep a kp v).d=a.d:=by unfold gKeep; split<;>rfl
  refine ⟨?_,h.2⟩
  rw [e]; exact h.1
theorem AllO.app {p:List UInt8} {v:Tv} (h:AllO p v) (r:List UInt8):AllO (p++r) v:=fun u hu=>(h u hu).app r
theorem ClO.app {p:List UInt8} {st:List Fm} (h:ClO p st) (r:List UInt8):ClO (p++r) st:=fun f hf w hw=>(h f hf w hw).app r
theorem clO_on {p:List UInt8} {r:List Fm} {kp:Bool} {v:Tv} (h:ClO p r) (hv:AllO p v):ClO p (gOn r kp v):=by
 cases r with
 | nil=>intro f hf; cases hf
 | cons a q =>
  intro f hf w hw
  have hf:f ∈ gKeep a kp v::q:=hf
  rcases List.mem_cons.1 hf with y | y
  ·subst y
   unfold gKeep at hw
   split at hw
   ·have hw:w ∈ a.ws++[v]:=hw
    rcases List.mem_append.1 hw with u | u
    ·exact h a (List.mem_cons_self) w u
    rw [List.mem_singleton.1 u]; exact hv
   exact h a (List.mem_cons_self) w hw
  exact h f (List.mem_cons_of_mem _ y) w hw
theorem allO_tv {p:List UInt8} {v:Tv} (h:Own p v) (hw:∀w ∈ v.ws,AllO p w):AllO p v:=fun u hu=>by
 have hu:u ∈ v::v.ws.flatMap (allT 9):=hu
 rcases List.mem_cons.1 hu with e | e
 ·rw [e]; exact h
 obtain ⟨w,hw1,hu2⟩:=List.mem_flatMap.1 e
 exact hw w hw1 u (all_less 9 w u hu2)
theorem own_here {p:List UInt8} {b:UInt8} {v:Tv} (h1:v.d.frm<p.length) (h2:v.d.to=p.length+1) (h:OwnT (p.drop v.d.frm++[b])):Own (p++[b]) v:=by
 refine ⟨by omega,by simp; omega,?_⟩
 have e:(p++[b]).take v.d.to=p++[b]:=List.take_of_length_le (by simp; omega)
 rw [e,drop_snoc b (by omega)]
 exact h
theorem own_back {p:List UInt8} {b:UInt8} {v:Tv} (h1:v.d.frm<p.length) (h2:v.d.to=p.length) (h:OwnT (p.drop v.d.frm)):Own (p++[b]) v:=by
 refine ⟨by omega,by simp; omega,?_⟩
 have e:(p++[b]).take v.d.to=p:=by rw [h2]; simp
 rw [e]
 exact h
theorem own_end {p:List UInt8} {v:Tv} (h1:v.d.frm<p.length) (h2:v.d.to=p.length) (h:OwnT (p.drop v.d.frm)):Own p v:=by
 refine ⟨by omega,by omega,?_⟩
 have e:p.take v.d.to=p:=by rw [h2]; simp
 rw [e]
 exact h
theorem shut_own {p:List UInt8} {b:UInt8} (S:Sc p b) (hl:p.length<4000000) {f:Fm} {r:List Fm} (hf:OpenAt p r.length f.d.frm) (hlen:(Zs p).op.length=r.length+1) {u:Tok} (hto:u.to=(Zs p).at'+1) (ho:(sNext (Zs p) b.toNat).z.op=(Zs p).op.dropLast) (h5:(sNext (Zs p) b.toNat).z.st=5):Own (p++[b]) (f.tv u.to):=by
 obtain ⟨O,S2⟩:=openAt_in S hl hf (by omega)
 have lt:=hf.lt
 have hd:(p.drop f.d.frm).length<4000000:=by rw [List.length_drop]; omega
 refine own_here lt (by show u.to=_; rw [hto,S.at']) ?_
 show OwnT (p.drop f.d.frm++[b])
 have M:=hf.s
 have ol:(Zs (p.drop f.d.frm)).op.length=1:=by rw [M.op,List.length_drop]; omega
 have M2:=O.s
 rw [drop_snoc b (by omega),S.z,S2.z] at M2
 have o2:(sNext (Zs (p.drop f.d.frm)) b.toNat).z.op=[]:=by
  have:=M2.op
  simp only at this
  rw [this,ho]
  apply List.eq_nil_of_length_eq_zero
  simp; omega
 have s5:(sNext (Zs (p.drop f.d.frm)) b.toNat).z.st=5:=M2.st.trans h5
 have C:=next_cls S2.ok S2.st S2.nst
 have hne:(Zs (p.drop f.d.frm)).op≠[]:=fun y=>by rw [y] at ol; simp at ol
 have ms:=M.st
 rcases C with ⟨a1,a2,_⟩ | ⟨t,_,_,a,_⟩ | ⟨t,_,_,_,_,a,_⟩ | ⟨t,_,_,_,a,_⟩ | ⟨t,a1,a2,a3,a4,a5,a6,a7⟩ | ⟨_,_,a,_⟩ | ⟨u',a1,a2,a3,a4,a5,a6,a7⟩
 ·rw [o2] at a2; exact absurd a2.symm hne
 ·rw [o2] at a; exact absurd a.symm hne
 ·rw [o2] at a; exact absurd a.symm hne
 ·rw [o2] at a; simp at a
 ·exact own_shut hd hf.nb S2.e2 ol a2 a3 (Or.inl a1) a4 a5
 ·rw [o2] at a; exact absurd a.symm hne
 exact own_shut hd hf.nb S2.e2 ol a3 a4 (Or.inr ⟨sNumT (Zs (p.drop f.d.frm)),(S2.ok.n (Or.inr a2)).2.2.2.2,a1⟩) a5 a6
theorem plain_own {p:List UInt8} {b:UInt8} (S:Sc p b) (hl:p.length<4000000) (h:OpenAt p (Zs p).op.length (Zs p).tk.frm) (h6:6≤(Zs p).st) (h9:(Zs p).st≠9) (h5:(sNext (Zs p) b.toNat).z.st=5) {v:Tv} (hv1:v.d.frm=(Zs p).tk.frm) (hv2:v.d.to=(Zs p).at'+1):Own (p++[b]) v:=by
 obtain ⟨O,S2⟩:=openAt_step S hl h (fun M=>sim_make S.ok M h6 S.st S.nst (fun y=>absurd y h9))
 have lt:=h.lt
 have hd:(p.drop (Zs p).tk.frm).length<4000000:=by rw [List.length_drop]; omega
 refine own_here (by rw [hv1]; exact lt) (by rw [hv2,S.at']) ?_
 rw [hv1]
 have M:=h.s
 have o1:(Zs (p.drop (Zs p).tk.frm)).op=[]:=by rw [M.op]; simp
 have M2:=O.s
 rw [drop_snoc b (by omega),S.z,S2.z] at M2
 have s5:(sNext (Zs (p.drop (Zs p).tk.frm)) b.toNat).z.st=5:=M2.st.trans h5
 have C:=next_cls S2.ok S2.st S2.nst
 have ms:=M.st
 rcases C with ⟨a1,a2,_,_,a5,a6⟩ | ⟨t,_,_,_,a,_⟩ | ⟨t,a1,a2,a3,a4,a5,a6,a7,a8⟩ | ⟨t,_,_,_,_,_,a,_⟩ | ⟨t,a1,a2,a3,a4,a5,a6,a7⟩ | ⟨_,a,_⟩ | ⟨u',_,a,_⟩
 ·exfalso
  have:=next5 S2.ok s5
  rcases this with y | ⟨t,ht,_⟩
  ·omega
  rw [a1] at ht; cases ht
 ·omega
 ·exact own_plain hd h.nb S2.e2 o1 a1 a2 a3 a4 a5 a6 a7
 ·omega
 ·exact absurd o1 a6
 ·omega
 omega
theorem num_own {p:List UInt8} (hl:p.length≤4000000) (h:OpenAt p (Zs p).op.length (Zs p).tk.frm) (h9:(Zs p).st=9):OwnT (p.drop (Zs p).tk.frm):=by
 have M:=h.s
 exact own_num (by rw [List.length_drop]; omega) h.nb h.e (by rw [M.op]; simp) (M.st.trans h9)
theorem begin_open {p:List UInt8} {b:UInt8} (S:Sc p b) (hb:isBl b.toNat=false) (hx:sNext (Zs p) b.toNat=sBegin (Zs p) b.toNat) (h93:b.toNat≠93):OpenAt (p++[b]) (Zs p).op.length (Zs p).at':=by
 have e:(p++[b]).drop (Zs p).at'=[b]:=by rw [S.at']; simp
 have ei:sNext (Zs []) b.toNat=sBegin (Zs []) b.toNat:=begin_at (Or.inl rfl) hb h93
 have n:=S.nst
 rw [hx] at n
 have M:=sim_begin (z:=Zs p) (z':=Zs []) (i:=(Zs p).op.length) (by simp [Zs,sRun,sInit]) (Nat.le_refl _) S.ok.op.1 n
 have e2:(sRun sInit ([]++[b])).e=0:=(snoc_run (p:=[]) rfl).2 (by rw [ei,M.st]; omega)
 have S2:Sc [] b:=sc_of (by simp) e2
 refine ⟨by rw [S.at']; simp,by rw [e]; exact ⟨b,[],rfl,hb⟩,by rw [e]; exact e2,?_⟩
 rw [e]
 show Sim _ _ (Zs ([]++[b]))
 rw [S.z,S2.z,hx,ei]
 exact ⟨M.st,M.op,M.s,M.n,M.w⟩
theorem j_step {p:List UInt8} {b:UInt8} (hl:p.length<4000000) (h:(sRun sInit (p++[b])).e=0) (I:J p):J (p++[b]):=by
 have S:=sc_of hl h
 have R:=rn_of (by simp; omega) S.e2
 have C:=next_cls S.ok S.st S.nst
 have eo:(Zs (p++[b])).op=(sNext (Zs p) b.toNat).z.op:=by rw [S.z]
 have es:(Zs (p++[b])).st=(sNext (Zs p) b.toNat).z.st:=by rw [S.z]
 have et:(Zs (p++[b])).tk=(sNext (Zs p) b.toNat).z.tk:=by rw [S.z]
 have L:=(st_ne S.lk).2
 have n93:sNext (Zs p) b.toNat=sBegin (Zs p) b.toNat→b.toNat≠93:=fun e y=>by
  have n:=S.nst
  rw [e,y] at n
  simp [sBegin,sBNum,isDig] at n
 have la0:∀v,(Gt p).last=some v→AllO (p++[b]) v:=fun v hv=>(I.la v hv).app _
 rcases C with ⟨a1,a2,a3,a4,a5,a6⟩ | ⟨t,a1,a2,a3,a4,a5⟩ | ⟨t,a1,a2,a3,a4,a5,a6,a7,a8⟩ | ⟨t,a1,a2,a3,a4,a5,a6,a7,a8⟩ | ⟨t,a1,a2,a3,a4,a5,a6,a7⟩ | ⟨a1,a2,a3,a4,a5,a6⟩ | ⟨u,a1,a2,a3,a4,a5,a6,a7⟩
 ·have eg:Gt (p++[b])=Gt p:=by rw [S.g,a1]; rfl
  refine ⟨by rw [eg]; exact frO_up S hl (by omega) I.fr,fun y k=>?_,by rw [eg]; exact I.cl.app _,by rw [eg]; exact la0⟩
  rw [es] at y
  rw [et] at k ⊢
  rw [eo,a2]
  rcases a6 y k with ⟨q1,q2,q3⟩ | ⟨q1,q2,q3,q4⟩
  ·rw [q3]
   exact (openAt_step S hl (I.mak q1 q2) (fun M=>sim_make S.ok M q1 S.st S.nst (fun _=>a1))).1
  rw [q4]
  exact begin_open S q2 q3 (n93 q3)
 ·have G:=gTake_2 (Gt p) a2
  have eg:(Gt (p++[b])).st=(Gt p).st∧(Gt (p++[b])).last=(Gt p).last:=by rw [S.g,a1]; exact G
  exact ⟨by rw [eg.1]; exact frO_up S hl (by omega) I.fr,fun y=>by rw [es] at y; omega,by rw [eg.1]; exact I.cl.app _,by rw [eg.2]; exact la0⟩
 ·obtain ⟨v,v1,v2,v3,v4,v5,_⟩:=gTake_3 (Gt p) a2
  have eg:(Gt (p++[b])).st=gOn (Gt p).st true v∧(Gt (p++[b])).last=some v:=by rw [S.g,a1]; exact ⟨v1,v2⟩
  have n9:(Zs p).st≠9:=fun y=>by
   have:=S.ok.n (Or.inr y)
   have hk:=next_to S.ok t (by rw [a1]; exact List.mem_singleton.2 rfl)
   have q:(sNext (Zs p) b.toNat)=sNum (Zs p) b.toNat:=by unfold sNext; rw [if_neg (by omega),if_neg (by omega),if_pos (Or.inr y)]
   rw [q] at a1 a6
   unfold sNum at a1 a6
   split at a1
   ·simp [Sn.to] at a1
   rename_i c1
   rw [if_neg c1] at a6
   split at a1
   ·simp [sDig] at a1
   rename_i c2
   rw [if_neg c2] at a6
   split at a1
   ·simp [Sn.to] at a1
   have e:=(List.cons.inj a1).1
   rw [← e] at a4
   have:(sNumT (Zs p)).to=(Zs p).at':=rfl
   omega
  have O:Own (p++[b]) v:=plain_own S hl (I.mak a7 a8) a7 n9 a6 (by rw [v4,a3]) (by rw [v5,a4])
  have A:AllO (p++[b]) v:=allO_tv O (fun w hw=>by rw [v3] at hw; cases hw)
  exact ⟨by rw [eg.1]; exact frO_on (frO_up S hl (by omega) I.fr),fun y=>by rw [es] at y; omega,by rw [eg.1]; exact clO_on (I.cl.app _) A,fun x hx=>by rw [eg.2] at hx; rw [← Option.some.inj hx]; exact A⟩
 ·have G:=gTake_0 (Gt p) a2
  have eg:(Gt (p++[b])).st=gBegin (Gt p) t true::(Gt p).st∧(Gt (p++[b])).last=(Gt p).last:=by rw [S.g,a1]; exact G
  refine ⟨?_,fun y=>by rw [es] at y; omega,?_,by rw [eg.2]; exact la0⟩
  ·rw [eg.1]
   refine ⟨?_,frO_up S hl (by omega) I.fr⟩
   show OpenAt (p++[b]) (Gt p).st.length t.frm
   rw [L,a3]
   exact begin_open S a7 a8 (n93 a8)
  rw [eg.1]
  intro f hf w hw
  rcases List.mem_cons.1 hf with y | y
  ·subst y; cases hw
  exact I.cl.app _ f y w hw
 ·cases hs:(Gt p).st with
  | nil=>rw [hs] at L; exact absurd (List.eq_nil_of_length_eq_zero L.symm) a6
  | cons f r =>
   have G:=gTake_1 a2 hs
   have eg:(Gt (p++[b])).st=gOn r f.kp (f.tv t.to)∧(Gt (p++[b])).last=some (f.tv t.to):=by rw [S.g,a1]; exact G
   have F:=I.fr
   have Cl:=I.cl
   rw [hs] at F Cl L
   have ll:(Zs p).op.length=r.length+1:=by rw [← L]; rfl
   have O:=shut_own S hl F.1 ll a3 a4 a5
   have A:AllO (p++[b]) (f.tv t.to):=allO_tv O (fun w hw=>(Cl f (List.mem_cons_self) w hw).app _)
   exact ⟨by rw [eg.1]; exact frO_on (frO_up S hl (by omega) F.2),fun y=>by rw [es] at y; omega,by rw [eg.1]; exact clO_on (fun g hg=>(Cl.app _) g (List.mem_cons_of_mem _ hg)) A,fun x hx=>by rw [eg.2] at hx; rw [← Option.some.inj hx]; exact A⟩
 ·have hk:(sNumT (Zs p)).k=3:=(S.ok.n (Or.inr a2)).2.2.2.2
  obtain ⟨v,v1,v2,v3,v4,v5,_⟩:=gTake_3 (Gt p) hk
  have eg:(Gt (p++[b])).st=gOn (Gt p).st true v∧(Gt (p++[b])).last=some v:=by rw [S.g,a1]; exact ⟨v1,v2⟩
  have M:=I.mak (by omega) hk
  have O:Own (p++[b]) v:=own_back (by rw [v4]; exact M.lt) (by rw [v5]; exact S.at') (by rw [v4]; exact num_own (by omega) M a2)
  have A:AllO (p++[b]) v:=allO_tv O (fun w hw=>by rw [v3] at hw; cases hw)
  exact ⟨by rw [eg.1]; exact frO_on (frO_up S hl (by omega) I.fr),fun y=>by rw [es] at y; omega,by rw [eg.1]; exact clO_on (I.cl.app _) A,fun x hx=>by rw [eg.2] at hx; rw [← Option.some.inj hx]; exact A⟩
 have hk:(sNumT (Zs p)).k=3:=(S.ok.n (Or.inr a2)).2.2.2.2
 obtain ⟨v,v1,v2,v3,v4,v5,_⟩:=gTake_3 (Gt p) hk
 have M:=I.mak (by omega) hk
 have O:Own (p++[b]) v:=own_back (by rw [v4]; exact M.lt) (by rw [v5]; exact S.at') (by rw [v4]; exact num_own (by omega) M a2)
 have A:AllO (p++[b]) v:=allO_tv O (fun w hw=>by rw [v3] at hw; cases hw)
 have F:FrO p (gOn (Gt p).st true v):=frO_on I.fr
 have Cl:ClO (p++[b]) (gOn (Gt p).st true v):=clO_on (I.cl.app _) A
 have L3:=gOn_len (Gt p).st true v
 rw [L] at L3
 cases hs:gOn (Gt p).st true v with
 | nil=>rw [hs] at L3; exact absurd (List.eq_nil_of_length_eq_zero L3.symm) a7
 | cons f r =>
  rw [hs] at F Cl L3
  have G:=gTake_1 (g:=gTake (Gt p) (sNumT (Zs p)) true) a3 (v1.trans hs)
  have eg:(Gt (p++[b])).st=gOn r f.kp (f.tv u.to)∧(Gt (p++[b])).last=some (f.tv u.to):=by rw [S.g,a1]; exact G
  have ll:(Zs p).op.length=r.length+1:=by rw [← L3]; rfl
  have O2:=shut_own S hl F.1 ll a4 a5 a6
  have A2:AllO (p++[b]) (f.tv u.to):=allO_tv O2 (fun w hw=>Cl f (List.mem_cons_self) w hw)
  exact ⟨by rw [eg.1]; exact frO_on (frO_up S hl (by omega) F.2),fun y=>by rw [es] at y; omega,by rw [eg.1]; exact clO_on (fun g hg=>Cl g (List.mem_cons_of_mem _ hg)) A2,fun x hx=>by rw [eg.2] at hx; rw [← Option.some.inj hx]; exact A2⟩
theorem j_all:∀(n:Nat) (p:List UInt8),p.length=n→n≤4000000→(sRun sInit p).e=0→J p
 | 0,p,hn,_,_=>by
  obtain rfl:p=[]:=List.eq_nil_of_length_eq_zero hn
  exact ⟨trivial,fun y=>by simp [Zs,sRun,sInit] at y,(fun f hf=>by cases hf),fun v hv=>by cases hv⟩
 | n+1,p,hn,hl,he=>by
  rcases List.eq_nil_or_concat p with e | ⟨q,b,e⟩
  ·rw [e] at hn; simp at hn
  rw [List.concat_eq_append] at e
  subst e
  rw [List.length_append,List.length_singleton] at hn
  exact j_step (by omega) he (j_all n q (by omega) (by omega) (snoc_pre he))
theorem tx_e {l:List UInt8} (h:txErr l=0):(sRun sInit l).e=0∧(Zs l).op=[]∧((Zs l).st=5∨(Zs l).st=9):=by
 have he:(sRun sInit l).e=0:=by
  unfold txErr at h
  by_cases x:(sRun sInit l).e≠0
  ·rw [if_pos x] at h; exact h
  simpa using x
 unfold txErr at h
 rw [if_neg (by simpa using he)] at h
 by_cases x:sWhole (sRun sInit l).z=true
 ·have x:sWhole (Zs l)=true:=x
  simp [sWhole] at x
  exact ⟨he,x.2,x.1⟩
 rw [if_neg x] at h; cases h
theorem tx_own {l:List UInt8} (hl:l.length≤4000000) (h:txErr l=0) {t:Tv} (ht:txVal l=some t):∀u ∈ allT 10 t,Own l u:=by
 obtain ⟨he,ho,hs⟩:=tx_e h
 have I:=j_all _ l rfl hl he
 have R:=rn_of hl he
 rcases hs with h5 | h9
 ·have e:sEnd (sRun sInit l).z=[]:=by show sEnd (Zs l)=[]; unfold sEnd; rw [if_neg (by omega)]
  unfold txVal txTs at ht
  rw [e,List.append_nil] at ht
  exact I.la t ht
 have e:sEnd (sRun sInit l).z=[sNumT (Zs l)]:=by show sEnd (Zs l)=_; unfold sEnd; rw [if_pos h9]
 unfold txVal txTs at ht
 rw [e,gRun_app] at ht
 have hk:(sNumT (Zs l)).k=3:=(R.ok.n (Or.inr h9)).2.2.2.2
 obtain ⟨v,v1,v2,v3,v4,v5,_⟩:=gTake_3 (Gt l) hk
 have M:=I.mak (by omega) hk
 have hv:some v=some t:=v2.symm.trans ht
 rw [← Option.some.inj hv]
 exact allO_tv (own_end (by rw [v4]; exact M.lt) (by rw [v5]; exact R.at') (by rw [v4]; exact num_own hl M h9)) (fun w hw=>by rw [v3] at hw; cases hw)
theorem tx_fill {l:List UInt8} (hl:l.length≤4000000) (h:txErr l=0) (hb:NB l) (hz:∀q c,l=q++[c]→isBl c.toNat=false) {t:Tv} (ht:txVal l=some t):t.d.frm=0∧t.d.to=l.length∧t.d.path=[36]:=by
 obtain ⟨he,ho,hs⟩:=tx_e h
 suffices O:OwnT l by
  obtain ⟨u,u1,u2⟩:=O.v
  rw [ht] at u1
  rw [Option.some.inj u1]; exact u2
 rcases hs with h5 | h9
 ·rcases List.eq_nil_or_concat l with e | ⟨q,b,e⟩
  ·rw [e] at hb; obtain ⟨c,r,e,_⟩:=hb; cases e
  rw [List.concat_eq_append] at e
  have hbl:=hz q b e
  subst e
  have hq:q.length<4000000:=by simp at hl; omega
  have S:=sc_of hq he
  have s5:(sNext (Zs q) b.toNat).z.st=5:=by rw [S.z] at h5; exact h5
  have o5:(sNext (Zs q) b.toNat).z.op=[]:=by rw [S.z] at ho; exact ho
  have nbq:q≠[]→NB q:=fun y=>by
   obtain ⟨c,r,e,hc⟩:=hb
   cases q with
   | nil=>exact absurd rfl y
   | cons a q =>
    have:a=c:=by simp at e; exact e.1
    exact ⟨a,q,rfl,by rw [this]; exact hc⟩
  have C:=next_cls S.ok S.st S.nst
  have hne:(Zs q).st≠0∨(Zs q).op≠[]→NB q:=fun y=>nbq (fun e=>by rw [e] at y; simp [Zs,sRun,sInit] at y)
  rcases C with ⟨_,_,a,_⟩ | ⟨t,_,_,_,a,_⟩ | ⟨t,a1,a2,a3,a4,a5,a6,a7,a8⟩ | ⟨t,_,_,_,_,a,_⟩ | ⟨t,a1,a2,a3,a4,a5,a6,a7⟩ | ⟨_,_,_,_,_,a⟩ | ⟨u,a1,a2,a3,a4,a5,a6,a7⟩
  ·rw [hbl] at a; cases a s5
  ·omega
  ·exact own_plain hq (hne (Or.inl (by omega))) he (by rw [← a5]; exact o5) a1 a2 a3 a4 a5 a6 a7
  ·omega
  ·refine own_shut hq (hne (Or.inr a6)) he ?_ a2 a3 (Or.inl a1) a4 a5
   have l1:=congrArg List.length (a4.symm.trans o5)
   rw [List.length_dropLast,List.length_nil] at l1
   have l2:(Zs q).op.length≠0:=fun y=>a6 (List.eq_nil_of_length_eq_zero y)
   omega
  ·rw [hbl] at a; cases a s5
  refine own_shut hq (hne (Or.inr a7)) he ?_ a3 a4 (Or.inr ⟨sNumT (Zs q),(S.ok.n (Or.inr a2)).2.2.2.2,a1⟩) a5 a6
  have l1:=congrArg List.length (a5.symm.trans o5)
  rw [List.length_dropLast,List.length_nil] at l1
  have l2:(Zs q).op.length≠0:=fun y=>a7 (List.eq_nil_of_length_eq_zero y)
  omega
 exact own_num hl hb he ho h9
end Tr
namespace Tr
theorem zip_filter (f:Tv→Bool):∀(l:List Tv) (n:Nat),((l.zipIdx n).filter (fun p=>f p.1)).map (·.1)=l.filter f
 | [],_=>rfl
 | a::l,n=>by
  rw [List.zipIdx_cons,List.filter_cons,List.filter_cons]
  by_cases h:f a=true
  ·rw [if_pos h,if_pos h,List.map_cons,zip_filter f l (n+1)]
  rw [if_neg h,if_neg h,zip_filter f l (n+1)]
theorem takS_1 {x:Sel} (h:x.sort=1) (v:Tv):takS x v=v.ws:=by
 unfold takS
 have e:(fun p:Tv×Nat=>takes1 x v.d.kind v.ws.length p.2 p.1)=fun p=>(fun _:Tv=>true) p.1:=by funext p; simp [takes1,h]
 rw [e]
 exact (zip_filter (fun _=>true) v.ws 0).trans (by simp)
def shp (ys:List Sg):List (Bool×List Nat):=ys.map (fun g=>(g.deep,g.l.map (·.sort)))
theorem shp_one {ys:List Sg} {d:Bool} {k:Nat} (h:shp ys=[(d,[k])]):∃g x,ys=[g]∧g.deep=d∧g.l=[x]∧x.sort=k:=by
 match ys,h with
 | [g],h =>
  have h1:(g.deep,g.l.map (·.sort))=(d,[k]):=(List.cons.inj h).1
  have h2:=congrArg Prod.fst h1
  have h3:g.l.map (·.sort)=[k]:=congrArg Prod.snd h1
  match hl:g.l,h3 with
  | [x],h3=>exact ⟨g,x,rfl,h2,hl,(List.cons.inj h3).1⟩
 | [],h=>cases h
 | _::_::_,h=>cases (List.cons.inj h).2
theorem shp_nil {ys:List Sg} (h:shp ys=[]):ys=[]:=List.map_eq_nil_iff.1 h
theorem every_mem {ys:List Sg} (h:shp ys=[(true,[1])]) {T:Tv} {v:Tv} (hv:v ∈ allT 10 T):v ∈ nodesS ys [T]++[T]:=by
 obtain ⟨g,x,rfl,h1,h2,h3⟩:=shp_one h
 rcases all_par hv with e | ⟨p,hp,hc⟩
 ·rw [e]; simp
 refine List.mem_append_left _ ?_
 show v ∈ [T].flatMap (segS g)
 rw [List.flatMap_cons,List.flatMap_nil,List.append_nil]
 unfold segS
 rw [if_pos h1]
 refine List.mem_flatMap.2 ⟨p,hp,?_⟩
 rw [h2]
 show v ∈ [x].flatMap (fun x=>takS x p)
 rw [List.flatMap_cons,List.flatMap_nil,List.append_nil,takS_1 h3]
 exact hc
theorem NB.of {s:List UInt8} (h:flsB s=true):NB s∧∀q c,s=q++[c]→isBl c.toNat=false:=by
 unfold flsB at h
 rw [Bool.and_eq_true] at h
 constructor
 ·cases s with
  | nil=>simp at h
  | cons a l=>exact ⟨a,l,rfl,by simpa using h.1⟩
 intro q c e
 rw [e] at h
 have:(q++[c]).getLast?=some c:=List.getLast?_concat
 rw [this] at h
 simpa using h.2
theorem fls_fill {l:List UInt8} (hl:l.length≤4000000) (h:txErr l=0) (hf:flsB l=true) {t:Tv} (ht:txVal l=some t):t.d.frm=0∧t.d.to=l.length∧t.d.path=[36]:=tx_fill hl h (NB.of hf).1 (NB.of hf).2 ht
end Tr
