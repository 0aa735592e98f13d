import Derived.Test.YtcbadebjpogmlaaGreatDoorVsTyB
import Derived.Deep.CutBlock
import Derived.Deep.DeepCutAuto
import Derived.Maps.AppendAt
import Derived.Deep.RegionHeldLaw
set_option maxHeartbeats 8000000
set_option maxRecDepth 100000
namespace Go.Proofs.YtcbadebjpogmlaaGreatDoor
open Go.RowKit Tr
def jR (x:b_) (v:Tv) (m:Nat):List Tv:=(((v.ws.zipIdx).take m).filter (λ p=>bG x v.d.kind v.ws.length p.2 p.1)).map (·.1)
theorem ED (x:b_) (v:Tv):jR x v v.ws.length=cC x v:=by
 unfold jR cC
 rw [List.take_of_length_le (by simp)]
theorem AR (x:b_) (v:Tv) {m:Nat} (h:m<v.ws.length):jR x v (m+1)=jR x v m++(if bG x v.d.kind v.ws.length m v.ws[m]=true then [v.ws[m]] else []):=by
 unfold jR
 rw [List.take_succ_eq_append_getElem (by simpa using h),List.filter_append,List.map_append]
 congr 1
 simp only [List.getElem_zipIdx,Nat.zero_add]
 by_cases hb:bG x v.d.kind v.ws.length m v.ws[m]=true
 ·rw [if_pos hb,List.filter_cons_of_pos (by simpa using hb)]; rfl
 rw [if_neg hb,List.filter_cons_of_neg (by simpa using hb)]; rfl
theorem EF (x:b_) (v:Tv) (m:Nat):(jR x v m).length<=(cC x v).length:=by
 unfold jR cC
 rw [List.length_map,List.length_map]
 exact (List.Sublist.filter _ (List.take_sublist _ _)).length_le
theorem pW {w:World} {b b':Nat} {e:TypeId} {sz:Nat} {v:Value} {n:Nat} {xs:List Value} (h:w.ownsRow b e sz v n xs) (hb:b'<=b):w.ownsRow b' e sz v n xs:=by
 refine ⟨h.1,?_⟩
 rcases h.2 with h2 | ⟨g,cap,cur,h3,h4,h5⟩
 ·exact Or.inl h2
 exact Or.inr ⟨g,cap,cur,h3,by omega,h5⟩
theorem mj.low {w w1 w':World} {A:Nat->Nat} {l:List Tv} {sv:Value} (h:mj w1 A l sv w') (k:ak w w1):mj w A l sv w':=⟨k.trans h.f,pW h.o k.size⟩
def rz (x:b_) (b:Value):Array Value:=#[.int .i64 (x.sort:Nat),.string (sb x.name),.int .i64 x.n,.int .i64 x.ai,.int .i64 x.to,b]
theorem mj.drewN {w w':World} {A:Nat->Nat} {l:List Tv} {sv:Value} (h:mj w A l sv w') (k:Nat):mj w A l sv (w'.drewN k):=⟨h.f.drewN k,bO h.o (λ_ _=>rfl)⟩
theorem NQ {A:Nat->Nat} {D:Nat->Prop} {hi n:Nat} {t:Tv} {w:World} {x:b_} {b:Value} (h:RT w A D hi (n+1) t) (hD:∀k,D k->k<w.heap.size) (hlen:t.ws.length<=4000000) (Uc:1<=x.sort/\x.sort<=5) (hxn:-1000<x.n/\x.n<1000)
 (hm:x.sort=5->∃g,b=.pointer (some ⟨g,0,none⟩)/\∀w',ak w w'->∀c ∈ t.ws,ju w' A g c (x.wh c)) :
 Calls Tryz.prog 123 #[.agg (rz x b),.pointer (some ⟨A t.d.ai,0,none⟩)] w λ r w'=>∃sv,r=.returned sv/\mj w A (cC x t) sv w':=by
 obtain ⟨i0,hi',hz0,hz1,dN⟩:=info_parts rI
 have HI:=aa hi'
 have ia:=aa hz0
 have gO:=aa hz1
 have ic:=aa dN
 obtain ⟨W1,mq⟩:∃W1,W1=w.alloc (.cells (rz x b) 189):=⟨_,rfl⟩
 obtain ⟨xb,hxb⟩:∃xb,xb=w.heap.size:=⟨_,rfl⟩
 have K1:Hid (ak w W1):=by rw [mq]; exact (Fr.refl _ w).alloc _
 have B1:Hid (ay W1 xb (rz x b) 189):=by rw [mq,hxb]; exact ay.new w _ _
 have F7:=aa mq
 have HXB:=aa hxb
 have HR:=aa h
 have HD:=aa hD
 have HM:=aa hm
 have RK:Hid (∀wr,ak W1 wr->RT wr A D hi (n+1) t):=λ wr k=>RT.keep (λ q hq=>(K1.out.trans k).block q (hD q hq) id) _ _ h
 obtain ⟨nn,hnn⟩:∃nn,nn=(if x.n<0 then x.n+(t.ws.length:Int) else x.n):=⟨_,rfl⟩
 have Cv:=aa hnn
 have NIL:Hid (mj W1 A (jR x t 0) (.slice none 0 0) W1):=⟨Fr.refl _ _,⟨rfl,Or.inl ⟨rfl,rfl⟩⟩⟩
 have END:Hid (∀sv wr,mj W1 A (jR x t t.ws.length) sv wr->mj w A (cC x t) sv wr):=λ sv wr hv=>by rw [ED] at hv; exact hv.low K1.out
 obtain ⟨iR,hV0⟩:=(RK.out W1 (Fr.refl _ _)).vc
 obtain ⟨u0,ucp,rfl⟩:=ah hV0.o
 have y8:W1.cell? ⟨A t.d.ai,8,none⟩=some (.slice u0 t.ws.length ucp):=hV0.b.cell 8
 have x2:W1.cell? ⟨xb,2,none⟩=some (.int .i64 x.n):=B1.out.cell 2
 clear hi' hz0 hz1 dN mq hxb h hD hm hV0
 unfold rz
 go_enter Tryz.func123,Tryz.ntmps123
 have NS:(x.n<0/\x.n+(t.ws.length:Int)=nn)\/(¬x.n<0/\x.n=nn):=by
  by_cases hneg:x.n<0
  ·left; exact ⟨hneg,by rw [hnn,if_pos hneg]⟩
  right; exact ⟨hneg,by rw [hnn,if_neg hneg]⟩
 clear hnn
 have Fc:=aa (show rz x b=#[.int .i64 (x.sort:Nat),.string (sb x.name),.int .i64 x.n,.int .i64 x.ai,.int .i64 x.to,b] from rfl)
 go_upto_if 13 with fail
 rw [<-Fc.out,<-HXB.out,<-F7.out]
 go_cut [6] from 10 to 20 (λ s6 wc=>s6=.int .i64 nn/\wc=W1)
 case first =>
  rcases NS with ⟨n1,n2⟩ | ⟨n1,n2⟩
  ·clear Cv
   subst n2
   go_wp2
   go_meet
   exact ⟨rfl,rfl⟩
  subst n2
  go_wp2
  go_meet
  exact ⟨rfl,rfl⟩
 case rest =>
  obtain ⟨rfl,XW⟩:=hcut
  rw [XW]
  clear NS y8 x2 XW
  go_wp2
  go_loopw [5,7] (λ o i wr=>∃m:Nat,m<=t.ws.length/\i=.int .i64 m/\mj W1 A (jR x t m) o wr) (λ_ i _=>t.ws.length - (intOf i).toNat)
  case atStart=>exact ⟨0,Nat.zero_le _,rfl,NIL.out⟩
  case round =>
   obtain ⟨m,hm,rfl,hS⟩:=hrel
   have S:=aa hS
   obtain ⟨l,jT⟩:∃l,l=jR x t m:=⟨_,rfl⟩
   rw [<-jT] at S
   obtain ⟨o0,o1,XX⟩:=ah S.out.o
   obtain ⟨ol,hol⟩:∃ol,ol=l.length:=⟨_,rfl⟩
   rw [<-hol] at XX
   subst XX
   have J7:=S.out.o
   rw [<-hol] at J7
   have Ta:Hid (∀q,(wr.drewN q).ownsRow W1.heap.size 159 1 (.slice o0 ol o1) ol (l.map (dM A))):=λ q=>bO J7 (λ_ _=>rfl)
   have js:=aa jT
   have KE:=aa hol
   have ab5:ol<=4000000:=by
    have h1:=EF x t m
    have h2:(cC x t).length<=t.ws.length:=by
     unfold cC
     rw [List.length_map]
     exact Nat.le_trans (List.length_filter_le _ _) (by simp)
    rw [hol,jT]; omega
   have NL:=RK.out wr S.out.f
   obtain ⟨sv,hV⟩:=NL.vc
   obtain ⟨v0,y_,rfl⟩:=ah hV.o
   have y8:wr.cell? ⟨A t.d.ai,8,none⟩=some (.slice v0 t.ws.length y_):=hV.b.cell 8
   have y0:wr.cell? ⟨A t.d.ai,0,none⟩=some (.int .i64 (t.d.kind:Nat)):=hV.b.cell 0
   clear hS J7 jT hol
   by_cases PZ:m<t.ws.length
   ·have hmi:(m:Int)<(t.ws.length:Int):=by omega
    obtain ⟨g2,cap2,lY,AS⟩:=hV.at_ PZ
    simp only [Value.slice.injEq,true_and] at lY
    obtain ⟨rfl,rfl⟩:=lY
    have iZ:=NL.kids (List.getElem_mem PZ)
    obtain ⟨n2,rfl⟩:∃n2,n=n2+1:=by
     cases n with
     | zero=>exact absurd iZ id
     | succ n=>exact ⟨n,rfl⟩
    obtain ⟨Fe,PV⟩:=iZ.vc
    have z3:wr.cell? ⟨A (t.ws[m]).d.ai,3,none⟩=some (.string (sb (t.ws[m]).d.name)):=PV.b.cell 3
    have bx:ay wr xb (rz x b) 189:=(S.out.f.block xb (bH B1.out) id).trans B1.out
    have x0:wr.cell? ⟨xb,0,none⟩=some (.int .i64 (x.sort:Nat)):=bx.cell 0
    have x1:wr.cell? ⟨xb,1,none⟩=some (.string (sb x.name)):=bx.cell 1
    have x3:wr.cell? ⟨xb,3,none⟩=some (.int .i64 x.ai):=bx.cell 3
    have x4:wr.cell? ⟨xb,4,none⟩=some (.int .i64 x.to):=bx.cell 4
    have x5:wr.cell? ⟨xb,5,none⟩=some b:=bx.cell 5
    have J_:=aa (AR x t PZ)
    have HMC:Hid (x.sort=5->∃g,b=.pointer (some ⟨g,0,none⟩)/\ju wr A g t.ws[m] (x.wh t.ws[m])):=λ y=>by
     obtain ⟨g,e,hm⟩:=HM.out y
     exact ⟨g,e,hm wr (K1.out.trans S.out.f) _ (List.getElem_mem PZ)⟩
    generalize t.ws[m]=c at *
    obtain ⟨eb,heb⟩:∃eb,eb=bG x t.d.kind t.ws.length m c:=⟨_,rfl⟩
    have KF:=aa heb
    rw [<-heb] at J_
    clear NL hV iZ PV bx heb
    go_upto_block 2 with fail
    go_cut [9] from 21 to 101 (λ s9 wc=>s9=.bool eb/\∃q,wc=wr.drewN q)
    case first =>
     have SS:x.sort=1\/x.sort=2\/x.sort=3\/x.sort=4\/x.sort=5:=by omega
     rcases SS with hs | hs | hs | hs | hs
     ·have E:eb=true:=by rw [KF.out]; simp [bG,hs]
      subst E
      have k1:((x.sort:Int) == 1)=true:=by simp [hs]
      go_wp2
      go_meet
      exact ⟨rfl,0,rfl⟩
     ·have E:eb=(t.d.kind == 5 && c.d.name == x.name):=by rw [KF.out]; simp [bG,hs]
      have k1:((x.sort:Int) == 1)=false:=by simp [hs]
      have k2:((x.sort:Int) == 2)=true:=by simp [hs]
      clear KF J_
      by_cases hk:t.d.kind=5
      ·rw [hk] at y0
       go_wp2
       go_quiet (fail)
       go_wp2
       go_meet
       exact ⟨by rw [E,hk]; simp,_,rfl⟩
      have g3:((t.d.kind:Int) == 5)=false:=iQ hk
      have E2:eb=false:=by rw [E]; simp [hk]
      subst E2
      clear E
      go_wp2
      go_quiet (fail)
      go_wp2
      go_meet
      exact ⟨rfl,_,rfl⟩
     ·have E:eb=(t.d.kind == 4 && (m:Int) == nn):=by rw [KF.out,Cv.out]; simp [bG,hs]
      have k1:((x.sort:Int) == 1)=false:=by simp [hs]
      have k2:((x.sort:Int) == 2)=false:=by simp [hs]
      have k3:((x.sort:Int) == 3)=true:=by simp [hs]
      clear KF J_
      by_cases hk:t.d.kind=4
      ·rw [hk] at y0
       cases hn:((m:Int) == nn) with
       | true =>
        have E2:eb=true:=by rw [E,hn]; simp [hk]
        subst E2
        clear E
        go_wp2
        go_meet
        exact ⟨rfl,0,rfl⟩
       | false =>
        have E2:eb=false:=by rw [E,hn]; simp
        subst E2
        clear E
        go_wp2
        go_meet
        exact ⟨rfl,0,rfl⟩
      have g3:((t.d.kind:Int) == 4)=false:=iQ hk
      have E2:eb=false:=by rw [E]; simp [hk]
      subst E2
      clear E
      go_wp2
      go_meet
      exact ⟨rfl,0,rfl⟩
     ·have E:eb=(t.d.kind == 4 && decide (x.ai<=m) && (decide (x.to<0) || decide ((m:Int)<x.to))):=by rw [KF.out]; simp [bG,hs]
      have k1:((x.sort:Int) == 1)=false:=by simp [hs]
      have k2:((x.sort:Int) == 2)=false:=by simp [hs]
      have k3:((x.sort:Int) == 3)=false:=by simp [hs]
      have k4:((x.sort:Int) == 4)=true:=by simp [hs]
      clear KF J_
      by_cases hk:t.d.kind=4
      ·rw [hk] at y0
       by_cases h1:x.ai<=(m:Int)
       ·by_cases h2:x.to<0
        ·have E2:eb=true:=by rw [E]; simp [hk,h1,h2]
         subst E2
         have d1:decide (x.ai<=(m:Int))=true:=decide_eq_true h1
         have d2:decide (x.to<0)=true:=decide_eq_true h2
         clear E
         go_wp2
         try (go_quiet (fail); go_wp2)
         go_meet
         exact ⟨rfl,by first | exact ⟨0,rfl⟩ | exact ⟨_,rfl⟩⟩
        by_cases h3:(m:Int)<x.to
        ·have E2:eb=true:=by rw [E]; simp [hk,h1,h3]
         subst E2
         have d1:decide (x.ai<=(m:Int))=true:=decide_eq_true h1
         have d2:decide (x.to<0)=false:=decide_eq_false h2
         have d3:decide ((m:Int)<x.to)=true:=decide_eq_true h3
         clear E
         go_wp2
         try (go_quiet (fail); go_wp2)
         go_meet
         exact ⟨rfl,by first | exact ⟨0,rfl⟩ | exact ⟨_,rfl⟩⟩
        have E2:eb=false:=by rw [E]; simp [h2,h3]
        subst E2
        have d1:decide (x.ai<=(m:Int))=true:=decide_eq_true h1
        have d2:decide (x.to<0)=false:=decide_eq_false h2
        have d3:decide ((m:Int)<x.to)=false:=decide_eq_false h3
        clear E
        go_wp2
        try (go_quiet (fail); go_wp2)
        go_meet
        exact ⟨rfl,by first | exact ⟨0,rfl⟩ | exact ⟨_,rfl⟩⟩
       have E2:eb=false:=by rw [E]; simp [h1]
       subst E2
       have d1:decide (x.ai<=(m:Int))=false:=decide_eq_false h1
       clear E
       go_wp2
       try (go_quiet (fail); go_wp2)
       go_meet
       exact ⟨rfl,by first | exact ⟨0,rfl⟩ | exact ⟨_,rfl⟩⟩
      have g3:((t.d.kind:Int) == 4)=false:=iQ hk
      have E2:eb=false:=by rw [E]; simp [hk]
      subst E2
      clear E
      go_wp2
      try (go_quiet (fail); go_wp2)
      go_meet
      exact ⟨rfl,by first | exact ⟨0,rfl⟩ | exact ⟨_,rfl⟩⟩
     have E:eb=x.wh c:=by rw [KF.out]; simp [bG,hs]
     have k1:((x.sort:Int) == 1)=false:=by simp [hs]
     have k2:((x.sort:Int) == 2)=false:=by simp [hs]
     have k3:((x.sort:Int) == 3)=false:=by simp [hs]
     have k4:((x.sort:Int) == 4)=false:=by simp [hs]
     obtain ⟨gm,rfl,sr⟩:=HMC.out hs
     rw [<-E] at sr
     unfold ju at sr
     have HMH:=aa sr
     clear KF J_ sr HMC
     go_wp2_with fail
     refine (HMH.out 0).mono ?_
     rintro r w1 ⟨rfl,q1,rfl⟩
     go_wp2
     go_meet
     exact ⟨by first | rfl | rw [E],q1,rfl⟩
    case rest =>
     obtain ⟨rfl,q,XW⟩:=hcut
     rw [XW]
     clear XW y8 y0 z3 x0 x1 x3 x4 x5 AS HMC KF
     cases eb with
     | true =>
      have bI:=Ta.out q
      have F4:=aa (S.out.f.drewN q)
      generalize wr.drewN q=w4 at *
      have hsz:W1.heap.size<=w4.heap.size:=F4.out.size
      go_wp2_with (at_builtin; refine wpList_append_own _ rfl _ _ 191 rfl W1.heap.size 159 i0 _ 1 8 Tryz.underlying191 HI.out ia.out gO.out ic.out rfl (by decide) _ _ _ rfl (bI.alloc _) ⟨w4.heap.size,0,none⟩ 1 1 [.pointer (some ⟨A c.d.ai,0,none⟩)] rfl rfl (λ j u hj=>by match j,hj with | 0,hj=>(simp at hj; subst hj; simp [Addr.add])) (λ u hu=>by simp at hu; subst hu; rfl) (by unfold maxLen; omega) (by omega) (by simp; omega) ?_)
      intro v' w5 cN hgrow _
      have S5:Hid (mj W1 A (jR x t (m+1)) v' w5):=by
       rw [J_.out]
       simp only [if_true]
       rw [<-js.out]
       refine ⟨(F4.out.alloc _).grown hgrow (λ q hq=>Or.inl (by have:=(bI.lt q hq).1; omega)),?_⟩
       rw [List.map_append,List.length_append,<-KE.out]
       exact cN
      obtain ⟨b5,k5,rfl⟩:=ah cN
      clear cN hgrow bI
      go_wp2
      go_roundw
      case rel=>exact ⟨m+1,by omega,by go_num,S5.out⟩
      case measure=>simp [intOf]; omega
     | false =>
      have S3:Hid (mj W1 A (jR x t (m+1)) (.slice o0 ol o1) (wr.drewN q)):=by
       rw [J_.out]
       simp only [Bool.false_eq_true,if_false,List.append_nil]
       rw [<-js.out]
       exact S.out.drewN q
      go_wp2
      go_roundw
      case rel=>exact ⟨m+1,by omega,by go_num,S3.out⟩
      case measure=>simp [intOf]; omega
   have hmi:¬(m:Int)<(t.ws.length:Int):=by omega
   have hml:m=t.ws.length:=by omega
   have hE:mj w A (cC x t) (.slice o0 ol o1) wr:=END.out _ _ (by rw [js.out] at S; rw [<-hml]; exact S.out)
   have HE:=aa hE
   clear hE hml NL hV
   go_wp2
   go_ret
   exact ⟨_,rfl,HE.out⟩
theorem lA {α:Type} (f:α->List Value) (c:Nat) (hc:∀a,(f a).length=c) (l:List α):∀(k i:Nat) (h:k<l.length),i<c->(l.flatMap f)[k * c+i]?=(f l[k])[i]?:=by
 induction l with
 | nil=>intro k i h; simp at h
 | cons a r ih =>
  intro k i h hi
  rw [List.flatMap_cons]
  have hl:=hc a
  cases k with
  | zero=>rw [List.getElem?_append_left (by omega)]; simp
  | succ k =>
   have e:(k+1) * c+i=k * c+i+c:=by rw [Nat.succ_mul]; omega
   rw [e,List.getElem?_append_right (by omega),show k * c+i+c - (f a).length=k * c+i from by omega]
   exact ih k i (by simpa using h) hi
theorem RT.up {w:World} {A:Nat->Nat} {D:Nat->Prop} {hi:Nat}:∀{n:Nat} {t:Tv},RT w A D hi n t->RT w A D hi (n+1) t
 | 0,_,h=>absurd h id
 | _+1,_,⟨h1,h2,h3,h4⟩=>⟨h1,h2,h3,λ c hc=>RT.up (h4 c hc)⟩
theorem RT.ups {w:World} {A:Nat->Nat} {D:Nat->Prop} {hi n m:Nat} {t:Tv} (h:RT w A D hi n t) (hm:n<=m):RT w A D hi m t:=by
 induction hm with
 | refl=>exact h
 | step _ ih=>exact ih.up
theorem NV {x:b_} {v u:Tv} (h:u ∈ cC x v):u ∈ v.ws:=by
 unfold cC at h
 obtain ⟨p,hp,rfl⟩:=List.mem_map.1 h
 exact List.fst_mem_of_mem_zipIdx (List.mem_filter.1 hp).1
structure Tm (w:World) (A:Nat->Nat) (D:Nat->Prop) (hi:Nat) (S:Tv->Prop):Prop where
 KH:∀u,S u->∀c ∈ u.ws,S c
 rt:∀u,S u->RT w A D hi 10 u
 len:∀u,S u->(au 10 u).length<=4000000
theorem AT {S:Tv->Prop} (hk:∀u,S u->∀c ∈ u.ws,S c):∀(n:Nat) (u v:Tv),S u->v ∈ au n u->S v
 | 0,_,_,_,h=>by simp [au] at h
 | n+1,u,v,hu,h=>by
  simp only [au,List.mem_cons,List.mem_flatMap] at h
  rcases h with rfl | ⟨c,hc,hv⟩
  ·exact hu
  exact AT hk n c v (hk u hu c hc) hv
theorem J' {S:Tv->Prop} (hk:∀u,S u->∀c ∈ u.ws,S c) {l:List b_} {u v:Tv} (hu:S u) (h:v ∈ fC l u):S v:=by
 obtain ⟨x,_,hx⟩:=List.mem_flatMap.1 h
 exact hk u hu v (NV hx)
theorem Tn {S:Tv->Prop} (hk:∀u,S u->∀c ∈ u.ws,S c) {g:Sg} {u v:Tv} (hu:S u) (h:v ∈ dr g u):S v:=by
 unfold dr at h
 split at h
 ·obtain ⟨y,hy,hv⟩:=List.mem_flatMap.1 h
  exact J' hk (AT hk 10 u y hu hy) hv
 exact J' hk hu h
theorem rL {S:Tv->Prop} (hk:∀u,S u->∀c ∈ u.ws,S c):∀(gs:List Sg) (l:List Tv),(∀u ∈ l,S u)->∀v ∈ aI gs l,S v
 | [],_,h,v,hv=>h v hv
 | g::r,l,h,v,hv=>rL hk r _ (λ u hu=>by
  obtain ⟨y,hy,hx⟩:=List.mem_flatMap.1 hu
  exact Tn hk (h y hy) hx) v hv
theorem lK {α β:Type} (f:α->List β) (l:List α) {k:Nat} (h:k<l.length):((l.take k).flatMap f).length+(f l[k]).length<=(l.flatMap f).length:=by
 have e:l.flatMap f=(l.take (k+1)++l.drop (k+1)).flatMap f:=by rw [List.take_append_drop]
 rw [e,List.flatMap_append,List.length_append,List.take_succ_eq_append_getElem h,List.flatMap_append,List.length_append]
 simp
def me (p:b_×Value):List Value:=[.int .i64 (p.1.sort:Nat),.string (sb p.1.name),.int .i64 p.1.n,.int .i64 p.1.ai,.int .i64 p.1.to,p.2]
def JE (p:Sg×Value×ByteArray):List Value:=[.bool p.1.deep,p.2.1,.string p.2.2]
structure Uf (w:World) (x:b_) (b:Value):Prop where
 so:1<=x.sort/\x.sort<=5
 n:-1000<x.n/\x.n<1000
 m:x.sort=5->∃g,b=.pointer (some ⟨g,0,none⟩)/\∀w',ak w w'->∀(A:Nat->Nat) (D:Nat->Prop) (hi n:Nat) (t:Tv),RT w' A D hi n t->ju w' A g t (x.wh t)
theorem Uf.keep {w w':World} {x:b_} {b:Value} (h:Uf w x b) (k:ak w w'):Uf w' x b:=⟨h.so,h.n,λ e=>by
 obtain ⟨g,h1,h2⟩:=h.m e
 exact ⟨g,h1,λ w2 k2=>h2 w2 (k.trans k2)⟩⟩
def su (w:World) (sl:Value) (l:List b_):Prop:=∃ps:List (b_×Value),ps.map (·.1)=l/\w.ownsRow 0 189 6 sl l.length (ps.flatMap me)/\∀p ∈ ps,Uf w p.1 p.2
def rA (w:World) (sl:Value) (gs:List Sg):Prop:=∃ps:List (Sg×Value×ByteArray),ps.map (·.1)=gs/\w.ownsRow 0 152 3 sl gs.length (ps.flatMap JE)/\∀p ∈ ps,su w p.2.1 p.1.l
theorem su.keep {w w':World} {sl:Value} {l:List b_} (h:su w sl l) (k:ak w w'):su w' sl l:=by
 obtain ⟨ps,h1,h2,h3⟩:=h
 exact ⟨ps,h1,aW h2 k (λ_ _ x=>x),λ p hp=>(h3 p hp).keep k⟩
theorem rA.keep {w w':World} {sl:Value} {gs:List Sg} (h:rA w sl gs) (k:ak w w'):rA w' sl gs:=by
 obtain ⟨ps,h1,h2,h3⟩:=h
 exact ⟨ps,h1,aW h2 k (λ_ _ x=>x),λ p hp=>(h3 p hp).keep k⟩
theorem su.form {w:World} {sl:Value} {l:List b_} (h:su w sl l):∃a c,sl=.slice a l.length c:=by
 obtain ⟨ps,_,h2,_⟩:=h
 exact ah h2
theorem rA.form {w:World} {sl:Value} {gs:List Sg} (h:rA w sl gs):∃a c,sl=.slice a gs.length c:=by
 obtain ⟨ps,_,h2,_⟩:=h
 exact ah h2
theorem rA.at_ {w:World} {sl:Value} {gs:List Sg} (h:rA w sl gs) {k:Nat} (hk:k<gs.length):∃g cap sv,sl=.slice (some ⟨g,0,none⟩) gs.length cap/\w.cell? ⟨g,k * 3+0,none⟩=some (.bool gs[k].deep)/\w.cell? ⟨g,k * 3+1,none⟩=some sv/\su w sv gs[k].l:=by
 obtain ⟨ps,rfl,h2,h3⟩:=h
 have hk':k<ps.length:=by simpa using hk
 obtain ⟨g,cap,hv,_,_⟩:=h2.form (by omega)
 rw [hv] at h2
 have c0:=(h2.cellAt (k * 3+0) (by omega)).trans (lA JE 3 (λ_=>rfl) ps k 0 hk' (by omega))
 have c1:=(h2.cellAt (k * 3+1) (by omega)).trans (lA JE 3 (λ_=>rfl) ps k 1 hk' (by omega))
 refine ⟨g,cap,ps[k].2.1,hv,?_,c1.trans rfl,?_⟩
 ·rw [c0]; simp [JE]
 rw [List.getElem_map]; exact h3 _ (List.getElem_mem hk')
theorem su.at_ {w:World} {sl:Value} {l:List b_} (h:su w sl l) {k:Nat} (hk:k<l.length):∃g cap b,sl=.slice (some ⟨g,0,none⟩) l.length cap/\(∀i,i<6->w.cell? ⟨g,k * 6+i,none⟩=(me (l[k],b))[i]?)/\Uf w l[k] b:=by
 obtain ⟨ps,rfl,h2,h3⟩:=h
 have hk':k<ps.length:=by simpa using hk
 obtain ⟨g,cap,hv,_,_⟩:=h2.form (by omega)
 rw [hv] at h2
 refine ⟨g,cap,ps[k].2,hv,λ i hi=>?_,?_⟩
 ·rw [List.getElem_map]
  exact (h2.cellAt (k * 6+i) (by omega)).trans (lA me 6 (λ_=>rfl) ps k i hk' hi)
 rw [List.getElem_map]; exact h3 _ (List.getElem_mem hk')
theorem EG {w:World} {av:Value} {n B:Nat} {cells:List Value} (h:w.ownsRow B 159 1 av n cells) (ty:TypeId) (a:Option Addr) (c:Nat):(Builtin.append_ #[191,191] ty #[av,.slice a 0 c]).run Tryz.prog w=.ok av w:=by
 obtain ⟨i0,hi,_,_,_⟩:=info_parts rI
 rcases h.2 with ⟨rfl,rfl⟩ | ⟨g,cap,cur,rfl,_,_,hnc,_⟩
 ·cases a<;>simp [Builtin.append_,run_underlying Tryz.underlying191,sizeOf,typeInfo,hi,Builtin.lenOf,Builtin.firstCells,loadCells,loadCellsFrom]
 cases a<;>simp [Builtin.append_,run_underlying Tryz.underlying191,sizeOf,typeInfo,hi,Builtin.lenOf,Builtin.firstCells,hnc,storeCells,loadCells,loadCellsFrom]
theorem ach {w:World} (base:Nat) (v:Value) (n:Nat) (xs:List Value) (hown:w.ownsRow base 159 1 v n xs) (b2:Nat) (xv:Value) (m:Nat) (ys:List Value) (hx:w.ownsRow b2 159 1 xv m ys) (h1:∀u ∈ ys,u.oneCell'=true) (hb:n+m<=2000000000000) (hbase:base<=w.heap.size) (ty:TypeId) :
 ∃v' w',(Builtin.append_ #[191,191] ty #[v,xv]).run Tryz.prog w=.ok v' w'/\w'.ownsRow base 159 1 v' (n+m) (xs++ys)/\w.grownBy w' v.ownBlock/\(v'.ownBlock=v.ownBlock\/v'.ownBlock=some w.heap.size):=by
 obtain ⟨i0,hi,hz0,hz1,dN⟩:=info_parts rI
 by_cases hm:m=0
 ·subst hm
  obtain ⟨a,c,rfl⟩:=ah hx
  have hy:ys=[]:=List.eq_nil_of_length_eq_zero (by have:=hx.1; simpa using this)
  subst hy
  exact ⟨v,w,EG hown ty a c,by simpa using hown,⟨rfl,rfl,rfl,Nat.le_refl _,λ_ _ _=>rfl⟩,Or.inl rfl⟩
 obtain ⟨g,cap,rfl,_,_⟩:=hx.form (by omega)
 obtain ⟨v',w',h2,h3,h4,_,h6⟩:=run_append_own_at (P:=Tryz.prog) w base 191 ty 159 i0 _ 1 8 Tryz.underlying191 hi hz0 hz1 dN rfl (by decide) v n xs hown ⟨g,0,none⟩ m cap ys hx.1 (hx.cells (g:=g) rfl) h1 (by unfold maxLen; omega) (by omega) hbase
 exact ⟨v',w',h2,h3,h4,h6⟩
theorem EH {w:World} {ops:Array Oper} {o:Oper} {a:Act} {K:Act->World->Prop} {Q:Exit->Act->World->Prop} {E:Prop} (hgd:o.guard=none) (s x:Operand)
 (ho:o.op=.call { callee:=.builtin .append,args:=#[s,x],argTypes:=#[191,191] })
 (base:Nat) (v:Value) (n:Nat) (xs:List Value) (hs:a.eval s=v) (hown:w.ownsRow base 159 1 v n xs)
 (b2:Nat) (xv:Value) (m:Nat) (ys:List Value) (hx:a.eval x=xv) (hx2:w.ownsRow b2 159 1 xv m ys) (h1:∀u ∈ ys,u.oneCell'=true)
 (hb:n+m<=2000000000000) (hbase:base<=w.heap.size)
 (h:∀v' w',w'.ownsRow base 159 1 v' (n+m) (xs++ys)->w.grownBy w' v.ownBlock->(v'.ownBlock=v.ownBlock\/v'.ownBlock=some w.heap.size)->K (a.put o.dst v') w') :
 if Region.wanted o (yielded ops a.tmps)=true then Oper.wp Tryz.prog o a w K Q else E:=by
 have hw:Region.wanted o (yielded ops a.tmps)=true:=by simp [Region.wanted,hgd]
 rw [if_pos hw]
 obtain ⟨v',w',hr,h2,h3,h5⟩:=ach base v n xs hown b2 xv m ys hx2 h1 hb hbase o.type
 unfold Oper.wp execOp
 simp only [ho,resolve,invoke,builtin,Sem.run_bind,Sem.run_pure,Result.andThen_ok,List.map_toArray,List.map_cons,List.map_nil,hs,hx,hr]
 exact h v' w' h2 h3 h5
structure NX (W:World) (A:Nat->Nat) (l:List Tv) (nx:Value) (F:List Tv) (fv:Value) (w':World):Prop where
 v:mj W A l nx w'
 o:w'.ownsRow 0 159 1 fv F.length (F.map (dM A))
 n:∀k,nx.ownBlock=some k->fv.ownBlock≠some k
theorem NW (A:Nat->Nat) (l:List Tv):∀u ∈ l.map (dM A),u.oneCell'=true:=λ u hu=>by
 obtain ⟨c,_,rfl⟩:=List.mem_map.1 hu
 rfl
theorem mj.keep {W w w':World} {A:Nat->Nat} {l:List Tv} {nx:Value} (h:mj W A l nx w) (k:ak w w'):mj W A l nx w':=⟨h.f.trans k,aW h.o k (λ_ _ x=>x)⟩
theorem NX.keep {W w w':World} {A:Nat->Nat} {l F:List Tv} {nx fv:Value} (h:NX W A l nx F fv w) (k:ak w w'):NX W A l nx F fv w' :=
 ⟨h.v.keep k,aW h.o k (λ_ _ x=>x),h.n⟩
theorem NX.app {W w w':World} {A:Nat->Nat} {l m F:List Tv} {nx fv nv:Value} (h:NX W A l nx F fv w) (ho:w'.ownsRow W.heap.size 159 1 nv (l.length+m.length) (l.map (dM A)++m.map (dM A))) (hg:w.grownBy w' nx.ownBlock) (ha:nv.ownBlock=nx.ownBlock\/nv.ownBlock=some w.heap.size):NX W A (l++m) nv F fv w':=by
 refine ⟨⟨h.v.f.grown hg (λ q hq=>Or.inl (h.v.o.lt q hq).1),?_⟩,?_,λ k hk he=>?_⟩
 ·rw [List.length_append,List.map_append]; exact ho
 ·exact bO h.o (λ k hk=>hg.block k (h.o.lt k hk).2 (λ e=>h.n k e.symm hk))
 rcases ha with y | y
 ·exact h.n k (y▸hk) he
 have e:w.heap.size=k:=Option.some.inj (y.symm.trans hk)
 have:=(h.o.lt k he).2
 omega
theorem Tm.keep {w w':World} {A:Nat->Nat} {D:Nat->Prop} {hi:Nat} {S:Tv->Prop} (h:Tm w A D hi S) (hD:∀k,D k->k<w.heap.size) (k:ak w w'):Tm w' A D hi S :=
 ⟨h.KH,λ u hu=>RT.keep (λ q hq=>k.block q (hD q hq) id) _ _ (h.rt u hu),h.len⟩
theorem Tm.ws {w:World} {A:Nat->Nat} {D:Nat->Prop} {hi:Nat} {S:Tv->Prop} (h:Tm w A D hi S) {u:Tv} (hu:S u):u.ws.length<=4000000:=by
 have h1:=oz 9 u.ws (λ c hc=>(RT.kids (n:=9) (h.rt u hu) hc).one)
 have h2:=h.len u hu
 have e:(au 10 u).length=1+(u.ws.flatMap (au 9)).length:=by simp only [au,List.length_cons]; omega
 omega
structure NE (w:World) (A:Nat->Nat) (D:Nat->Prop) (hi:Nat) (S:Tv->Prop) (sl:Value) (gs:List Sg):Prop where
 tr:Tm w A D hi S
 sg:rA w sl gs
 dl:∀k,D k->k<w.heap.size
theorem NE.keep {w w':World} {A:Nat->Nat} {D:Nat->Prop} {hi:Nat} {S:Tv->Prop} {sl:Value} {gs:List Sg} (h:NE w A D hi S sl gs) (k:ak w w'):NE w' A D hi S sl gs :=
 ⟨h.tr.keep h.dl k,h.sg.keep k,λ q hq=>Nat.lt_of_lt_of_le (h.dl q hq) k.size⟩
def pJ (g:Sg) (u:Tv):List Tv:=if g.deep=true then au 10 u else [u]
theorem Ka (g:Sg) (u:Tv):dr g u=(pJ g u).flatMap (fC g.l):=by
 unfold dr pJ
 split
 ·rfl
 simp
theorem oZ:∀(gs:List Sg) (g:Sg) (l:List Tv),aI (gs++[g]) l=(aI gs l).flatMap (dr g)
 | [],_,_=>rfl
 | x::r,g,l=>oZ r g (l.flatMap (dr x))
theorem o7 (gs:List Sg) (l:List Tv) {j:Nat} (h:j<gs.length):aI (gs.take (j+1)) l=(aI (gs.take j) l).flatMap (dr gs[j]):=by
 rw [List.take_succ_eq_append_getElem h,oZ]
theorem vG {α β:Type} (f:α->List β) (l:List α) {k:Nat} (h:k<l.length):(l.take (k+1)).flatMap f=(l.take k).flatMap f++f l[k]:=by
 rw [List.take_succ_eq_append_getElem h,List.flatMap_append]
 simp
theorem jY {w:World} {p:Addr} {v:Value} (h:w.cell? p=some v):p.block<w.heap.size:=by
 unfold World.cell? at h
 cases hb:w.heap[p.block]? with
 | none=>rw [hb] at h; simp at h
 | some o=>exact bH hb
structure B3 (w:World) (a b c:Nat) (w':World):Prop where
 a:w'.heap[a]?=w.heap[a]?
 b:w'.heap[b]?=w.heap[b]?
 c:w'.heap[c]?=w.heap[c]?
theorem B3.cell {w w':World} {a b c:Nat} (h:B3 w a b c w') (p:Addr) (hp:p.block=a\/p.block=b\/p.block=c):w'.cell? p=w.cell? p:=by
 refine World.cell?_of_block (w:=w) ?_
 rcases hp with e | e | e<;>rw [e]
 ·exact h.a
 ·exact h.b
 exact h.c
structure TKP (w0 w:World) (A:Nat->Nat) (l tk F:List Tv) (nx fv sv:Value) (a b c:Nat) (w':World):Prop where
 x:NX w0 A l nx F fv w'
 o:w'.ownsRow 0 159 1 sv tk.length (tk.map (dM A))
 b:B3 w a b c w'
end Go.Proofs.YtcbadebjpogmlaaGreatDoor
