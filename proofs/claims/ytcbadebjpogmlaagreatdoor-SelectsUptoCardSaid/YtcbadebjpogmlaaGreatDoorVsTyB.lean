import Derived.Test.YtcbadebjpogmlaaGreatDoorVsTxU
import Derived.Lib.Strings
import Derived.Test.YtcbadebjpogmlaaGreatDoorVsVa
import Derived.Deep.Cut
set_option maxHeartbeats 8000000
set_option maxRecDepth 100000
namespace Go.Proofs.YtcbadebjpogmlaaGreatDoor
open Go.RowKit Tr
def MT (s:eO):List Value:=[.string (sb s.name),.int .i64 s.n,.bool s.word]
def dV (l:List eO):List Value:=l.flatMap MT
theorem k9 (l:List eO):∀(k i:Nat) (h:k<l.length),i<3->(dV l)[k * 3+i]?=(MT l[k])[i]?:=by
 induction l with
 | nil=>intro k i h; simp at h
 | cons a r ih =>
  intro k i h hi
  have e:dV (a::r)=(MT a)++dV r:=rfl
  rw [e]
  have hl:(MT a).length=3:=rfl
  cases k with
  | zero=>rw [List.getElem?_append_left (by omega)]; simp
  | succ k =>
   rw [List.getElem?_append_right (by omega)]
   rw [show (k+1) * 3+i - (MT a).length=k * 3+i from by omega]
   exact ih k i (by simpa using h) hi
def kH (A:Nat->Nat) (o:Option Tv):Value:=match o with
 | none=>.pointer none
 | some t=>dM A t
theorem ug (v:Tv) (st:eO):bE v st 0=none:=by
 unfold bE idx
 split
 ·split<;>simp
 split
 ·split<;>simp
 rfl
theorem uh {v:Tv} {st:eO} {k:Nat} (hk:k<v.ws.length) (h:(st.word=true->v.d.kind=5->(v.ws[k]).d.name=st.name->bE v st k≠none)/\(st.word=false->v.d.kind=4->(k:Int)≠(if st.n<0 then st.n+v.ws.length else st.n))):bE v st (k+1)=bE v st k:=by
 unfold bE at *
 split
 ·rename_i hw
  rw [if_pos hw] at h
  split
  ·rename_i h5
   rw [if_pos h5] at h
   rw [List.take_succ_eq_append_getElem hk,List.find?_append]
   cases hf:(v.ws.take k).find? (λ c=>c.d.name == st.name) with
   | some x=>rfl
   | none =>
    have:¬(v.ws[k]).d.name=st.name:=λ e=>(h.1 hw h5 e) hf
    simp [this]
  rfl
 rename_i hw
 split
 ·rename_i h4
  have hne:=h.2 (by simpa using hw) h4
  clear h
  generalize (if st.n<0 then st.n+(v.ws.length:Int) else st.n)=m at *
  unfold idx
  split
  ·rfl
  rename_i hn
  rw [List.getElem?_take,List.getElem?_take]
  by_cases h1:m.toNat<k
  ·rw [if_pos (by omega),if_pos h1]
  rw [if_neg (by omega),if_neg h1]
 rfl
theorem yN {v:Tv} {st:eO} {k:Nat} (hk:k<v.ws.length) (h:(st.word=true/\v.d.kind=5/\(v.ws[k]).d.name=st.name/\bE v st k=none)\/(st.word=false/\v.d.kind=4/\(k:Int)=(if st.n<0 then st.n+v.ws.length else st.n))):bE v st (k+1)=some v.ws[k]:=by
 unfold bE at *
 rcases h with ⟨hw,h5,he,hn⟩ | ⟨hw,h4,he⟩
 ·rw [if_pos hw,if_pos h5] at hn ⊢
  rw [List.take_succ_eq_append_getElem hk,List.find?_append,hn]
  simp [he]
 rw [if_neg (by rw [hw]; decide),if_pos h4]
 unfold idx
 rw [<-he,if_neg (by omega)]
 simp [hk]
theorem rK {v:Tv} {st:eO} {k:Nat} {x:Tv} (h:bE v st k=some x):x ∈ v.ws:=by
 unfold bE at h
 split at h
 ·split at h
  ·exact List.mem_of_mem_take (List.mem_of_find?_eq_some h)
  cases h
 split at h
 ·generalize (if st.n<0 then st.n+(v.ws.length:Int) else st.n)=m at *
  unfold idx at h
  by_cases hm:m<0
  ·rw [if_pos hm] at h; cases h
  rw [if_neg hm] at h; exact List.mem_of_mem_take (List.mem_of_getElem? h)
 cases h
theorem EC {w:World} {base:Nat} {e:TypeId} {sz:Nat} {v:Value} {n:Nat} {xs:List Value} (h:w.ownsRow base e sz v n xs):n<=9223372036854775807:=by
 rcases h.2 with ⟨_,x⟩ | ⟨_,cap,_,_,_,_,h1,h2,_⟩
 ·omega
 unfold maxLen at h2; omega
theorem NP {A:Nat->Nat} {D:Nat->Prop} {hi n:Nat} {t:Tv} {w:World} {B:Nat} {sl:Value} {l:List eO} (h:RT w A D hi n t) (hl:w.ownsRow B 292 3 sl l.length (dV l)) (jT:l.length<=200) (XU:∀st ∈ l,-1000<st.n/\st.n<1000) :
 Calls Tryz.prog 216 #[.pointer (some ⟨A t.d.ai,0,none⟩),sl] w λ r w'=>r=.returned (kH A (aS t l))/\∃k,w'=w.drewN k:=by
 obtain ⟨l0,lcp,rfl⟩:=ah hl
 have HR:=aa h
 have HL:=aa hl
 have wR:=aa XU
 clear h hl XU
 go_enter Tryz.func216,Tryz.ntmps216
 go_wp2
 go_loopw [0,5] (λ v i wr=>∃(j:Nat) (u:Tv) (m q:Nat),j<=l.length/\i=.int .i64 j/\v=.pointer (some ⟨A u.d.ai,0,none⟩)/\RT w A D hi m u/\aS u (l.drop j)=aS t l/\wr=w.drewN q) (λ_ i _=>l.length - (intOf i).toNat)
 case atStart=>exact ⟨0,t,n,0,Nat.zero_le _,rfl,rfl,HR.out,rfl,rfl⟩
 case round =>
  obtain ⟨j,u,m,q,hj,rfl,rfl,hu,PR,rfl⟩:=hrel
  have HU:=aa hu
  have HLD:=aa PR
  clear hu PR
  by_cases hlt:j<l.length
  ·have hji:(j:Int)<(l.length:Int):=by omega
   obtain ⟨g,cap,hv,_,_⟩:=HL.out.form (by omega)
   simp only [Value.slice.injEq,true_and] at hv
   obtain ⟨rfl,rfl⟩:=hv
   have k0:=(HL.out.cellAt (j * 3+0) (by omega)).trans (k9 l j 0 hlt (by omega))
   have k1:=(HL.out.cellAt (j * 3+1) (by omega)).trans (k9 l j 1 hlt (by omega))
   have k2:=(HL.out.cellAt (j * 3+2) (by omega)).trans (k9 l j 2 hlt (by omega))
   have hdr:l.drop j=l[j]::l.drop (j+1):=List.drop_eq_getElem_cons hlt
   have hst:=wR.out l[j] (List.getElem_mem hlt)
   have HDR:=aa hdr
   generalize l[j]=st at *
   simp only [MT,List.getElem?_cons_zero,List.getElem?_cons_succ,Nat.add_zero] at k0 k1 k2
   obtain ⟨m',rfl⟩:∃m',m=m'+1:=by
    cases m with
    | zero=>exact absurd HU.out id
    | succ m=>exact ⟨m,rfl⟩
   obtain ⟨svu,hV⟩:=HU.out.vc
   obtain ⟨u0,ucp,rfl⟩:=ah hV.o
   have HVC:=aa hV
   have y0:w.cell? ⟨A u.d.ai,0,none⟩=some (.int .i64 (u.d.kind:Nat)):=hV.b.cell 0
   have y8:w.cell? ⟨A u.d.ai,8,none⟩=some (.slice u0 u.ws.length ucp):=hV.b.cell 8
   have hul:u.ws.length<=9223372036854775807:=EC hV.o
   obtain ⟨ab8,ab9⟩:=hst
   obtain ⟨nn,hnn⟩:∃nn,nn=(if st.n<0 then st.n+(u.ws.length:Int) else st.n):=⟨_,rfl⟩
   have Cv:=aa hnn
   clear hV hdr
   by_cases hneg:st.n<0
   ·have J8:st.n+(u.ws.length:Int)=nn:=by rw [hnn,if_pos hneg]
    clear hnn
    go_wp2
    go_loopw [6,8] (λ x kk wr=>∃(k q':Nat),k<=u.ws.length/\kk=.int .i64 k/\x=kH A (bE u st k)/\wr=w.drewN q') (λ_ kk _=>u.ws.length - (intOf kk).toNat)
    case atStart=>exact ⟨0,q,Nat.zero_le _,rfl,by rw [ug]; rfl,rfl⟩
    case round =>
     obtain ⟨k,q',hk,rfl,rfl,rfl⟩:=hrel
     try clear J8
     by_cases hkl:k<u.ws.length
     ·have hki:(k:Int)<(u.ws.length:Int):=by omega
      obtain ⟨g',cap',XV,hcell⟩:=HVC.out.at_ hkl
      simp only [Value.slice.injEq,true_and] at XV
      obtain ⟨rfl,rfl⟩:=XV
      have iZ:=HU.out.kids (List.getElem_mem hkl)
      obtain ⟨m2,rfl⟩:∃m2,m'=m2+1:=by
       cases m' with
       | zero=>exact absurd iZ id
       | succ m=>exact ⟨m,rfl⟩
      obtain ⟨Fe,PV⟩:=iZ.vc
      have z3:w.cell? ⟨A (u.ws[k]).d.ai,3,none⟩=some (.string (sb (u.ws[k]).d.name)):=PV.b.cell 3
      have hsame:=uh (v:=u) (st:=st) hkl
      have hnew:=yN (v:=u) (st:=st) hkl
      rw [<-Cv.out] at hsame hnew
      generalize u.ws[k]=c at *
      obtain ⟨NA,Tj⟩:∃NA,NA=sb c.d.name:=⟨_,rfl⟩
      obtain ⟨NB,Tk⟩:∃NB,NB=sb st.name:=⟨_,rfl⟩
      rw [<-Tj] at z3
      rw [<-Tk] at k0
      have dX:(NA.toList == NB.toList)=decide (c.d.name=st.name):=by
       rw [Tj,Tk,Lib.toList_data,Lib.toList_data,Bool.eq_iff_iff]
       simp
      obtain ⟨po,sP⟩:∃po,po=bE u st k:=⟨_,rfl⟩
      rw [<-sP] at hsame hnew ⊢
      clear iZ PV Tj Tk sP
      cases hw:st.word with
      | true =>
       rw [hw] at k2
       by_cases h5:u.d.kind=5
       ·rw [h5] at y0
        by_cases hnm:c.d.name=st.name
        ·have hq:(NA.toList == NB.toList)=true:=by rw [dX]; simpa using hnm
         cases po with
         | none =>
          rw [show kH A none=.pointer none from rfl]
          have PN:=aa (hnew (Or.inl ⟨hw,h5,hnm,rfl⟩))
          clear hsame hnew dX hnm
          go_wp2
          go_quiet (fail)
          rw [aJ]
          go_wp2
          try (go_quiet (fail); rw [aJ]; go_wp2)
          go_roundw
          case rel=>exact ⟨k+1,_,by omega,by go_num,(by rw [PN.out]; try rfl),rfl⟩
          case measure=>simp [intOf]; omega
         | some x =>
          rw [show kH A (some x)=.pointer (some ⟨A x.d.ai,0,none⟩) from rfl]
          have PN:=aa (hsame ⟨λ_ _ _=>by simp,λ h=>by rw [hw] at h; cases h⟩)
          clear hsame hnew dX hnm
          go_wp2
          go_quiet (fail)
          rw [aJ]
          go_wp2
          try (go_quiet (fail); rw [aJ]; go_wp2)
          go_roundw
          case rel=>exact ⟨k+1,_,by omega,by go_num,(by rw [PN.out]; try rfl),rfl⟩
          case measure=>simp [intOf]; omega
        have hq:(NA.toList == NB.toList)=false:=by rw [dX]; simpa using hnm
        have PN:=aa (hsame ⟨λ_ _ e=>absurd e hnm,λ h=>by rw [hw] at h; cases h⟩)
        clear hsame hnew dX hnm
        cases po
        ·go_wp2
         go_quiet (fail)
         rw [aJ]
         go_wp2
         try (go_quiet (fail); rw [aJ]; go_wp2)
         go_roundw
         case rel=>exact ⟨k+1,_,by omega,by go_num,(by rw [PN.out]; try rfl),rfl⟩
         case measure=>simp [intOf]; omega
        go_wp2
        go_quiet (fail)
        rw [aJ]
        go_wp2
        try (go_quiet (fail); rw [aJ]; go_wp2)
        go_roundw
        case rel=>exact ⟨k+1,_,by omega,by go_num,(by rw [PN.out]; try rfl),rfl⟩
        case measure=>simp [intOf]; omega
       have h5i:((u.d.kind:Int) == 5)=false:=iQ h5
       have PN:=aa (hsame ⟨λ_ e=>absurd e h5,λ h=>by rw [hw] at h; cases h⟩)
       clear hsame hnew dX
       cases po
       ·go_wp2
        go_quiet (fail)
        rw [aJ]
        go_wp2
        try (go_quiet (fail); rw [aJ]; go_wp2)
        go_roundw
        case rel=>exact ⟨k+1,_,by omega,by go_num,(by rw [PN.out]; try rfl),rfl⟩
        case measure=>simp [intOf]; omega
       go_wp2
       go_quiet (fail)
       rw [aJ]
       go_wp2
       try (go_quiet (fail); rw [aJ]; go_wp2)
       go_roundw
       case rel=>exact ⟨k+1,_,by omega,by go_num,(by rw [PN.out]; try rfl),rfl⟩
       case measure=>simp [intOf]; omega
      | false =>
       rw [hw] at k2
       by_cases h4:u.d.kind=4
       ·rw [h4] at y0
        by_cases hkn:(k:Int)=nn
        ·have PN:=aa (hnew (Or.inr ⟨hw,h4,hkn⟩))
         clear hsame hnew dX Cv
         subst hkn
         cases po
         ·go_wp2
          go_quiet (fail)
          rw [aJ]
          go_wp2
          try (go_quiet (fail); rw [aJ]; go_wp2)
          go_roundw
          case rel=>exact ⟨k+1,_,by omega,by go_num,(by rw [PN.out]; try rfl),rfl⟩
          case measure=>simp [intOf]; omega
         go_wp2
         go_quiet (fail)
         rw [aJ]
         go_wp2
         try (go_quiet (fail); rw [aJ]; go_wp2)
         go_roundw
         case rel=>exact ⟨k+1,_,by omega,by go_num,(by rw [PN.out]; try rfl),rfl⟩
         case measure=>simp [intOf]; omega
        have PN:=aa (hsame ⟨(λ h=>by rw [hw] at h; cases h),λ_ _=>hkn⟩)
        have hkb:((k:Int) == nn)=false:=beq_eq_false_iff_ne.2 hkn
        clear hsame hnew dX
        cases po
        ·go_wp2
         go_quiet (fail)
         rw [aJ]
         go_wp2
         try (go_quiet (fail); rw [aJ]; go_wp2)
         go_roundw
         case rel=>exact ⟨k+1,_,by omega,by go_num,(by rw [PN.out]; try rfl),rfl⟩
         case measure=>simp [intOf]; omega
        go_wp2
        go_quiet (fail)
        rw [aJ]
        go_wp2
        try (go_quiet (fail); rw [aJ]; go_wp2)
        go_roundw
        case rel=>exact ⟨k+1,_,by omega,by go_num,(by rw [PN.out]; try rfl),rfl⟩
        case measure=>simp [intOf]; omega
       have h4i:((u.d.kind:Int) == 4)=false:=iQ h4
       have PN:=aa (hsame ⟨(λ h=>by rw [hw] at h; cases h),λ_ e=>absurd e h4⟩)
       clear hsame hnew dX
       cases po
       ·go_wp2
        go_quiet (fail)
        rw [aJ]
        go_wp2
        try (go_quiet (fail); rw [aJ]; go_wp2)
        go_roundw
        case rel=>exact ⟨k+1,_,by omega,by go_num,(by rw [PN.out]; try rfl),rfl⟩
        case measure=>simp [intOf]; omega
       go_wp2
       go_quiet (fail)
       rw [aJ]
       go_wp2
       try (go_quiet (fail); rw [aJ]; go_wp2)
       go_roundw
       case rel=>exact ⟨k+1,_,by omega,by go_num,(by rw [PN.out]; try rfl),rfl⟩
       case measure=>simp [intOf]; omega
     have hki:¬(k:Int)<(u.ws.length:Int):=by omega
     have hkk:k=u.ws.length:=by omega
     have uQ:aS t l=(bE u st k).bind (λ x=>aS x (l.drop (j+1))):=by
      rw [<-HLD.out,HDR.out,hkk]; rfl
     have AQ:=aa uQ
     have hmem:∀x,bE u st k=some x->x ∈ u.ws:=λ x hx=>rK hx
     obtain ⟨po,sP⟩:∃po,po=bE u st k:=⟨_,rfl⟩
     rw [<-sP] at AQ hmem ⊢
     clear uQ sP
     cases po with
     | none =>
      rw [show kH A none=.pointer none from rfl]
      go_wp2
      go_ret
      exact ⟨by rw [AQ.out]; rfl,_,rfl⟩
     | some x =>
      rw [show kH A (some x)=.pointer (some ⟨A x.d.ai,0,none⟩) from rfl]
      have HX:=aa (HU.out.kids (hmem x rfl))
      clear hmem
      go_wp2
      go_roundw
      case rel=>exact ⟨j+1,x,m',_,by omega,by go_num,rfl,HX.out,by rw [AQ.out]; rfl,rfl⟩
      case measure=>simp [intOf]; omega
   have J8:nn=st.n:=by rw [hnn,if_neg hneg]
   rw [<-J8] at k1 hneg ab8 ab9
   clear hnn J8
   go_wp2
   go_loopw [6,8] (λ x kk wr=>∃(k q':Nat),k<=u.ws.length/\kk=.int .i64 k/\x=kH A (bE u st k)/\wr=w.drewN q') (λ_ kk _=>u.ws.length - (intOf kk).toNat)
   case atStart=>exact ⟨0,q,Nat.zero_le _,rfl,by rw [ug]; rfl,rfl⟩
   case round =>
    obtain ⟨k,q',hk,rfl,rfl,rfl⟩:=hrel
    try clear J8
    by_cases hkl:k<u.ws.length
    ·have hki:(k:Int)<(u.ws.length:Int):=by omega
     obtain ⟨g',cap',XV,hcell⟩:=HVC.out.at_ hkl
     simp only [Value.slice.injEq,true_and] at XV
     obtain ⟨rfl,rfl⟩:=XV
     have iZ:=HU.out.kids (List.getElem_mem hkl)
     obtain ⟨m2,rfl⟩:∃m2,m'=m2+1:=by
      cases m' with
      | zero=>exact absurd iZ id
      | succ m=>exact ⟨m,rfl⟩
     obtain ⟨Fe,PV⟩:=iZ.vc
     have z3:w.cell? ⟨A (u.ws[k]).d.ai,3,none⟩=some (.string (sb (u.ws[k]).d.name)):=PV.b.cell 3
     have hsame:=uh (v:=u) (st:=st) hkl
     have hnew:=yN (v:=u) (st:=st) hkl
     rw [<-Cv.out] at hsame hnew
     generalize u.ws[k]=c at *
     obtain ⟨NA,Tj⟩:∃NA,NA=sb c.d.name:=⟨_,rfl⟩
     obtain ⟨NB,Tk⟩:∃NB,NB=sb st.name:=⟨_,rfl⟩
     rw [<-Tj] at z3
     rw [<-Tk] at k0
     have dX:(NA.toList == NB.toList)=decide (c.d.name=st.name):=by
      rw [Tj,Tk,Lib.toList_data,Lib.toList_data,Bool.eq_iff_iff]
      simp
     obtain ⟨po,sP⟩:∃po,po=bE u st k:=⟨_,rfl⟩
     rw [<-sP] at hsame hnew ⊢
     clear iZ PV Tj Tk sP
     cases hw:st.word with
     | true =>
      rw [hw] at k2
      by_cases h5:u.d.kind=5
      ·rw [h5] at y0
       by_cases hnm:c.d.name=st.name
       ·have hq:(NA.toList == NB.toList)=true:=by rw [dX]; simpa using hnm
        cases po with
        | none =>
         rw [show kH A none=.pointer none from rfl]
         have PN:=aa (hnew (Or.inl ⟨hw,h5,hnm,rfl⟩))
         clear hsame hnew dX hnm
         go_wp2
         go_quiet (fail)
         rw [aJ]
         go_wp2
         try (go_quiet (fail); rw [aJ]; go_wp2)
         go_roundw
         case rel=>exact ⟨k+1,_,by omega,by go_num,(by rw [PN.out]; try rfl),rfl⟩
         case measure=>simp [intOf]; omega
        | some x =>
         rw [show kH A (some x)=.pointer (some ⟨A x.d.ai,0,none⟩) from rfl]
         have PN:=aa (hsame ⟨λ_ _ _=>by simp,λ h=>by rw [hw] at h; cases h⟩)
         clear hsame hnew dX hnm
         go_wp2
         go_quiet (fail)
         rw [aJ]
         go_wp2
         try (go_quiet (fail); rw [aJ]; go_wp2)
         go_roundw
         case rel=>exact ⟨k+1,_,by omega,by go_num,(by rw [PN.out]; try rfl),rfl⟩
         case measure=>simp [intOf]; omega
       have hq:(NA.toList == NB.toList)=false:=by rw [dX]; simpa using hnm
       have PN:=aa (hsame ⟨λ_ _ e=>absurd e hnm,λ h=>by rw [hw] at h; cases h⟩)
       clear hsame hnew dX hnm
       cases po
       ·go_wp2
        go_quiet (fail)
        rw [aJ]
        go_wp2
        try (go_quiet (fail); rw [aJ]; go_wp2)
        go_roundw
        case rel=>exact ⟨k+1,_,by omega,by go_num,(by rw [PN.out]; try rfl),rfl⟩
        case measure=>simp [intOf]; omega
       go_wp2
       go_quiet (fail)
       rw [aJ]
       go_wp2
       try (go_quiet (fail); rw [aJ]; go_wp2)
       go_roundw
       case rel=>exact ⟨k+1,_,by omega,by go_num,(by rw [PN.out]; try rfl),rfl⟩
       case measure=>simp [intOf]; omega
      have h5i:((u.d.kind:Int) == 5)=false:=iQ h5
      have PN:=aa (hsame ⟨λ_ e=>absurd e h5,λ h=>by rw [hw] at h; cases h⟩)
      clear hsame hnew dX
      cases po
      ·go_wp2
       go_quiet (fail)
       rw [aJ]
       go_wp2
       try (go_quiet (fail); rw [aJ]; go_wp2)
       go_roundw
       case rel=>exact ⟨k+1,_,by omega,by go_num,(by rw [PN.out]; try rfl),rfl⟩
       case measure=>simp [intOf]; omega
      go_wp2
      go_quiet (fail)
      rw [aJ]
      go_wp2
      try (go_quiet (fail); rw [aJ]; go_wp2)
      go_roundw
      case rel=>exact ⟨k+1,_,by omega,by go_num,(by rw [PN.out]; try rfl),rfl⟩
      case measure=>simp [intOf]; omega
     | false =>
      rw [hw] at k2
      by_cases h4:u.d.kind=4
      ·rw [h4] at y0
       by_cases hkn:(k:Int)=nn
       ·have PN:=aa (hnew (Or.inr ⟨hw,h4,hkn⟩))
        clear hsame hnew dX Cv
        subst hkn
        cases po
        ·go_wp2
         go_quiet (fail)
         rw [aJ]
         go_wp2
         try (go_quiet (fail); rw [aJ]; go_wp2)
         go_roundw
         case rel=>exact ⟨k+1,_,by omega,by go_num,(by rw [PN.out]; try rfl),rfl⟩
         case measure=>simp [intOf]; omega
        go_wp2
        go_quiet (fail)
        rw [aJ]
        go_wp2
        try (go_quiet (fail); rw [aJ]; go_wp2)
        go_roundw
        case rel=>exact ⟨k+1,_,by omega,by go_num,(by rw [PN.out]; try rfl),rfl⟩
        case measure=>simp [intOf]; omega
       have PN:=aa (hsame ⟨(λ h=>by rw [hw] at h; cases h),λ_ _=>hkn⟩)
       have hkb:((k:Int) == nn)=false:=beq_eq_false_iff_ne.2 hkn
       clear hsame hnew dX
       cases po
       ·go_wp2
        go_quiet (fail)
        rw [aJ]
        go_wp2
        try (go_quiet (fail); rw [aJ]; go_wp2)
        go_roundw
        case rel=>exact ⟨k+1,_,by omega,by go_num,(by rw [PN.out]; try rfl),rfl⟩
        case measure=>simp [intOf]; omega
       go_wp2
       go_quiet (fail)
       rw [aJ]
       go_wp2
       try (go_quiet (fail); rw [aJ]; go_wp2)
       go_roundw
       case rel=>exact ⟨k+1,_,by omega,by go_num,(by rw [PN.out]; try rfl),rfl⟩
       case measure=>simp [intOf]; omega
      have h4i:((u.d.kind:Int) == 4)=false:=iQ h4
      have PN:=aa (hsame ⟨(λ h=>by rw [hw] at h; cases h),λ_ e=>absurd e h4⟩)
      clear hsame hnew dX
      cases po
      ·go_wp2
       go_quiet (fail)
       rw [aJ]
       go_wp2
       try (go_quiet (fail); rw [aJ]; go_wp2)
       go_roundw
       case rel=>exact ⟨k+1,_,by omega,by go_num,(by rw [PN.out]; try rfl),rfl⟩
       case measure=>simp [intOf]; omega
      go_wp2
      go_quiet (fail)
      rw [aJ]
      go_wp2
      try (go_quiet (fail); rw [aJ]; go_wp2)
      go_roundw
      case rel=>exact ⟨k+1,_,by omega,by go_num,(by rw [PN.out]; try rfl),rfl⟩
      case measure=>simp [intOf]; omega
    have hki:¬(k:Int)<(u.ws.length:Int):=by omega
    have hkk:k=u.ws.length:=by omega
    have uQ:aS t l=(bE u st k).bind (λ x=>aS x (l.drop (j+1))):=by
     rw [<-HLD.out,HDR.out,hkk]; rfl
    have AQ:=aa uQ
    have hmem:∀x,bE u st k=some x->x ∈ u.ws:=λ x hx=>rK hx
    obtain ⟨po,sP⟩:∃po,po=bE u st k:=⟨_,rfl⟩
    rw [<-sP] at AQ hmem ⊢
    clear uQ sP
    cases po with
    | none =>
     rw [show kH A none=.pointer none from rfl]
     go_wp2
     go_ret
     exact ⟨by rw [AQ.out]; rfl,_,rfl⟩
    | some x =>
     rw [show kH A (some x)=.pointer (some ⟨A x.d.ai,0,none⟩) from rfl]
     have HX:=aa (HU.out.kids (hmem x rfl))
     clear hmem
     go_wp2
     go_roundw
     case rel=>exact ⟨j+1,x,m',_,by omega,by go_num,rfl,HX.out,by rw [AQ.out]; rfl,rfl⟩
     case measure=>simp [intOf]; omega
  have hjl:j=l.length:=by omega
  have hji:¬(j:Int)<(l.length:Int):=by omega
  have e:aS t l=some u:=by rw [<-HLD.out,hjl,List.drop_length]; rfl
  have E:=aa e
  clear e
  go_wp2
  go_ret
  exact ⟨by rw [E.out]; rfl,q,rfl⟩
theorem J9 {R:Ending->World->Prop} {a:Act} {W:World} {g:Nat} {x0 x1 x2:Value} (hd:a.defers=[]) (ha:a.tmps[2]?.getD undef=.pointer (some ⟨g,0,none⟩))
 (hB:ay W g #[x0,x1,x2] 42) (hR:R (.returned (.agg #[x0,x1,x2])) W):bodyPost Tryz.prog Tryz.f96 R .ret a W:=by
 have k0:=hB.cell 0
 have k1:=hB.cell 1
 have k2:=hB.cell 2
 simp at k0 k1 k2
 refine bodyPost_ret (v:=.agg #[x0,x1,x2]) ?_ hd hR
 simp [results,Tryz.results96,go_sem,ha,k0,k1,k2]
theorem Tl {w:World} {A:Nat->Nat} {t:Tv} {sv:Value} (h:VC w A t sv) :
 Calls Tryz.prog 96 #[.pointer (some ⟨A t.d.ai,0,none⟩)] w λ r w'=>r=.returned (.agg #[.string (sb t.d.path),.int .i64 (t.d.ai:Nat),.int .i64 (t.d.to:Nat)])/\ak w w':=by
 have c4:w.cell? ⟨A t.d.ai,4,none⟩=some (.string (sb t.d.path)):=h.b.cell 4
 have c5:w.cell? ⟨A t.d.ai,5,none⟩=some (.int .i64 (t.d.ai:Nat)):=h.b.cell 5
 have c6:w.cell? ⟨A t.d.ai,6,none⟩=some (.int .i64 (t.d.to:Nat)):=h.b.cell 6
 have hlt:A t.d.ai<w.heap.size:=h.b.lt
 clear h
 go_enter Tryz.func96,Tryz.ntmps96
 go_wp2
 go_region
 all_goals
  go_wp2
  refine J9 rfl rfl (ay.new w #[.string (sb t.d.path),.int .i64 (t.d.ai:Nat),.int .i64 (t.d.to:Nat)] 42) ?_
  exact ⟨rfl,((Fr.refl _ w).alloc _).drew⟩
def HSt (w:World) (D:Nat->Prop) (sl:Value) (l:List eO):Prop:=(∃B,w.ownsRow B 292 3 sl l.length (dV l))/\l.length<=200/\(∀st ∈ l,-1000<st.n/\st.n<1000)/\∀k,sl.ownBlock=some k->D k
def ju (w:World) (A:Nat->Nat) (b:Nat) (t:Tv) (m:Bool):Prop:=∀q,Calls Tryz.prog 168 #[.pointer (some ⟨b,0,none⟩),.pointer (some ⟨A t.d.ai,0,none⟩)] (w.drewN q) λ r w'=>r=.returned (.bool m)/\∃k,w'=w.drewN k
theorem MZ {w:World} {A:Nat->Nat} {b ba:Nat} {mx:Bool} {t:Tv} {pb sl wp:Value} (hb:ay w b #[.int .i64 13,.pointer (some ⟨ba,0,none⟩),pb,sl,wp] 249) (h:ju w A ba t mx):ju w A b t (!mx):=by
 intro q
 have c0:w.cell? ⟨b,0,none⟩=some (.int .i64 13):=hb.cell 0
 have c1:w.cell? ⟨b,1,none⟩=some (.pointer (some ⟨ba,0,none⟩)):=hb.cell 1
 unfold ju at h
 have H:=aa h
 clear hb h
 go_enter Tryz.func168,Tryz.ntmps168
 go_wp2_with fail
 refine (H.out _).mono ?_
 rintro r w1 ⟨rfl,k1,rfl⟩
 go_wp2
 go_ret
 exact ⟨rfl,k1,rfl⟩
theorem SD {w:World} {A:Nat->Nat} {b ba bb:Nat} {mx my:Bool} {t:Tv} {sl wp:Value} (hb:ay w b #[.int .i64 11,.pointer (some ⟨ba,0,none⟩),.pointer (some ⟨bb,0,none⟩),sl,wp] 249) (h:ju w A ba t mx) (h2:ju w A bb t my):ju w A b t (mx || my):=by
 intro q
 have c0:w.cell? ⟨b,0,none⟩=some (.int .i64 11):=hb.cell 0
 have c1:w.cell? ⟨b,1,none⟩=some (.pointer (some ⟨ba,0,none⟩)):=hb.cell 1
 have c2:w.cell? ⟨b,2,none⟩=some (.pointer (some ⟨bb,0,none⟩)):=hb.cell 2
 unfold ju at h h2
 have H:=aa h
 have H2:=aa h2
 clear hb h h2
 cases mx
 ·go_enter Tryz.func168,Tryz.ntmps168
  go_wp2_with fail
  refine (H.out _).mono ?_
  rintro r w1 ⟨rfl,k1,rfl⟩
  go_wp2_with fail
  refine (H2.out _).mono ?_
  rintro r w2 ⟨rfl,k2,rfl⟩
  go_wp2
  go_ret
  exact ⟨rfl,k2,rfl⟩
 go_enter Tryz.func168,Tryz.ntmps168
 go_wp2_with fail
 refine (H.out _).mono ?_
 rintro r w1 ⟨rfl,k1,rfl⟩
 go_wp2
 go_ret
 exact ⟨rfl,k1,rfl⟩
theorem M7 {w:World} {A:Nat->Nat} {b ba bb:Nat} {mx my:Bool} {t:Tv} {sl wp:Value} (hb:ay w b #[.int .i64 12,.pointer (some ⟨ba,0,none⟩),.pointer (some ⟨bb,0,none⟩),sl,wp] 249) (h:ju w A ba t mx) (h2:ju w A bb t my):ju w A b t (mx && my):=by
 intro q
 have c0:w.cell? ⟨b,0,none⟩=some (.int .i64 12):=hb.cell 0
 have c1:w.cell? ⟨b,1,none⟩=some (.pointer (some ⟨ba,0,none⟩)):=hb.cell 1
 have c2:w.cell? ⟨b,2,none⟩=some (.pointer (some ⟨bb,0,none⟩)):=hb.cell 2
 unfold ju at h h2
 have H:=aa h
 have H2:=aa h2
 clear hb h h2
 cases mx
 ·go_enter Tryz.func168,Tryz.ntmps168
  go_wp2_with fail
  refine (H.out _).mono ?_
  rintro r w1 ⟨rfl,k1,rfl⟩
  go_wp2
  go_ret
  exact ⟨rfl,k1,rfl⟩
 go_enter Tryz.func168,Tryz.ntmps168
 go_wp2_with fail
 refine (H.out _).mono ?_
 rintro r w1 ⟨rfl,k1,rfl⟩
 go_wp2_with fail
 refine (H2.out _).mono ?_
 rintro r w2 ⟨rfl,k2,rfl⟩
 go_wp2
 go_ret
 exact ⟨rfl,k2,rfl⟩
theorem yO {w:World} {A:Nat->Nat} {D D':Nat->Prop} {hi n:Nat} {t:Tv} {sl:Value} {l:List eO} (h:RT w A D hi n t) (hs:HSt w D' sl l) (q:Nat) :
 Calls Tryz.prog 216 #[.pointer (some ⟨A t.d.ai,0,none⟩),sl] (w.drewN q) λ r w'=>r=.returned (kH A (aS t l))/\∃k,w'=w.drewN k:=by
 obtain ⟨⟨B,h1⟩,h2,h3,_⟩:=hs
 refine (NP (w:=w.drewN q) (RT.keep (w:=w) (w':=w.drewN q) (λ_ _=>rfl) _ _ h) (bO (w:=w) (w':=w.drewN q) h1 (λ_ _=>rfl)) h2 h3).mono ?_
 rintro r w' ⟨e,k,rfl⟩
 exact ⟨e,q+k,aJ _ _ _⟩
theorem Eb {w:World} {A:Nat->Nat} {D D':Nat->Prop} {hi n' b:Nat} {l:List eO} {t:Tv} {pa pb sl wp:Value} (hb:ay w b #[.int .i64 14,pa,pb,sl,wp] 249) (hst:HSt w D' sl l) (ht:RT w A D hi n' t):ju w A b t (aS t l).isSome:=by
 intro q
 have c0:w.cell? ⟨b,0,none⟩=some (.int .i64 14):=hb.cell 0
 have c3:w.cell? ⟨b,3,none⟩=some sl:=hb.cell 3
 have h:=yO ht hst
 obtain ⟨⟨B,h1⟩,_⟩:=hst
 obtain ⟨s0,scp,rfl⟩:=ah h1
 generalize aS t l=o at *
 have H:=aa h
 clear hb h h1 ht
 cases o with
 | none =>
  go_enter Tryz.func168,Tryz.ntmps168
  go_wp2_with fail
  refine (H.out _).mono ?_
  rintro r w1 ⟨rfl,k1,rfl⟩
  rw [show kH A none=.pointer none from rfl]
  go_wp2
  go_ret
  exact ⟨rfl,k1,rfl⟩
 | some x =>
  go_enter Tryz.func168,Tryz.ntmps168
  go_wp2_with fail
  refine (H.out _).mono ?_
  rintro r w1 ⟨rfl,k1,rfl⟩
  rw [show kH A (some x)=.pointer (some ⟨A x.d.ai,0,none⟩) from rfl]
  go_wp2
  go_ret
  exact ⟨rfl,k1,rfl⟩
theorem CP {w:World} {A:Nat->Nat} {D:Nat->Prop} {hi:Nat}:∀(l:List eO) (n:Nat) (t x:Tv),RT w A D hi n t->aS t l=some x->∃m,RT w A D hi (m+1) x
 | [],n,t,x,h,e=>by
  have:t=x:=by simpa [aS] using e
  subst this
  cases n with
  | zero=>exact absurd h id
  | succ n=>exact ⟨n,h⟩
 | st::l,n,t,x,h,e=>by
  simp only [aS] at e
  cases hp:bE t st t.ws.length with
  | none=>rw [hp] at e; cases e
  | some u =>
   rw [hp] at e
   cases n with
   | zero=>exact absurd h id
   | succ n=>exact CP l n u x (h.kids (rK hp)) e
structure KtV (w:World) (wb:Nat) (c:Kt):Prop where
 k:w.cell? ⟨wb,0,none⟩=some (.int .i64 (c.k:Nat))
 n:w.cell? ⟨wb,1,none⟩=some (.int .i64 c.n)
 t:w.cell? ⟨wb,2,none⟩=some (.string (sb c.t))
 ok:1<=c.k/\c.k<=3
theorem PY (a b:List UInt8):(sb a).toList=(sb b).toList↔a=b:=by simp [sb]
def MW (so:Nat) (c:Kt) (o:Option Tv):Bool:=if so=15 then dP c o else if so=16 then !(dP c o) else if so=17 then fy c o else dP c o || fy c o
set_option linter.unusedSimpArgs false
theorem Jv {w:World} {A:Nat->Nat} {D D':Nat->Prop} {hi n' b wb:Nat} {l:List eO} {t:Tv} {pa pb sl:Value} {c:Kt} {so:Nat} (Uc:15<=so/\so<=18) (hb:ay w b #[.int .i64 (so:Nat),pa,pb,sl,.pointer (some ⟨wb,0,none⟩)] 249) (hst:HSt w D' sl l) (hk:KtV w wb c) (ht:RT w A D hi n' t):ju w A b t (MW so c (aS t l)):=by
 intro q
 have c0:w.cell? ⟨b,0,none⟩=some (.int .i64 (so:Nat)):=hb.cell 0
 have c3:w.cell? ⟨b,3,none⟩=some sl:=hb.cell 3
 have c4:w.cell? ⟨b,4,none⟩=some (.pointer (some ⟨wb,0,none⟩)):=hb.cell 4
 have h:=yO ht hst
 obtain ⟨⟨B,h1⟩,_⟩:=hst
 obtain ⟨s0,scp,rfl⟩:=ah h1
 obtain ⟨d0,d1,d2,dk⟩:=hk
 have RTX:Hid (∀x,aS t l=some x->∃m,RT w A D hi (m+1) x):=λ x e=>CP l n' t x ht e
 have e11:¬(so:Int)=11:=by omega
 have WC:¬(so:Int)=12:=by omega
 have e13:¬(so:Int)=13:=by omega
 have e14:¬(so:Int)=14:=by omega
 have SO:Hid ((so=15/\(so:Int)=15)\/(so=16/\¬(so:Int)=15/\(so:Int)=16)\/(so=17/\¬(so:Int)=15/\¬(so:Int)=16/\(so:Int)=17)\/(so=18/\¬(so:Int)=15/\¬(so:Int)=16/\¬(so:Int)=17)):=aa (by omega)
 have H:=aa h
 generalize aS t l=o at *
 have FX:Hid (∀x,o=some x->w.cell? ⟨A x.d.ai,0,none⟩=some (.int .i64 (x.d.kind:Nat))/\w.cell? ⟨A x.d.ai,1,none⟩=some (.int .i64 x.d.n)/\w.cell? ⟨A x.d.ai,2,none⟩=some (.string (sb x.d.s)) /\
  dP c o=(decide ((x.d.kind:Int)<4) && ((x.d.kind:Int) == (c.k:Int)) && (x.d.n == c.n) && decide (x.d.s=c.t)) /\
  fy c o=(((x.d.kind:Int) == (c.k:Int)) && ((((x.d.kind:Int) == 1) && decide (x.d.n<c.n)) || (((x.d.kind:Int) == 2) && gG x.d.s c.t)))):=λ x e=>by
  obtain ⟨m,hX⟩:=RTX.out x e
  obtain ⟨sx0,hV⟩:=hX.vc
  subst e
  refine ⟨hV.b.cell 0,hV.b.cell 1,hV.b.cell 2,?_,?_⟩
  ·simp only [dP,Option.any_some]; rw [Bool.eq_iff_iff]; simp; omega
  simp only [fy,Option.any_some]; rw [Bool.eq_iff_iff]; simp
  constructor
  all_goals
   rintro ⟨a,h | h⟩
   ·exact ⟨by omega,Or.inl ⟨by omega,h.2⟩⟩
   exact ⟨by omega,Or.inr ⟨by omega,h.2⟩⟩
 clear hb h h1 ht RTX Uc dk
 go_enter Tryz.func168,Tryz.ntmps168
 go_wp2_with fail
 refine (H.out _).mono ?_
 rintro r w1 ⟨rfl,k1,rfl⟩
 go_upto_region 14 with fail
 go_cut [9] from 72 (λ x wc=>x=.bool (dP c o)/\∃k,wc=w.drewN k)
 case first =>
  clear SO H
  rcases Option.eq_none_or_eq_some o with ho | ⟨x,ho⟩
  ·have HS:Hid (dP c o=false):=by rw [ho]; exact aa rfl
   clear FX
   subst ho
   rw [show kH A none=.pointer none from rfl]
   go_wp2
   go_quiet (fail)
   try go_wp2
   go_meet
   exact ⟨by rw [HS.out],_,by rw [aJ]⟩
  obtain ⟨y0,y1,y2,eS,eL⟩:=FX.out x ho
  clear FX
  subst ho
  rw [show kH A (some x)=.pointer (some ⟨A x.d.ai,0,none⟩) from rfl]
  have g1:decide ((sb x.d.s).toList=(sb c.t).toList)=decide (x.d.s=c.t):=decide_eq_decide.2 (PY _ _)
  have g1b:((sb x.d.s).toList == (sb c.t).toList)=decide (x.d.s=c.t):=by rw [Bool.eq_iff_iff]; simp [sb]
  have g2:Go.Op.bytesLess (sb x.d.s).toList (sb c.t).toList=gG x.d.s c.t:=by rw [nj]; simp [sb]
  generalize decide (x.d.s=c.t)=es at *
  generalize gG x.d.s c.t=ls at *
  generalize sb x.d.s=sx at *
  generalize sb c.t=tc at *
  obtain ⟨b1,h1⟩:∃b1,decide ((x.d.kind:Int)<4)=b1:=⟨_,rfl⟩
  obtain ⟨b2,h2⟩:∃b2,((x.d.kind:Int) == (c.k:Int))=b2:=⟨_,rfl⟩
  obtain ⟨b3,h3⟩:∃b3,(x.d.n == c.n)=b3:=⟨_,rfl⟩
  obtain ⟨b4,h4⟩:∃b4,((x.d.kind:Int) == 1)=b4:=⟨_,rfl⟩
  obtain ⟨b5,h5⟩:∃b5,decide (x.d.n<c.n)=b5:=⟨_,rfl⟩
  obtain ⟨b6,h6⟩:∃b6,((x.d.kind:Int) == 2)=b6:=⟨_,rfl⟩
  rw [h1,h2,h3] at eS
  have HS:=aa eS
  clear eS eL
  cases b1
  rotate_left 1
  cases b2
  rotate_left 1
  cases b3
  rotate_left 1
  cases es
  all_goals
   go_wp2
   go_quiet (fail)
   try go_wp2
   go_meet
   exact ⟨by rw [HS.out]; rfl,_,by rw [aJ]⟩
 case rest =>
 obtain ⟨rfl,k2,rfl⟩:=hcut
 go_upto_region 15 with fail
 go_cut [10] from 123 (λ x wc=>x=.bool (fy c o)/\∃k,wc=w.drewN k)
 case first =>
  clear SO H
  rcases Option.eq_none_or_eq_some o with ho | ⟨x,ho⟩
  ·have HS:Hid (fy c o=false):=by rw [ho]; exact aa rfl
   clear FX
   subst ho
   rw [show kH A none=.pointer none from rfl]
   go_wp2
   go_quiet (fail)
   try go_wp2
   go_meet
   exact ⟨by rw [HS.out],_,by rw [aJ]⟩
  obtain ⟨y0,y1,y2,eS,eL⟩:=FX.out x ho
  clear FX
  subst ho
  rw [show kH A (some x)=.pointer (some ⟨A x.d.ai,0,none⟩) from rfl]
  have g1:decide ((sb x.d.s).toList=(sb c.t).toList)=decide (x.d.s=c.t):=decide_eq_decide.2 (PY _ _)
  have g1b:((sb x.d.s).toList == (sb c.t).toList)=decide (x.d.s=c.t):=by rw [Bool.eq_iff_iff]; simp [sb]
  have g2:Go.Op.bytesLess (sb x.d.s).toList (sb c.t).toList=gG x.d.s c.t:=by rw [nj]; simp [sb]
  generalize decide (x.d.s=c.t)=es at *
  generalize gG x.d.s c.t=ls at *
  generalize sb x.d.s=sx at *
  generalize sb c.t=tc at *
  obtain ⟨b1,h1⟩:∃b1,decide ((x.d.kind:Int)<4)=b1:=⟨_,rfl⟩
  obtain ⟨b2,h2⟩:∃b2,((x.d.kind:Int) == (c.k:Int))=b2:=⟨_,rfl⟩
  obtain ⟨b3,h3⟩:∃b3,(x.d.n == c.n)=b3:=⟨_,rfl⟩
  obtain ⟨b4,h4⟩:∃b4,((x.d.kind:Int) == 1)=b4:=⟨_,rfl⟩
  obtain ⟨b5,h5⟩:∃b5,decide (x.d.n<c.n)=b5:=⟨_,rfl⟩
  obtain ⟨b6,h6⟩:∃b6,((x.d.kind:Int) == 2)=b6:=⟨_,rfl⟩
  rw [h2,h4,h5,h6] at eL
  have HS:=aa eL
  clear eS eL
  cases b2
  rotate_left 1
  cases b4
  ·cases b6
   rotate_left 1
   cases ls
   all_goals
    go_wp2
    go_quiet (fail)
    try go_wp2
    go_meet
    exact ⟨by rw [HS.out]; rfl,_,by rw [aJ]⟩
  cases b5
  ·cases b6
   rotate_left 1
   cases ls
   all_goals
    go_wp2
    go_quiet (fail)
    try go_wp2
    go_meet
    exact ⟨by rw [HS.out]; rfl,_,by rw [aJ]⟩
  all_goals
   go_wp2
   go_quiet (fail)
   try go_wp2
   go_meet
   exact ⟨by rw [HS.out]; rfl,_,by rw [aJ]⟩
 case rest =>
 obtain ⟨rfl,k3,rfl⟩:=hcut
 have HT:Hid (MW so c o=if so=15 then dP c o else if so=16 then !(dP c o) else if so=17 then fy c o else dP c o || fy c o):=rfl
 clear FX H d0 d1 d2 c3 c4
 generalize dP c o=sm at *
 generalize fy c o=le at *
 rcases SO.out with ⟨s1,s2⟩ | ⟨s1,s2,s3⟩ | ⟨s1,s2,s3,s4⟩ | ⟨s1,s2,s3,s4⟩
 all_goals
  have S1:=aa s1
  clear SO s1
 rotate_left 3
 cases sm
 all_goals
  go_wp2
  go_ret
  exact ⟨by rw [HT.out,S1.out]; rfl,_,rfl⟩
end Go.Proofs.YtcbadebjpogmlaaGreatDoor
