import Derived.Test.YtcbadebjpogmlaaGreatDoorVsVa
set_option maxHeartbeats 1000000
set_option maxRecDepth 100000
namespace Go.Proofs.YtcbadebjpogmlaaGreatDoor
open Go.RowKit Tr
def je (w:World) (f:Value) (st:eO):Prop:=∃N cap,f=.func (.func N) #[] cap/\(∀args w,(callFunc N args).run Tryz.prog w=.ok (.enter N args) w)/\∀(A:Nat->Nat) (D:Nat->Prop) (n:Nat) (par:Value) (ix:Nat) (t:Tv),PT w A D n par ix t ->
 ∀q,Calls Tryz.prog N (#[.pointer (some ⟨A t.d.ai,0,none⟩)]++cap) (w.drewN q) λ r w'=>r=.returned (iw A (bE t st t.ws.length))/\∃k,w'=w.drewN k
def jf (w:World) (f:Value) (l:List eO):Prop:=∃N cap,f=.func (.func N) #[] cap/\(∀args w,(callFunc N args).run Tryz.prog w=.ok (.enter N args) w)/\∀(A:Nat->Nat) (D:Nat->Prop) (n:Nat) (par:Value) (ix:Nat) (t:Tv),PT w A D n par ix t ->
 ∀q,Calls Tryz.prog N (#[.pointer (some ⟨A t.d.ai,0,none⟩)]++cap) (w.drewN q) λ r w'=>r=.returned (iw A (aS t l))/\∃k,w'=w.drewN k
theorem Oc {l:List Tv} {n:Int} {u:Tv} (h:idx l n=some u):u ∈ l:=by
 unfold idx at h
 split at h
 ·cases h
 exact List.mem_of_getElem? h
theorem Tu {t u:Tv} {st:eO} (h:bE t st t.ws.length=some u):u ∈ t.ws:=by
 unfold bE at h
 rw [List.take_length] at h
 split at h
 ·split at h
  ·exact List.mem_of_find?_eq_some h
  cases h
 split at h
 ·exact Oc h
 cases h
theorem CS {w:World} {A:Nat->Nat} {D:Nat->Prop} {n:Nat} {par:Value} {ix:Nat} {t u:Tv} {st:eO} (h:PT w A D n par ix t) (hp:bE t st t.ws.length=some u):∃n' par' qh,PT w A D n' par' qh u:=by
 obtain ⟨i,hi,rfl⟩:=List.getElem_of_mem (Tu hp)
 exact ⟨_,_,_,h.KH hi⟩
theorem vH {w:World} {A:Nat->Nat} {D:Nat->Prop} {u:Tv}:∀(l:List eO) {n:Nat} {par:Value} {ix:Nat} {t:Tv},PT w A D n par ix t->aS t l=some u->∃n' par' qh,PT w A D n' par' qh u
 | [],n,par,ix,t,h,hp=>by
  cases hp
  exact ⟨n,par,ix,h⟩
 | st::l,n,par,ix,t,h,hp=>by
  unfold aS at hp
  cases hq:bE t st t.ws.length with
  | none=>rw [hq] at hp; cases hp
  | some v =>
   rw [hq] at hp
   obtain ⟨n',par',qh,h'⟩:=CS h hq
   exact vH l h' hp
theorem rM:∀(l r:List eO) (t:Tv),aS t (l++r)=(aS t l).bind (λ u=>aS u r)
 | [],_,_=>rfl
 | st::l,r,t=>by
  show (bE t st t.ws.length).bind _=((bE t st t.ws.length).bind _).bind _
  cases bE t st t.ws.length with
  | none=>rfl
  | some v=>exact rM l r v
theorem EL {l:List eO} {k:Nat} (hk:k<l.length) (t:Tv):aS t (l.take (k+1))=(aS t (l.take k)).bind (λ u=>bE u l[k] u.ws.length):=by
 rw [List.take_succ_eq_append_getElem hk,rM]
 congr 1
 funext u
 show (bE u l[k] u.ws.length).bind (λ v=>aS v [])=_
 cases bE u l[k] u.ws.length<;>rfl
theorem EM {l:List eO} {k:Nat} {t:Tv} (h:aS t (l.take k)=none):aS t l=none:=by
 have e:=rM (l.take k) (l.drop k) t
 rw [List.take_append_drop,h] at e
 exact e
theorem Re {w:World} {sv:Value} {fs:List Value} {l:List eO} {B:Nat} (ho:w.ownsRow B 320 1 sv fs.length fs) (hj:fs.length<=1000) (hl:l.length=fs.length)
 (h:∀i (h1:i<fs.length) (h2:i<l.length),je w fs[i] l[i]) {b:Nat} (hb:ay w b #[sv] 322):jf w (.func (.func 286) #[] #[.pointer (some ⟨b,0,none⟩)]) l:=by
 refine ⟨_,_,rfl,λ_ _=>rfl,λ A D n par ix t ht q=>?_⟩
 have c0:w.cell? ⟨b,0,none⟩=some sv:=hb.cell 0
 have HH:=aa h
 have HT:=aa ht
 obtain ⟨j,jU⟩:∃j,j=fs.length:=⟨_,rfl⟩
 rw [<-jU] at hj ho hl
 obtain ⟨v0,y_,rfl⟩:=ah ho
 have HO:=aa ho
 have HJ:=aa jU
 have HL:=aa hl
 clear h hb ht ho jU hl
 show Calls Tryz.prog 286 #[.pointer (some ⟨A t.d.ai,0,none⟩),.pointer (some ⟨b,0,none⟩)] _ _
 go_enter Tryz.func286,Tryz.ntmps286
 go_wp2
 go_loopw [0,5,8] (λ x _ i wr=>∃(k q n:Nat) (par:Value) (ix:Nat) (u:Tv),k<=j/\i=.int .i64 k/\x=.pointer (some ⟨A u.d.ai,0,none⟩)/\aS t (l.take k)=some u/\PT w A D n par ix u/\wr=w.drewN q) (λ_ _ i _=>j - (intOf i).toNat)
 case atStart=>exact ⟨0,q,n,par,ix,t,Nat.zero_le _,rfl,rfl,rfl,HT.out,rfl⟩
 case round =>
  obtain ⟨k,q,n,par,ix,u,hk,rfl,rfl,hle,hp,rfl⟩:=hrel
  have LE:=aa hle
  have HP:=aa hp
  clear hle hp HT
  by_cases hlt:k<j
  ·have hlf:k<fs.length:=by have:=HJ.out; omega
   have vo:k<l.length:=by have:=HL.out; omega
   obtain ⟨g,cap,hv,Bg,qg⟩:=HO.out.form (by omega)
   simp only [Value.slice.injEq,true_and] at hv
   obtain ⟨rfl,rfl⟩:=hv
   have hcell:w.cell? ⟨g,k,none⟩=some fs[k]:=(HO.out.cellAt k (by omega)).trans (List.getElem?_eq_getElem hlf)
   obtain ⟨N,cp,he,hE,hN⟩:=HH.out k hlf vo
   rw [he] at hcell
   have H:=aa (hN A D n par ix u HP.out)
   have HY:Hid (aS t (l.take (k+1))=bE u l[k] u.ws.length):=by
    show _=_
    rw [EL vo,LE.out]
    rfl
   have HZ:Hid (∀v,bE u l[k] u.ws.length=some v->∃n' par' qh,PT w A D n' par' qh v):=λ v hv=>CS HP.out hv
   clear hN he LE
   generalize bE u l[k] u.ws.length=o at *
   cases o with
   | none =>
    have HR:=aa (EM HY.out)
    clear HY HZ
    go_wp2_with fail
    refine (H.out _).mono ?_
    rintro r w1 ⟨rfl,k1,rfl⟩
    rw [show iw A none=.pointer none from rfl]
    go_wp2
    go_ret
    exact ⟨by rw [HR.out]; rfl,k1,rfl⟩
   | some v =>
    obtain ⟨n',par',qh,hp'⟩:=HZ.out v (by trivial)
    have HP':=aa hp'
    clear hp' HZ
    go_wp2_with fail
    refine (H.out _).mono ?_
    rintro r w1 ⟨rfl,k1,rfl⟩
    rw [show iw A (some v)=.pointer (some ⟨A v.d.ai,0,none⟩) from rfl]
    go_wp2
    go_roundw
    case rel=>exact ⟨k+1,k1,n',par',qh,v,by omega,by go_num,rfl,HY.out,HP'.out,rfl⟩
    case measure=>simp [intOf]; omega
  have HR:Hid (aS t l=some u):=by
   have e:=LE.out
   rw [List.take_of_length_le (by have:=HL.out; omega)] at e
   exact e
  go_wp2
  go_ret
  exact ⟨by rw [HR.out]; rfl,q,rfl⟩
theorem PT.drewN {w:World} {A:Nat->Nat} {D:Nat->Prop} {n:Nat} {par:Value} {ix:Nat} {t:Tv} (h:PT w A D n par ix t) (q:Nat):PT (w.drewN q) A D n par ix t:=PT.keep (w:=w) (w':=w.drewN q) (λ_ _=>rfl) _ _ _ _ h
theorem Hp {w:World} {b:Nat} {nm:ByteArray} (hb:ay w b #[.string nm] 9):je w (.func (.func 296) #[] #[.pointer (some ⟨b,0,none⟩)]) ⟨true,bs nm,0⟩:=by
 refine ⟨_,_,rfl,λ_ _=>rfl,λ A D n par ix t ht q=>?_⟩
 have c0:w.cell? ⟨b,0,none⟩=some (.string nm):=hb.cell 0
 obtain ⟨o,ho⟩:∃o,o=bE t ⟨true,bs nm,0⟩ t.ws.length:=⟨_,rfl⟩
 have H:Hid (∀q,Calls Tryz.prog 297 #[.pointer (some ⟨A t.d.ai,0,none⟩),.string nm] (w.drewN q) λ r w'=>r=.returned (iw A o)/\∃k,w'=(w.drewN q).drewN k):=λ q=>by rw [ho]; exact Kg (ht.drewN q) nm
 rw [<-ho]
 clear hb ht ho
 show Calls Tryz.prog 296 #[.pointer (some ⟨A t.d.ai,0,none⟩),.pointer (some ⟨b,0,none⟩)] _ _
 go_enter Tryz.func296,Tryz.ntmps296
 go_wp2_with fail
 refine (H.out _).mono ?_
 rintro r w1 ⟨rfl,k1,rfl⟩
 rw [dW]
 cases o with
 | none =>
  rw [show iw A none=.pointer none from rfl]
  go_wp2
  go_ret
  exact ⟨rfl,_,rfl⟩
 | some v =>
  rw [show iw A (some v)=.pointer (some ⟨A v.d.ai,0,none⟩) from rfl]
  go_wp2
  go_ret
  exact ⟨rfl,_,rfl⟩
theorem Ra {w:World} {b:Nat} {m:Nat} (hb:ay w b #[.int .i64 (m:Nat)] 3):je w (.func (.func 302) #[] #[.pointer (some ⟨b,0,none⟩)]) ⟨false,[],(m:Int)⟩:=by
 refine ⟨_,_,rfl,λ_ _=>rfl,λ A D n par ix t ht q=>?_⟩
 have c0:w.cell? ⟨b,0,none⟩=some (.int .i64 (m:Nat)):=hb.cell 0
 have HT:=aa ht
 have E:bE t ⟨false,[],(m:Int)⟩ t.ws.length=(if t.d.kind=4 then idx t.ws m else none):=by
  unfold bE
  rw [List.take_length]
  simp only [Bool.false_eq_true,if_false]
  rw [if_neg (by omega:¬(m:Int)<0)]
 rw [E]
 obtain ⟨o,ho⟩:∃o,o=(if t.d.kind=4 then idx t.ws m else none):=⟨_,rfl⟩
 have H:Hid (∀q,Calls Tryz.prog 301 #[.pointer (some ⟨A t.d.ai,0,none⟩),.int .i64 (m:Nat)] (w.drewN q) λ r w'=>r=.returned (iw A o)/\∃k,w'=(w.drewN q).drewN k):=λ q=>by rw [ho]; exact uj (ht.drewN q) _
 rw [<-ho]
 clear hb ht E HT ho
 show Calls Tryz.prog 302 #[.pointer (some ⟨A t.d.ai,0,none⟩),.pointer (some ⟨b,0,none⟩)] _ _
 go_enter Tryz.func302,Tryz.ntmps302
 go_wp2_with fail
 refine (H.out _).mono ?_
 rintro r w1 ⟨rfl,k1,rfl⟩
 rw [dW]
 cases o with
 | none =>
  rw [show iw A none=.pointer none from rfl]
  go_wp2
  go_ret
  exact ⟨rfl,_,rfl⟩
 | some v =>
  rw [show iw A (some v)=.pointer (some ⟨A v.d.ai,0,none⟩) from rfl]
  go_wp2
  go_ret
  exact ⟨rfl,_,rfl⟩
theorem Dk {w:World} {b:Nat} {m:Nat} (hm:0<m/\m<=1000) (hb:ay w b #[.int .i64 (m:Nat)] 3):je w (.func (.func 300) #[] #[.pointer (some ⟨b,0,none⟩)]) ⟨false,[],-(m:Int)⟩:=by
 refine ⟨_,_,rfl,λ_ _=>rfl,λ A D n par ix t ht q=>?_⟩
 have c0:w.cell? ⟨b,0,none⟩=some (.int .i64 (m:Nat)):=hb.cell 0
 have HT:=aa ht
 obtain ⟨sv,hc⟩:=ht.pc
 have c8:w.cell? ⟨A t.d.ai,8,none⟩=some sv:=hc.b.cell 8
 obtain ⟨v0,y_,rfl⟩:=ah hc.o
 have hl:=hc.l
 obtain ⟨hm0,RQ⟩:=hm
 have E:bE t ⟨false,[],-(m:Int)⟩ t.ws.length=(if t.d.kind=4 then idx t.ws ((t.ws.length:Int) - (m:Int)) else none):=by
  unfold bE
  rw [List.take_length]
  simp only [Bool.false_eq_true,if_false]
  rw [if_pos (by omega:-(m:Int)<0),show -(m:Int)+(t.ws.length:Int)=(t.ws.length:Int) - (m:Int) by omega]
 rw [E]
 obtain ⟨o,ho⟩:∃o,o=(if t.d.kind=4 then idx t.ws ((t.ws.length:Int) - (m:Int)) else none):=⟨_,rfl⟩
 have H:Hid (∀W:World,W.heap=w.heap->Calls Tryz.prog 301 #[.pointer (some ⟨A t.d.ai,0,none⟩),.int .i64 ((t.ws.length:Int) - (m:Int))] W λ r w'=>r=.returned (iw A o)/\∃k,w'=W.drewN k):=λ W hW=>by rw [ho]; exact uj (PT.keep (w:=w) (w':=W) (λ_ _=>by rw [hW]) _ _ _ _ ht) _
 rw [<-ho]
 have hwr:IntKind.i64.wrap ((t.ws.length:Int) - (m:Int))=(t.ws.length:Int) - (m:Int):=IntWalk.i64_in _ (by omega)
 clear hb ht E hc HT ho
 show Calls Tryz.prog 300 #[.pointer (some ⟨A t.d.ai,0,none⟩),.pointer (some ⟨b,0,none⟩)] _ _
 cases o with
 | none =>
  go_enter Tryz.func300,Tryz.ntmps300
  go_wp2_with fail
  go_region_with (go_at_call 301; refine (H.out _ (by rfl)).mono ?_; rintro r w1 ⟨rfl,k1,rfl⟩; rw [show iw A none=.pointer none from rfl])
  all_goals
   go_wp2
   go_ret
   exact ⟨rfl,_,rfl⟩
 | some v =>
  go_enter Tryz.func300,Tryz.ntmps300
  go_wp2_with fail
  go_region_with (go_at_call 301; refine (H.out _ (by rfl)).mono ?_; rintro r w1 ⟨rfl,k1,rfl⟩; rw [show iw A (some v)=.pointer (some ⟨A v.d.ai,0,none⟩) from rfl])
  all_goals
   go_wp2
   go_ret
   exact ⟨rfl,_,rfl⟩
theorem Mc {w:World} {f:Value} {l:List eO} (h:jf w f l) {b:Nat} (hb:ay w b #[f] 320):dh w (.func (.func 295) #[] #[.pointer (some ⟨b,0,none⟩)]) (λ t=>(aS t l).isSome):=by
 obtain ⟨N,cap,rfl,hE,hN⟩:=h
 refine ⟨_,_,rfl,λ_ _=>rfl,λ A D n par ix t ht q=>?_⟩
 have c0:w.cell? ⟨b,0,none⟩=some (.func (.func N) #[] cap):=hb.cell 0
 have H:=aa (hN A D n par ix t ht)
 clear hN hb ht
 show Calls Tryz.prog 295 #[.pointer (some ⟨A t.d.ai,0,none⟩),.pointer (some ⟨b,0,none⟩)] _ _
 dsimp only
 generalize aS t l=o at *
 cases o with
 | none =>
  go_enter Tryz.func295,Tryz.ntmps295
  go_wp2_with fail
  refine (H.out _).mono ?_
  rintro r w1 ⟨rfl,k1,rfl⟩
  rw [show iw A none=.pointer none from rfl]
  go_wp2
  go_ret
  exact ⟨rfl,k1,rfl⟩
 | some v =>
  go_enter Tryz.func295,Tryz.ntmps295
  go_wp2_with fail
  refine (H.out _).mono ?_
  rintro r w1 ⟨rfl,k1,rfl⟩
  rw [show iw A (some v)=.pointer (some ⟨A v.d.ai,0,none⟩) from rfl]
  go_wp2
  go_ret
  exact ⟨rfl,k1,rfl⟩
theorem Md {w:World} {f:Value} {l:List eO} (h:jf w f l) {b b2 bc:Nat} {c:Kt} {sc pc:Value} (hb:ay w b #[f] 320) (eK:ay w b2 #[.pointer (some ⟨bc,0,none⟩)] 71) (hbc:ay w bc (ld (cQ c) pc 0 sc) 130) (hc:qC c) :
 dh w (.func (.func 291) #[] #[.pointer (some ⟨b,0,none⟩),.pointer (some ⟨b2,0,none⟩)]) (λ t=>dP c (aS t l)):=by
 obtain ⟨N,cap,rfl,hE,hN⟩:=h
 refine ⟨_,_,rfl,λ_ _=>rfl,λ A D n par ix t ht q=>?_⟩
 have c0:w.cell? ⟨b,0,none⟩=some (.func (.func N) #[] cap):=hb.cell 0
 have c1:w.cell? ⟨b2,0,none⟩=some (.pointer (some ⟨bc,0,none⟩)):=eK.cell 0
 have H:=aa (hN A D n par ix t ht)
 have HT:=aa ht
 have HBC:=aa hbc
 have HZ:Hid (∀v,aS t l=some v->∃n' par' qh,PT w A D n' par' qh v):=λ v hv=>vH l ht hv
 clear hN hb eK ht hbc
 show Calls Tryz.prog 291 #[.pointer (some ⟨A t.d.ai,0,none⟩),.pointer (some ⟨b,0,none⟩),.pointer (some ⟨b2,0,none⟩)] _ _
 dsimp only
 generalize aS t l=o at *
 cases o with
 | none =>
  clear HZ
  go_enter Tryz.func291,Tryz.ntmps291
  go_wp2_with fail
  refine (H.out _).mono ?_
  rintro r w1 ⟨rfl,k1,rfl⟩
  rw [show iw A none=.pointer none from rfl]
  go_wp2
  go_ret
  exact ⟨rfl,k1,rfl⟩
 | some v =>
  obtain ⟨n',par',qh,hp'⟩:=HZ.out v rfl
  obtain ⟨sv,eV⟩:=(hp'.drewN 0).pc
  have HPC:Hid (∀k,PC (w.drewN k) A v par' qh sv):=λ k=>⟨eV.b,bJ eV.o (λ_ _=>rfl),eV.d,eV.l⟩
  have KOK:=aa hc
  clear hp' HZ eV HT hc
  go_enter Tryz.func291,Tryz.ntmps291
  go_wp2_with fail
  refine (H.out _).mono ?_
  rintro r w1 ⟨rfl,k1,rfl⟩
  rw [show iw A (some v)=.pointer (some ⟨A v.d.ai,0,none⟩) from rfl]
  go_wp2_with fail
  refine (Ob (HPC.out k1) (b:=bc) (c:=c) HBC.out KOK.out).mono ?_
  rintro r w2 ⟨rfl,k2,rfl⟩
  rw [dW]
  go_wp2
  go_ret
  exact ⟨rfl,_,rfl⟩
theorem Rb {w:World} {f:Value} {l:List eO} (h:jf w f l) {b b2 bc:Nat} {c:Kt} {sc pc:Value} (hb:ay w b #[f] 320) (eK:ay w b2 #[.pointer (some ⟨bc,0,none⟩)] 71) (hbc:ay w bc (ld (cQ c) pc 0 sc) 130) (hc:qC c) :
 dh w (.func (.func 293) #[] #[.pointer (some ⟨b,0,none⟩),.pointer (some ⟨b2,0,none⟩)]) (λ t=>fy c (aS t l)):=by
 obtain ⟨N,cap,rfl,hE,hN⟩:=h
 refine ⟨_,_,rfl,λ_ _=>rfl,λ A D n par ix t ht q=>?_⟩
 have c0:w.cell? ⟨b,0,none⟩=some (.func (.func N) #[] cap):=hb.cell 0
 have c1:w.cell? ⟨b2,0,none⟩=some (.pointer (some ⟨bc,0,none⟩)):=eK.cell 0
 have H:=aa (hN A D n par ix t ht)
 have HT:=aa ht
 have HBC:=aa hbc
 have HZ:Hid (∀v,aS t l=some v->∃n' par' qh,PT w A D n' par' qh v):=λ v hv=>vH l ht hv
 clear hN hb eK ht hbc
 show Calls Tryz.prog 293 #[.pointer (some ⟨A t.d.ai,0,none⟩),.pointer (some ⟨b,0,none⟩),.pointer (some ⟨b2,0,none⟩)] _ _
 dsimp only
 generalize aS t l=o at *
 cases o with
 | none =>
  clear HZ
  go_enter Tryz.func293,Tryz.ntmps293
  go_wp2_with fail
  refine (H.out _).mono ?_
  rintro r w1 ⟨rfl,k1,rfl⟩
  rw [show iw A none=.pointer none from rfl]
  go_wp2
  go_ret
  exact ⟨rfl,k1,rfl⟩
 | some v =>
  obtain ⟨n',par',qh,hp'⟩:=HZ.out v rfl
  obtain ⟨sv,eV⟩:=(hp'.drewN 0).pc
  have HPC:Hid (∀k,PC (w.drewN k) A v par' qh sv):=λ k=>⟨eV.b,bJ eV.o (λ_ _=>rfl),eV.d,eV.l⟩
  have KOK:=aa hc
  clear hp' HZ eV HT hc
  go_enter Tryz.func293,Tryz.ntmps293
  go_wp2_with fail
  refine (H.out _).mono ?_
  rintro r w1 ⟨rfl,k1,rfl⟩
  rw [show iw A (some v)=.pointer (some ⟨A v.d.ai,0,none⟩) from rfl]
  go_wp2_with fail
  refine (Tt (HPC.out k1) (b:=bc) (c:=c) HBC.out KOK.out).mono ?_
  rintro r w2 ⟨rfl,k2,rfl⟩
  rw [dW]
  go_wp2
  go_ret
  exact ⟨rfl,_,rfl⟩
end Go.Proofs.YtcbadebjpogmlaaGreatDoor
