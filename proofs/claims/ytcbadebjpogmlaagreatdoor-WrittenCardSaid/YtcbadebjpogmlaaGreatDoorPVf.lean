import Derived.Test.YtcbadebjpogmlaaGreatDoorPVa
namespace Go.Proofs.YtcbadebjpogmlaaGreatDoor
open Go.RowKit Tr
def StepV (w:World) (f:Value) (st:StA):Prop:=∃N cap,f=.func (.func N) #[] cap∧(∀args w,(callFunc N args).run Tryz.prog w=.ok (.enter N args) w)∧∀(A:Nat→Nat) (D:Nat→Prop) (n:Nat) (par:Value) (ix:Nat) (t:Tv),PT w A D n par ix t →
 ∀q,Calls Tryz.prog N (#[.pointer (some ⟨A t.d.frm,0,none⟩)]++cap) (w.drewN q) fun r w'=>r=.returned (optA A (pickT t st t.ws.length))∧∃k,w'=w.drewN k
def LeadV (w:World) (f:Value) (l:List StA):Prop:=∃N cap,f=.func (.func N) #[] cap∧(∀args w,(callFunc N args).run Tryz.prog w=.ok (.enter N args) w)∧∀(A:Nat→Nat) (D:Nat→Prop) (n:Nat) (par:Value) (ix:Nat) (t:Tv),PT w A D n par ix t →
 ∀q,Calls Tryz.prog N (#[.pointer (some ⟨A t.d.frm,0,none⟩)]++cap) (w.drewN q) fun r w'=>r=.returned (optA A (leadT t l))∧∃k,w'=w.drewN k
theorem idx_mem {l:List Tv} {n:Int} {u:Tv} (h:idx l n=some u):u ∈ l:=by
 unfold idx at h
 split at h
 ·cases h
 exact List.mem_of_getElem? h
theorem pp_mem {t u:Tv} {st:StA} (h:pickT t st t.ws.length=some u):u ∈ t.ws:=by
 unfold pickT at h
 rw [List.take_length] at h
 split at h
 ·split at h
  ·exact List.mem_of_find?_eq_some h
  cases h
 split at h
 ·exact idx_mem h
 cases h
theorem pick_pt {w:World} {A:Nat→Nat} {D:Nat→Prop} {n:Nat} {par:Value} {ix:Nat} {t u:Tv} {st:StA} (h:PT w A D n par ix t) (hp:pickT t st t.ws.length=some u):∃n' par' ix',PT w A D n' par' ix' u:=by
 obtain ⟨i,hi,rfl⟩:=List.getElem_of_mem (pp_mem hp)
 exact ⟨_,_,_,h.kid hi⟩
theorem lead_pt {w:World} {A:Nat→Nat} {D:Nat→Prop} {u:Tv}:∀(l:List StA) {n:Nat} {par:Value} {ix:Nat} {t:Tv},PT w A D n par ix t→leadT t l=some u→∃n' par' ix',PT w A D n' par' ix' u
 | [],n,par,ix,t,h,hp=>by
  cases hp
  exact ⟨n,par,ix,h⟩
 | st::l,n,par,ix,t,h,hp=>by
  unfold leadT at hp
  cases hq:pickT t st t.ws.length with
  | none=>rw [hq] at hp; cases hp
  | some v =>
   rw [hq] at hp
   obtain ⟨n',par',ix',h'⟩:=pick_pt h hq
   exact lead_pt l h' hp
theorem lead_app:∀(l r:List StA) (t:Tv),leadT t (l++r)=(leadT t l).bind (fun u=>leadT u r)
 | [],_,_=>rfl
 | st::l,r,t=>by
  show (pickT t st t.ws.length).bind _=((pickT t st t.ws.length).bind _).bind _
  cases pickT t st t.ws.length with
  | none=>rfl
  | some v=>exact lead_app l r v
theorem lead_take {l:List StA} {k:Nat} (hk:k<l.length) (t:Tv):leadT t (l.take (k+1))=(leadT t (l.take k)).bind (fun u=>pickT u l[k] u.ws.length):=by
 rw [List.take_succ_eq_append_getElem hk,lead_app]
 congr 1
 funext u
 show (pickT u l[k] u.ws.length).bind (fun v=>leadT v [])=_
 cases pickT u l[k] u.ws.length<;>rfl
theorem lead_none {l:List StA} {k:Nat} {t:Tv} (h:leadT t (l.take k)=none):leadT t l=none:=by
 have e:=lead_app (l.take k) (l.drop k) t
 rw [List.take_append_drop,h] at e
 exact e
set_option maxHeartbeats 1000000 in
set_option maxRecDepth 100000 in
theorem v_lead {w:World} {sv:Value} {fs:List Value} {l:List StA} {B:Nat} (ho:w.ownsRow B 320 1 sv fs.length fs) (hj:fs.length≤1000) (hl:l.length=fs.length)
 (h:∀i (h1:i<fs.length) (h2:i<l.length),StepV w fs[i] l[i]) {b:Nat} (hb:Blk w b #[sv] 322):LeadV w (.func (.func 286) #[] #[.pointer (some ⟨b,0,none⟩)]) l:=by
 refine ⟨_,_,rfl,fun _ _=>rfl,fun A D n par ix t ht q=>?_⟩
 have c0:w.cell? ⟨b,0,none⟩=some sv:=hb.cell 0
 have HH:=hide h
 have HT:=hide ht
 obtain ⟨j,hjj⟩:∃j,j=fs.length:=⟨_,rfl⟩
 rw [← hjj] at hj ho hl
 obtain ⟨v0,vcp,rfl⟩:=own_slice ho
 have HO:=hide ho
 have HJ:=hide hjj
 have HL:=hide hl
 clear h hb ht ho hjj hl
 show Calls Tryz.prog 286 #[.pointer (some ⟨A t.d.frm,0,none⟩),.pointer (some ⟨b,0,none⟩)] _ _
 go_enter Tryz.func286,Tryz.ntmps286
 go_wp2
 go_loopw [0,5,8] (fun x _ i wr=>∃(k q n:Nat) (par:Value) (ix:Nat) (u:Tv),k≤j∧i=.int .i64 k∧x=.pointer (some ⟨A u.d.frm,0,none⟩)∧leadT t (l.take k)=some u∧PT w A D n par ix u∧wr=w.drewN q) (fun _ _ i _=>j - (intOf i).toNat)
 case atStart=>exact ⟨0,q,n,par,ix,t,Nat.zero_le _,rfl,rfl,rfl,HT.out,rfl⟩
 case round =>
  obtain ⟨k,q,n,par,ix,u,hk,rfl,rfl,hle,hp,rfl⟩:=hrel
  have LE:=hide hle
  have HP:=hide hp
  clear hle hp HT
  by_cases hlt:k<j
  ·have hlf:k<fs.length:=by have:=HJ.out; omega
   have hlp:k<l.length:=by have:=HL.out; omega
   obtain ⟨g,cap,hv,hbg,hgl⟩:=HO.out.form (by omega)
   simp only [Value.slice.injEq,true_and] at hv
   obtain ⟨rfl,rfl⟩:=hv
   have hcell:w.cell? ⟨g,k,none⟩=some fs[k]:=(HO.out.cellAt k (by omega)).trans (List.getElem?_eq_getElem hlf)
   obtain ⟨N,cp,he,hE,hN⟩:=HH.out k hlf hlp
   rw [he] at hcell
   have H:=hide (hN A D n par ix u HP.out)
   have HY:Hid (leadT t (l.take (k+1))=pickT u l[k] u.ws.length):=by
    show _=_
    rw [lead_take hlp,LE.out]
    rfl
   have HZ:Hid (∀v,pickT u l[k] u.ws.length=some v→∃n' par' ix',PT w A D n' par' ix' v):=fun v hv=>pick_pt HP.out hv
   clear hN he LE
   generalize pickT u l[k] u.ws.length=o at *
   cases o with
   | none =>
    have HR:=hide (lead_none HY.out)
    clear HY HZ
    go_wp2_with fail
    refine (H.out _).mono ?_
    rintro r w1 ⟨rfl,k1,rfl⟩
    rw [show optA A none=.pointer none from rfl]
    go_wp2
    go_ret
    exact ⟨by rw [HR.out]; rfl,k1,rfl⟩
   | some v =>
    obtain ⟨n',par',ix',hp'⟩:=HZ.out v (by trivial)
    have HP':=hide hp'
    clear hp' HZ
    go_wp2_with fail
    refine (H.out _).mono ?_
    rintro r w1 ⟨rfl,k1,rfl⟩
    rw [show optA A (some v)=.pointer (some ⟨A v.d.frm,0,none⟩) from rfl]
    go_wp2
    go_roundw
    case rel=>exact ⟨k+1,k1,n',par',ix',v,by omega,by go_num,rfl,HY.out,HP'.out,rfl⟩
    case measure=>simp [intOf]; omega
  have HR:Hid (leadT t l=some u):=by
   have e:=LE.out
   rw [List.take_of_length_le (by have:=HL.out; omega)] at e
   exact e
  go_wp2
  go_ret
  exact ⟨by rw [HR.out]; rfl,q,rfl⟩
theorem PT.drewN {w:World} {A:Nat→Nat} {D:Nat→Prop} {n:Nat} {par:Value} {ix:Nat} {t:Tv} (h:PT w A D n par ix t) (q:Nat):PT (w.drewN q) A D n par ix t:=PT.keep (w:=w) (w':=w.drewN q) (fun _ _=>rfl) _ _ _ _ h
set_option maxHeartbeats 1000000 in
set_option maxRecDepth 100000 in
theorem v_member {w:World} {b:Nat} {nm:ByteArray} (hb:Blk w b #[.string nm] 9):StepV w (.func (.func 296) #[] #[.pointer (some ⟨b,0,none⟩)]) ⟨true,bs nm,0⟩:=by
 refine ⟨_,_,rfl,fun _ _=>rfl,fun A D n par ix t ht q=>?_⟩
 have c0:w.cell? ⟨b,0,none⟩=some (.string nm):=hb.cell 0
 obtain ⟨o,ho⟩:∃o,o=pickT t ⟨true,bs nm,0⟩ t.ws.length:=⟨_,rfl⟩
 have H:Hid (∀q,Calls Tryz.prog 297 #[.pointer (some ⟨A t.d.frm,0,none⟩),.string nm] (w.drewN q) fun r w'=>r=.returned (optA A o)∧∃k,w'=(w.drewN q).drewN k):=fun q=>by rw [ho]; exact p_member (ht.drewN q) nm
 rw [← ho]
 clear hb ht ho
 show Calls Tryz.prog 296 #[.pointer (some ⟨A t.d.frm,0,none⟩),.pointer (some ⟨b,0,none⟩)] _ _
 go_enter Tryz.func296,Tryz.ntmps296
 go_wp2_with fail
 refine (H.out _).mono ?_
 rintro r w1 ⟨rfl,k1,rfl⟩
 rw [drewN3]
 cases o with
 | none =>
  rw [show optA A none=.pointer none from rfl]
  go_wp2
  go_ret
  exact ⟨rfl,_,rfl⟩
 | some v =>
  rw [show optA A (some v)=.pointer (some ⟨A v.d.frm,0,none⟩) from rfl]
  go_wp2
  go_ret
  exact ⟨rfl,_,rfl⟩
set_option maxHeartbeats 1000000 in
set_option maxRecDepth 100000 in
theorem v_elem {w:World} {b:Nat} {m:Nat} (hb:Blk w b #[.int .i64 (m:Nat)] 3):StepV w (.func (.func 302) #[] #[.pointer (some ⟨b,0,none⟩)]) ⟨false,[],(m:Int)⟩:=by
 refine ⟨_,_,rfl,fun _ _=>rfl,fun A D n par ix t ht q=>?_⟩
 have c0:w.cell? ⟨b,0,none⟩=some (.int .i64 (m:Nat)):=hb.cell 0
 have HT:=hide ht
 have E:pickT t ⟨false,[],(m:Int)⟩ t.ws.length=(if t.d.kind=4 then idx t.ws m else none):=by
  unfold pickT
  rw [List.take_length]
  simp only [Bool.false_eq_true,if_false]
  rw [if_neg (by omega:¬(m:Int)<0)]
 rw [E]
 obtain ⟨o,ho⟩:∃o,o=(if t.d.kind=4 then idx t.ws m else none):=⟨_,rfl⟩
 have H:Hid (∀q,Calls Tryz.prog 301 #[.pointer (some ⟨A t.d.frm,0,none⟩),.int .i64 (m:Nat)] (w.drewN q) fun r w'=>r=.returned (optA A o)∧∃k,w'=(w.drewN q).drewN k):=fun q=>by rw [ho]; exact p_element (ht.drewN q) _
 rw [← ho]
 clear hb ht E HT ho
 show Calls Tryz.prog 302 #[.pointer (some ⟨A t.d.frm,0,none⟩),.pointer (some ⟨b,0,none⟩)] _ _
 go_enter Tryz.func302,Tryz.ntmps302
 go_wp2_with fail
 refine (H.out _).mono ?_
 rintro r w1 ⟨rfl,k1,rfl⟩
 rw [drewN3]
 cases o with
 | none =>
  rw [show optA A none=.pointer none from rfl]
  go_wp2
  go_ret
  exact ⟨rfl,_,rfl⟩
 | some v =>
  rw [show optA A (some v)=.pointer (some ⟨A v.d.frm,0,none⟩) from rfl]
  go_wp2
  go_ret
  exact ⟨rfl,_,rfl⟩
set_option maxHeartbeats 1000000 in
set_option maxRecDepth 100000 in
theorem v_elemEnd {w:World} {b:Nat} {m:Nat} (hm:0<m∧m≤1000) (hb:Blk w b #[.int .i64 (m:Nat)] 3):StepV w (.func (.func 300) #[] #[.pointer (some ⟨b,0,none⟩)]) ⟨false,[],-(m:Int)⟩:=by
 refine ⟨_,_,rfl,fun _ _=>rfl,fun A D n par ix t ht q=>?_⟩
 have c0:w.cell? ⟨b,0,none⟩=some (.int .i64 (m:Nat)):=hb.cell 0
 have HT:=hide ht
 obtain ⟨sv,hc⟩:=ht.pc
 have c8:w.cell? ⟨A t.d.frm,8,none⟩=some sv:=hc.b.cell 8
 obtain ⟨v0,vcp,rfl⟩:=own_slice hc.o
 have hl:=hc.l
 obtain ⟨hm0,hm1⟩:=hm
 have E:pickT t ⟨false,[],-(m:Int)⟩ t.ws.length=(if t.d.kind=4 then idx t.ws ((t.ws.length:Int) - (m:Int)) else none):=by
  unfold pickT
  rw [List.take_length]
  simp only [Bool.false_eq_true,if_false]
  rw [if_pos (by omega:-(m:Int)<0),show -(m:Int)+(t.ws.length:Int)=(t.ws.length:Int) - (m:Int) by omega]
 rw [E]
 obtain ⟨o,ho⟩:∃o,o=(if t.d.kind=4 then idx t.ws ((t.ws.length:Int) - (m:Int)) else none):=⟨_,rfl⟩
 have H:Hid (∀W:World,W.heap=w.heap→Calls Tryz.prog 301 #[.pointer (some ⟨A t.d.frm,0,none⟩),.int .i64 ((t.ws.length:Int) - (m:Int))] W fun r w'=>r=.returned (optA A o)∧∃k,w'=W.drewN k):=fun W hW=>by rw [ho]; exact p_element (PT.keep (w:=w) (w':=W) (fun _ _=>by rw [hW]) _ _ _ _ ht) _
 rw [← ho]
 have hwr:IntKind.i64.wrap ((t.ws.length:Int) - (m:Int))=(t.ws.length:Int) - (m:Int):=IntWalk.i64_in _ (by omega)
 clear hb ht E hc HT ho
 show Calls Tryz.prog 300 #[.pointer (some ⟨A t.d.frm,0,none⟩),.pointer (some ⟨b,0,none⟩)] _ _
 cases o with
 | none =>
  go_enter Tryz.func300,Tryz.ntmps300
  go_wp2_with fail
  go_region_with (go_at_call 301; refine (H.out _ (by rfl)).mono ?_; rintro r w1 ⟨rfl,k1,rfl⟩; rw [show optA A none=.pointer none from rfl])
  all_goals
   go_wp2
   go_ret
   exact ⟨rfl,_,rfl⟩
 | some v =>
  go_enter Tryz.func300,Tryz.ntmps300
  go_wp2_with fail
  go_region_with (go_at_call 301; refine (H.out _ (by rfl)).mono ?_; rintro r w1 ⟨rfl,k1,rfl⟩; rw [show optA A (some v)=.pointer (some ⟨A v.d.frm,0,none⟩) from rfl])
  all_goals
   go_wp2
   go_ret
   exact ⟨rfl,_,rfl⟩
set_option maxHeartbeats 1000000 in
set_option maxRecDepth 100000 in
theorem v_there {w:World} {f:Value} {l:List StA} (h:LeadV w f l) {b:Nat} (hb:Blk w b #[f] 320):CondV w (.func (.func 295) #[] #[.pointer (some ⟨b,0,none⟩)]) (fun t=>(leadT t l).isSome):=by
 obtain ⟨N,cap,rfl,hE,hN⟩:=h
 refine ⟨_,_,rfl,fun _ _=>rfl,fun A D n par ix t ht q=>?_⟩
 have c0:w.cell? ⟨b,0,none⟩=some (.func (.func N) #[] cap):=hb.cell 0
 have H:=hide (hN A D n par ix t ht)
 clear hN hb ht
 show Calls Tryz.prog 295 #[.pointer (some ⟨A t.d.frm,0,none⟩),.pointer (some ⟨b,0,none⟩)] _ _
 dsimp only
 generalize leadT t l=o at *
 cases o with
 | none =>
  go_enter Tryz.func295,Tryz.ntmps295
  go_wp2_with fail
  refine (H.out _).mono ?_
  rintro r w1 ⟨rfl,k1,rfl⟩
  rw [show optA A none=.pointer none from rfl]
  go_wp2
  go_ret
  exact ⟨rfl,k1,rfl⟩
 | some v =>
  go_enter Tryz.func295,Tryz.ntmps295
  go_wp2_with fail
  refine (H.out _).mono ?_
  rintro r w1 ⟨rfl,k1,rfl⟩
  rw [show optA A (some v)=.pointer (some ⟨A v.d.frm,0,none⟩) from rfl]
  go_wp2
  go_ret
  exact ⟨rfl,k1,rfl⟩
set_option maxHeartbeats 1000000 in
set_option maxRecDepth 100000 in
theorem v_equal {w:World} {f:Value} {l:List StA} (h:LeadV w f l) {b b2 bc:Nat} {c:Kt} {sc pc:Value} (hb:Blk w b #[f] 320) (hb2:Blk w b2 #[.pointer (some ⟨bc,0,none⟩)] 71) (hbc:Blk w bc (pcl (kDat c) pc 0 sc) 130) (hc:KOk c) :
 CondV w (.func (.func 291) #[] #[.pointer (some ⟨b,0,none⟩),.pointer (some ⟨b2,0,none⟩)]) (fun t=>sameT c (leadT t l)):=by
 obtain ⟨N,cap,rfl,hE,hN⟩:=h
 refine ⟨_,_,rfl,fun _ _=>rfl,fun A D n par ix t ht q=>?_⟩
 have c0:w.cell? ⟨b,0,none⟩=some (.func (.func N) #[] cap):=hb.cell 0
 have c1:w.cell? ⟨b2,0,none⟩=some (.pointer (some ⟨bc,0,none⟩)):=hb2.cell 0
 have H:=hide (hN A D n par ix t ht)
 have HT:=hide ht
 have HBC:=hide hbc
 have HZ:Hid (∀v,leadT t l=some v→∃n' par' ix',PT w A D n' par' ix' v):=fun v hv=>lead_pt l ht hv
 clear hN hb hb2 ht hbc
 show Calls Tryz.prog 291 #[.pointer (some ⟨A t.d.frm,0,none⟩),.pointer (some ⟨b,0,none⟩),.pointer (some ⟨b2,0,none⟩)] _ _
 dsimp only
 generalize leadT t l=o at *
 cases o with
 | none =>
  clear HZ
  go_enter Tryz.func291,Tryz.ntmps291
  go_wp2_with fail
  refine (H.out _).mono ?_
  rintro r w1 ⟨rfl,k1,rfl⟩
  rw [show optA A none=.pointer none from rfl]
  go_wp2
  go_ret
  exact ⟨rfl,k1,rfl⟩
 | some v =>
  obtain ⟨n',par',ix',hp'⟩:=HZ.out v rfl
  obtain ⟨sv,hpc⟩:=(hp'.drewN 0).pc
  have HPC:Hid (∀k,PC (w.drewN k) A v par' ix' sv):=fun k=>⟨hpc.b,own_at' hpc.o (fun _ _=>rfl),hpc.d,hpc.l⟩
  have KOK:=hide hc
  clear hp' HZ hpc HT hc
  go_enter Tryz.func291,Tryz.ntmps291
  go_wp2_with fail
  refine (H.out _).mono ?_
  rintro r w1 ⟨rfl,k1,rfl⟩
  rw [show optA A (some v)=.pointer (some ⟨A v.d.frm,0,none⟩) from rfl]
  go_wp2_with fail
  refine (p_equal (HPC.out k1) (b:=bc) (c:=c) HBC.out KOK.out).mono ?_
  rintro r w2 ⟨rfl,k2,rfl⟩
  rw [drewN3]
  go_wp2
  go_ret
  exact ⟨rfl,_,rfl⟩
set_option maxHeartbeats 1000000 in
set_option maxRecDepth 100000 in
theorem v_less {w:World} {f:Value} {l:List StA} (h:LeadV w f l) {b b2 bc:Nat} {c:Kt} {sc pc:Value} (hb:Blk w b #[f] 320) (hb2:Blk w b2 #[.pointer (some ⟨bc,0,none⟩)] 71) (hbc:Blk w bc (pcl (kDat c) pc 0 sc) 130) (hc:KOk c) :
 CondV w (.func (.func 293) #[] #[.pointer (some ⟨b,0,none⟩),.pointer (some ⟨b2,0,none⟩)]) (fun t=>lessT c (leadT t l)):=by
 obtain ⟨N,cap,rfl,hE,hN⟩:=h
 refine ⟨_,_,rfl,fun _ _=>rfl,fun A D n par ix t ht q=>?_⟩
 have c0:w.cell? ⟨b,0,none⟩=some (.func (.func N) #[] cap):=hb.cell 0
 have c1:w.cell? ⟨b2,0,none⟩=some (.pointer (some ⟨bc,0,none⟩)):=hb2.cell 0
 have H:=hide (hN A D n par ix t ht)
 have HT:=hide ht
 have HBC:=hide hbc
 have HZ:Hid (∀v,leadT t l=some v→∃n' par' ix',PT w A D n' par' ix' v):=fun v hv=>lead_pt l ht hv
 clear hN hb hb2 ht hbc
 show Calls Tryz.prog 293 #[.pointer (some ⟨A t.d.frm,0,none⟩),.pointer (some ⟨b,0,none⟩),.pointer (some ⟨b2,0,none⟩)] _ _
 dsimp only
 generalize leadT t l=o at *
 cases o with
 | none =>
  clear HZ
  go_enter Tryz.func293,Tryz.ntmps293
  go_wp2_with fail
  refine (H.out _).mono ?_
  rintro r w1 ⟨rfl,k1,rfl⟩
  rw [show optA A none=.pointer none from rfl]
  go_wp2
  go_ret
  exact ⟨rfl,k1,rfl⟩
 | some v =>
  obtain ⟨n',par',ix',hp'⟩:=HZ.out v rfl
  obtain ⟨sv,hpc⟩:=(hp'.drewN 0).pc
  have HPC:Hid (∀k,PC (w.drewN k) A v par' ix' sv):=fun k=>⟨hpc.b,own_at' hpc.o (fun _ _=>rfl),hpc.d,hpc.l⟩
  have KOK:=hide hc
  clear hp' HZ hpc HT hc
  go_enter Tryz.func293,Tryz.ntmps293
  go_wp2_with fail
  refine (H.out _).mono ?_
  rintro r w1 ⟨rfl,k1,rfl⟩
  rw [show optA A (some v)=.pointer (some ⟨A v.d.frm,0,none⟩) from rfl]
  go_wp2_with fail
  refine (p_less (HPC.out k1) (b:=bc) (c:=c) HBC.out KOK.out).mono ?_
  rintro r w2 ⟨rfl,k2,rfl⟩
  rw [drewN3]
  go_wp2
  go_ret
  exact ⟨rfl,_,rfl⟩
end Go.Proofs.YtcbadebjpogmlaaGreatDoor
