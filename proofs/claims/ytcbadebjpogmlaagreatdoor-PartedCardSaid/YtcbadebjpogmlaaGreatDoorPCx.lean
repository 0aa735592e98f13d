import Derived.Test.YtcbadebjpogmlaaGreatDoorPCm
import Derived.Test.YtcbadebjpogmlaaGreatDoorPPh
import Derived.Deep.RegionHeldLaw
namespace Go.Proofs.YtcbadebjpogmlaaGreatDoor
open Go.RowKit Tr
def lb (l:List UInt8):ByteArray:=⟨l.toArray⟩
theorem bs_lb (l:List UInt8):bs (lb l)=l:=by simp [bs,lb]
def strs (l:List (List UInt8)):Array Value:=(l.map fun x=>Value.string (lb x)).toArray
theorem lit_cell (w:World) {l:List (List UInt8)} (T:TypeId) {k:Nat} (hk:k<l.length):(w.alloc (.cells (strs l) T)).cell? ⟨w.heap.size,k,none⟩=some (.string (lb (l.getD k []))):=by
 rw [(Blk.new w _ T).cell k]
 simp [strs,hk]
theorem cond_len:∀k,k<15→(lb (qConds.getD k [])).size≤30:=by decide +kernel
theorem part_len:∀k,k<15→(lb (qParts.getD k [])).size≤30:=by decide +kernel
set_option maxRecDepth 100000 in
theorem p_cond {w:World} {c:Int} (hc:i64R c):Calls Tryz.prog 24 #[.int .i64 c] w fun r w'=>(∃cs,(∃k,k<15∧cs=lb (qConds.getD k []))∧cs.size≤30∧r=.returned (.string cs))∧Keeps w w':=by
 have F1:=hide ((Fr.refl (fun _=>False) w).alloc (.cells (strs qConds) 9))
 have PK:=hide (p_pick (w:=w.alloc (.cells (strs qConds) 9)) hc (n:=15) (by omega) (by omega))
 have LC:Hid (∀k,k<15→(w.alloc (.cells (strs qConds) 9)).cell? ⟨w.heap.size,k,none⟩=some (.string (lb (qConds.getD k [])))):=fun k hk=>lit_cell w _ hk
 clear hc
 go_enter Tryz.func24,Tryz.ntmps24
 go_wp2_with fail
 refine PK.out.mono ?_
 rintro r w1 ⟨⟨k,hk,rfl⟩,rfl⟩
 obtain ⟨cs,hcs⟩:∃cs,cs=lb (qConds.getD k []):=⟨_,rfl⟩
 have h1:=LC.out k hk
 rw [← hcs] at h1
 have HC:=hide hcs
 clear PK LC hcs
 go_wp2
 go_ret
 exact ⟨⟨cs,⟨k,hk,HC.out⟩,by rw [HC.out]; exact cond_len k hk,rfl⟩,F1.out⟩
set_option linter.unusedSimpArgs false
theorem i_add (a i:Nat):((a+i:Nat):Int)=(a:Int)+(i:Int):=by omega
def dot2:List (List UInt8):=[[],[46,46]]
set_option maxHeartbeats 8000000 in
set_option maxRecDepth 100000 in
theorem p_query {w:World} {lv:Value} (hi:IntsAt w lv):Calls Tryz.prog 16 #[lv] w fun r w'=>(∃s:ByteArray,r=.returned (.string s)∧s.size≤120∧FinP (bs s)∧C (bs s) (s.size+1)≤10)∧Keeps w w':=by
 have HI:=hide hi
 have F1:=hide ((Fr.refl (fun _=>False) w).alloc (.cells (strs qParts) 9))
 have LC:Hid (∀k,k<15→(w.alloc (.cells (strs qParts) 9)).cell? ⟨w.heap.size,k,none⟩=some (.string (lb (qParts.getD k [])))):=fun k hk=>lit_cell w _ hk
 clear hi
 go_enter Tryz.func16,Tryz.ntmps16
 go_wp2
 go_loopw [3,5] (fun sv iv wr=>∃(s:ByteArray) (i:Nat),sv=.string s∧iv=.int .i64 (i:Nat)∧i≤3∧QkI i (bs s)∧Keeps (w.alloc (.cells (strs qParts) 9)) wr) (fun _ iv _=>match iv with | .int _ n=>(3 - n).toNat | _=>0)
 case atStart=>exact ⟨⟨#[36]⟩,0,rfl,rfl,by omega,QkI.nil,Fr.refl _ _⟩
 case round =>
  obtain ⟨s,i,rfl,rfl,hi3,hQ,hK⟩:=hrel
  have KW:=hide (F1.out.trans hK)
  have RAW:Hid (∀(j:Nat) (v':World),j≤100→Keeps wr v'→Calls Tryz.prog 32 #[lv,.int .i64 (j:Nat)] v' fun r w'=>(∃v,i64R v∧r=.returned (.int .i64 v))∧w'=v'):=fun j v' hj hv=>p_raw ((HI.out.keep KW.out).keep hv) (by omega)
  have LK:Hid (∀k,k<15→wr.cell? ⟨w.heap.size,k,none⟩=some (.string (lb (qParts.getD k [])))):=fun k hk=>(hK.cell (p:=⟨w.heap.size,k,none⟩) (by simp) id).trans (LC.out k hk)
  have K0:=hide hK
  have HQ:=hide hQ
  have hsz:s.size≤120:=by have:=hQ.len hi3; rw [bs_len] at this; exact this
  clear hK hQ LC F1
  go_wp2_with fail
  refine (RAW.out 0 wr (by omega) (Fr.refl _ _)).mono ?_
  rintro r w1 ⟨⟨v,hv,rfl⟩,rfl⟩
  go_wp2_with fail
  refine (p_pick hv (n:=4) (by omega) (by omega)).mono ?_
  rintro r w1 ⟨⟨k4,hk4,rfl⟩,rfl⟩
  by_cases hik:i<k4
  ·have hik':(i:Int)<(k4:Int):=by omega
   have hi2:i≤2:=by omega
   have hw1:IntKind.i64.wrap (1+(i:Int))=1+(i:Int):=by rw [IntWalk.i64_in _ (by omega)]
   have R1:=RAW.out (1+i) w1 (by omega) (Fr.refl _ _)
   rw [i_add] at R1
   have R1:=hide R1
   clear hik hv
   go_wp2_with fail
   refine R1.out.mono ?_
   rintro r w2 ⟨⟨v,hv,rfl⟩,rfl⟩
   go_wp2_with fail
   refine (p_pick hv (n:=20) (by omega) (by omega)).mono ?_
   rintro r w2 ⟨⟨k,hk,rfl⟩,rfl⟩
   clear hv R1
   by_cases hk15:k<15
   ·have hk':(k:Int)<15:=by omega
    have h1:=LK.out k hk15
    obtain ⟨ps,hps⟩:∃ps,ps=lb (qParts.getD k []):=⟨_,rfl⟩
    have hpl:ps.size≤30:=by rw [hps]; exact part_len k hk15
    rw [← hps] at h1
    have hpb:bs ps=qPart k 0:=by rw [hps,bs_lb]; unfold qPart; rw [if_pos hk15]
    have hwi:IntKind.i64.wrap ((i:Int)+1)=(i:Int)+1:=by rw [IntWalk.i64_in _ (by omega)]
    have FIN:Hid ((∃(s':ByteArray) (i':Nat),Value.string (s++ps)=.string s'∧Value.int .i64 ((i:Int)+1)=.int .i64 (i':Nat)∧i'≤3∧QkI i' (bs s')∧Keeps (w.alloc (.cells (strs qParts) 9)) w2)∧(3 - ((i:Int)+1)).toNat<(3 - (i:Int)).toNat):=⟨⟨_,i+1,rfl,by simp,by omega,by rw [bs_append,hpb]; exact HQ.out.add hk (by omega),K0.out⟩,by omega⟩
    clear hps hpb HQ K0 LK RAW HI
    go_wp2
    exact FIN.out
   have hk':¬(k:Int)<15:=by omega
   have hwi:IntKind.i64.wrap ((i:Int)+1)=(i:Int)+1:=by rw [IntWalk.i64_in _ (by omega)]
   have hw4:IntKind.i64.wrap (4+(i:Int))=4+(i:Int):=by rw [IntWalk.i64_in _ (by omega)]
   have R4:Hid (∀v',Keeps w2 v'→Calls Tryz.prog 32 #[lv,.int .i64 (4+(i:Int))] v' fun r w'=>(∃v,i64R v∧r=.returned (.int .i64 v))∧w'=v'):=fun v' hv'=>by
    have:=RAW.out (4+i) v' (by omega) hv'
    rw [i_add] at this
    exact this
   have FIN:Hid (∀(d c:Nat) (w3:World),d=k % 2→c<15→Keeps w2 w3→(∃(s':ByteArray) (i':Nat),Value.string (s++lb (dot2.getD d [])++⟨#[91,63]⟩++lb (qConds.getD c [])++⟨#[93]⟩)=.string s'∧Value.int .i64 ((i:Int)+1)=.int .i64 (i':Nat)∧i'≤3∧QkI i' (bs s')∧Keeps (w.alloc (.cells (strs qParts) 9)) w3)∧(3 - ((i:Int)+1)).toNat<(3 - (i:Int)).toNat):=fun d c w3 hd hc hk3=>by
    refine ⟨⟨_,i+1,rfl,by simp,by omega,?_,K0.out.trans hk3⟩,by omega⟩
    have e:bs (s++lb (dot2.getD d [])++⟨#[91,63]⟩++lb (qConds.getD c [])++⟨#[93]⟩)=bs s++qPart k c:=by
     rw [bs_append,bs_append,bs_append,bs_append,bs_lb,bs_lb]
     unfold qPart
     rw [if_neg hk15]
     have:dot2.getD d []=if k % 2=1 then [46,46] else []:=by
      rw [hd]
      rcases Nat.mod_two_eq_zero_or_one k with y | y<;>rw [y]<;>rfl
     rw [this]
     simp [bs]
    rw [e]
    exact HQ.out.add hk hc
   have KA:Hid (∀W,Keeps w2 W→Keeps w2 (W.alloc (.cells #[.string ⟨#[]⟩,.string ⟨#[46,46]⟩] 9))):=fun W h=>h.alloc _
   obtain ⟨d,hd⟩:∃d,d=k % 2:=⟨_,rfl⟩
   have hd2:d<2:=by omega
   have hd2i:(d:Int)<2:=by omega
   obtain ⟨ds,hds⟩:∃ds,ds=lb (dot2.getD d []):=⟨_,rfl⟩
   have hdl:ds.size≤2:=by
    rw [hds]
    have:d=0∨d=1:=by omega
    rcases this with y | y<;>rw [y]<;>decide
   have hpt:(k:Int).tmod 2=(d:Int):=by rw [Int.tmod_eq_emod_of_nonneg (by omega)]; omega
   have LIT:Hid (∀W:World,(W.alloc (.cells #[.string ⟨#[]⟩,.string ⟨#[46,46]⟩] 9)).cell? ⟨W.heap.size,d,none⟩=some (.string ds)):=fun W=>by rw [hds]; exact lit_cell W (l:=dot2) 9 hd2
   have CC:Hid (∀(W w4:World) (gb:Nat),Keeps W w4→W.cell? ⟨gb,d,none⟩=some (.string ds)→w4.cell? ⟨gb,d,none⟩=some (.string ds)):=fun W w4 gb h hc=>(h.cell (World.block_lt_of_cell? W _ hc) id).trans hc
   have FIN2:Hid (∀(cs:ByteArray) (w3:World),(∃c,c<15∧cs=lb (qConds.getD c []))→Keeps w2 w3→(∃(s':ByteArray) (i':Nat),Value.string (s++ds++⟨#[91,63]⟩++cs++⟨#[93]⟩)=.string s'∧Value.int .i64 ((i:Int)+1)=.int .i64 (i':Nat)∧i'≤3∧QkI i' (bs s')∧Keeps (w.alloc (.cells (strs qParts) 9)) w3)∧(3 - ((i:Int)+1)).toNat<(3 - (i:Int)).toNat):=fun cs w3 hc hk3=>by
    obtain ⟨c,hc,rfl⟩:=hc
    rw [hds]
    exact FIN.out d c w3 hd hc hk3
   clear HQ K0 LK RAW HI hk15 hds hd FIN
   go_wp2_with fail
   have hz1:¬9223372036854775807<s.size+ds.size:=by omega
   have hz2:¬9223372036854775807<s.size+ds.size+2:=by omega
   refine wp_region_held_drew (S:=fun w'=>Keeps w2 w') (by kernel_rfl) (Fr.refl _ _).drew (fun _=>?_)
   have HK:=hide ((Fr.refl (fun _=>False) w2).drew)
   generalize w2.drew=W0 at *
   refine wpAnyH_take (i:=0) (v:=?v1) rfl (by kernel_rfl) (by kernel_rfl) (by kernel_rfl) (fun _ _ _ h=>h) (Or.inl ⟨by rfl,?hy1⟩) (by assumption) ?rest1
   case hy1=>(intro w hSw; (try dsimp only at hSw); (go_simp<;>with_reducible rfl))
   try simp only [Act.put,nrm]
   refine wpAnyH_take (i:=2) (v:=?v2) rfl (by kernel_rfl) (by kernel_rfl) (by kernel_rfl) (fun _ _ _ h=>h) (Or.inl ⟨by rfl,?hy2⟩) (by assumption) ?rest2
   case hy2=>(intro w hSw; (try dsimp only at hSw); (go_simp<;>with_reducible rfl))
   try simp only [Act.put,nrm]
   refine wpAnyH_take (i:=3) (v:=?v3) rfl (by kernel_rfl) (by kernel_rfl) (by kernel_rfl) (fun _ _ _ h=>h) (Or.inl ⟨by rfl,?hy3⟩) (by assumption) ?rest3
   case hy3=>(intro w hSw; (try dsimp only at hSw); (go_simp<;>with_reducible rfl))
   try simp only [Act.put,nrm]
   refine wpAnyH_take (i:=8) (v:=?v4) rfl (by kernel_rfl) (by kernel_rfl) (by kernel_rfl) (fun _ _ _ h=>h) (Or.inl ⟨by rfl,?hy4⟩) (by assumption) ?rest4
   case hy4=>(intro w hSw; (try dsimp only at hSw); (go_simp<;>with_reducible rfl))
   try simp only [Act.put,nrm]
   refine wpAnyH_take (i:=9) (v:=?v5) rfl (by kernel_rfl) (by kernel_rfl) (by kernel_rfl) (fun _ _ _ h=>h) (Or.inl ⟨by rfl,?hy5⟩) (by assumption) ?rest5
   case hy5=>(intro w hSw; (try dsimp only at hSw); (go_simp<;>with_reducible rfl))
   try simp only [Act.put,nrm]
   refine wpAnyH_take (i:=10) (v:=?v6) rfl (by kernel_rfl) (by kernel_rfl) (by kernel_rfl) (fun _ _ _ h=>h) (Or.inl ⟨by rfl,?hy6⟩) (by assumption) ?rest6
   case hy6=>(intro w hSw; (try dsimp only at hSw); (go_simp<;>with_reducible rfl))
   try simp only [Act.put,nrm]
   refine wpAnyH_ready (rs:=[1,11]) (by kernel_rfl) (by simp) ?_
   refine AllReadyH.cons rfl (fun K hK=>?_) (AllReadyH.cons rfl (fun K hK=>?_) AllReadyH.nil)
   ·go_simp
    have hc:=LIT.out W0
    have HK1:=hide (KA.out W0 HK.out)
    refine hK.out _ _ HK1.out (fun _=>?_)
    clear hK K HK
    generalize W0.alloc (.cells #[.string ⟨#[]⟩,.string ⟨#[46,46]⟩] 9)=W1 at *
    generalize W0.heap.size=gb at *
    have HK:=HK1
    clear HK1
    try simp only [Act.put,nrm]
    refine wpAnyH_take (i:=4) (v:=?v7) rfl (by kernel_rfl) (by kernel_rfl) (by kernel_rfl) (fun _ _ _ h=>h) (Or.inl ⟨by rfl,?hy7⟩) (by assumption) ?rest7
    case hy7=>(intro w hSw; (try dsimp only at hSw); (go_simp<;>with_reducible rfl))
    try simp only [Act.put,nrm]
    refine wpAnyH_ready (rs:=[5,11]) (by kernel_rfl) (by simp) ?_
    refine AllReadyH.cons rfl (fun K hK=>?_) (AllReadyH.cons rfl (fun K hK=>?_) AllReadyH.nil)
    ·go_simp
     refine hK.out _ _ HK.out (fun _=>?_)
     clear hK K hc
     try simp only [Act.put,nrm]
     refine wpAnyH_take (i:=6) (v:=?v8) rfl (by kernel_rfl) (by kernel_rfl) (by kernel_rfl) (fun _ _ _ h=>h) (Or.inl ⟨by rfl,?hy8⟩) (by assumption) ?rest8
     case hy8=>(intro w hSw; (try dsimp only at hSw); (go_simp<;>with_reducible rfl))
     try simp only [Act.put,nrm]
     refine wpAnyH_take (i:=7) (v:=?v9) rfl (by kernel_rfl) (by kernel_rfl) (by kernel_rfl) (fun _ _ _ h=>h) (Or.inl ⟨by rfl,?hy9⟩) (by assumption) ?rest9
     case hy9=>(intro w hSw; (try dsimp only at hSw); (go_simp<;>with_reducible rfl))
     try simp only [Act.put,nrm]
     refine wpAnyH_ready (rs:=[11]) (by kernel_rfl) (by simp) ?_
     refine AllReadyH.cons rfl (fun K hK=>?_) AllReadyH.nil
     go_simp
     refine (R4.out _ HK.out).mono ?_
     rintro r w3 ⟨⟨v3,hv3,rfl⟩,hw⟩
     obtain rfl:W1=w3:=hw.symm
     clear hw
     refine hK.out _ _ HK.out (fun _=>?_)
     clear hK K
     try simp only [Act.put,nrm]
     refine wpAnyH_ready (rs:=[12]) (by kernel_rfl) (by simp) ?_
     refine AllReadyH.cons rfl (fun K hK=>?_) AllReadyH.nil
     go_simp
     refine (p_cond hv3).mono ?_
     rintro r w4 ⟨⟨cs,hcs,hcl,rfl⟩,k4⟩
     have HCS:=hide hcs
     have hz3:¬9223372036854775807<s.size+ds.size+2+cs.size:=by omega
     have hz4:¬9223372036854775807<s.size+ds.size+2+cs.size+1:=by omega
     have HK4:=hide (HK.out.trans k4)
     refine hK.out _ _ HK4.out (fun _=>?_)
     clear hK K HK k4 hcs
     have HK:=HK4
     clear HK4
     try simp only [Act.put,nrm]
     refine wpAnyH_take (i:=13) (v:=?v10) rfl (by kernel_rfl) (by kernel_rfl) (by kernel_rfl) (fun _ _ _ h=>h) (Or.inl ⟨by rfl,?hy10⟩) (by assumption) ?rest10
     case hy10=>(intro w hSw; (try dsimp only at hSw); (go_simp<;>with_reducible rfl))
     try simp only [Act.put,nrm]
     refine wpAnyH_take (i:=14) (v:=?v11) rfl (by kernel_rfl) (by kernel_rfl) (by kernel_rfl) (fun _ _ _ h=>h) (Or.inl ⟨by rfl,?hy11⟩) (by assumption) ?rest11
     case hy11=>(intro w hSw; (try dsimp only at hSw); (go_simp<;>with_reducible rfl))
     try simp only [Act.put,nrm]
     refine wpAnyH_take (i:=15) (v:=?v12) rfl (by kernel_rfl) (by kernel_rfl) (by kernel_rfl) (fun _ _ _ h=>h) (Or.inl ⟨by rfl,?hy12⟩) (by assumption) ?rest12
     case hy12=>(intro w hSw; (try dsimp only at hSw); (go_simp<;>with_reducible rfl))
     try simp only [Act.put,nrm]
     refine wpAnyH_done (by kernel_rfl) ?_ _
     go_wp2
     exact FIN2.out _ _ HCS.out HK.out
    go_simp
    refine (R4.out _ HK.out).mono ?_
    rintro r w3 ⟨⟨v3,hv3,rfl⟩,hw⟩
    obtain rfl:W1=w3:=hw.symm
    clear hw
    refine hK.out _ _ HK.out (fun _=>?_)
    clear hK K
    try simp only [Act.put,nrm]
    refine wpAnyH_ready (rs:=[5,12]) (by kernel_rfl) (by simp) ?_
    refine AllReadyH.cons rfl (fun K hK=>?_) (AllReadyH.cons rfl (fun K hK=>?_) AllReadyH.nil)
    ·go_simp
     refine hK.out _ _ HK.out (fun _=>?_)
     clear hK K hc
     try simp only [Act.put,nrm]
     refine wpAnyH_take (i:=6) (v:=?v13) rfl (by kernel_rfl) (by kernel_rfl) (by kernel_rfl) (fun _ _ _ h=>h) (Or.inl ⟨by rfl,?hy13⟩) (by assumption) ?rest13
     case hy13=>(intro w hSw; (try dsimp only at hSw); (go_simp<;>with_reducible rfl))
     try simp only [Act.put,nrm]
     refine wpAnyH_take (i:=7) (v:=?v14) rfl (by kernel_rfl) (by kernel_rfl) (by kernel_rfl) (fun _ _ _ h=>h) (Or.inl ⟨by rfl,?hy14⟩) (by assumption) ?rest14
     case hy14=>(intro w hSw; (try dsimp only at hSw); (go_simp<;>with_reducible rfl))
     try simp only [Act.put,nrm]
     refine wpAnyH_ready (rs:=[12]) (by kernel_rfl) (by simp) ?_
     refine AllReadyH.cons rfl (fun K hK=>?_) AllReadyH.nil
     go_simp
     refine (p_cond hv3).mono ?_
     rintro r w4 ⟨⟨cs,hcs,hcl,rfl⟩,k4⟩
     have HCS:=hide hcs
     have hz3:¬9223372036854775807<s.size+ds.size+2+cs.size:=by omega
     have hz4:¬9223372036854775807<s.size+ds.size+2+cs.size+1:=by omega
     have HK4:=hide (HK.out.trans k4)
     refine hK.out _ _ HK4.out (fun _=>?_)
     clear hK K HK k4 hcs
     have HK:=HK4
     clear HK4
     try simp only [Act.put,nrm]
     refine wpAnyH_take (i:=13) (v:=?v15) rfl (by kernel_rfl) (by kernel_rfl) (by kernel_rfl) (fun _ _ _ h=>h) (Or.inl ⟨by rfl,?hy15⟩) (by assumption) ?rest15
     case hy15=>(intro w hSw; (try dsimp only at hSw); (go_simp<;>with_reducible rfl))
     try simp only [Act.put,nrm]
     refine wpAnyH_take (i:=14) (v:=?v16) rfl (by kernel_rfl) (by kernel_rfl) (by kernel_rfl) (fun _ _ _ h=>h) (Or.inl ⟨by rfl,?hy16⟩) (by assumption) ?rest16
     case hy16=>(intro w hSw; (try dsimp only at hSw); (go_simp<;>with_reducible rfl))
     try simp only [Act.put,nrm]
     refine wpAnyH_take (i:=15) (v:=?v17) rfl (by kernel_rfl) (by kernel_rfl) (by kernel_rfl) (fun _ _ _ h=>h) (Or.inl ⟨by rfl,?hy17⟩) (by assumption) ?rest17
     case hy17=>(intro w hSw; (try dsimp only at hSw); (go_simp<;>with_reducible rfl))
     try simp only [Act.put,nrm]
     refine wpAnyH_done (by kernel_rfl) ?_ _
     go_wp2
     exact FIN2.out _ _ HCS.out HK.out
    go_simp
    refine (p_cond hv3).mono ?_
    rintro r w4 ⟨⟨cs,hcs,hcl,rfl⟩,k4⟩
    have HCS:=hide hcs
    have hz3:¬9223372036854775807<s.size+ds.size+2+cs.size:=by omega
    have hz4:¬9223372036854775807<s.size+ds.size+2+cs.size+1:=by omega
    have hc4:=CC.out _ _ _ k4 hc
    clear hc
    have hc:=hc4
    clear hc4
    have HK4:=hide (HK.out.trans k4)
    refine hK.out _ _ HK4.out (fun _=>?_)
    clear hK K HK k4 hcs
    have HK:=HK4
    clear HK4
    try simp only [Act.put,nrm]
    refine wpAnyH_ready (rs:=[5]) (by kernel_rfl) (by simp) ?_
    refine AllReadyH.cons rfl (fun K hK=>?_) AllReadyH.nil
    go_simp
    refine hK.out _ _ HK.out (fun _=>?_)
    clear hK K hc
    try simp only [Act.put,nrm]
    refine wpAnyH_take (i:=6) (v:=?v18) rfl (by kernel_rfl) (by kernel_rfl) (by kernel_rfl) (fun _ _ _ h=>h) (Or.inl ⟨by rfl,?hy18⟩) (by assumption) ?rest18
    case hy18=>(intro w hSw; (try dsimp only at hSw); (go_simp<;>with_reducible rfl))
    try simp only [Act.put,nrm]
    refine wpAnyH_take (i:=7) (v:=?v19) rfl (by kernel_rfl) (by kernel_rfl) (by kernel_rfl) (fun _ _ _ h=>h) (Or.inl ⟨by rfl,?hy19⟩) (by assumption) ?rest19
    case hy19=>(intro w hSw; (try dsimp only at hSw); (go_simp<;>with_reducible rfl))
    try simp only [Act.put,nrm]
    refine wpAnyH_take (i:=13) (v:=?v20) rfl (by kernel_rfl) (by kernel_rfl) (by kernel_rfl) (fun _ _ _ h=>h) (Or.inl ⟨by rfl,?hy20⟩) (by assumption) ?rest20
    case hy20=>(intro w hSw; (try dsimp only at hSw); (go_simp<;>with_reducible rfl))
    try simp only [Act.put,nrm]
    refine wpAnyH_take (i:=14) (v:=?v21) rfl (by kernel_rfl) (by kernel_rfl) (by kernel_rfl) (fun _ _ _ h=>h) (Or.inl ⟨by rfl,?hy21⟩) (by assumption) ?rest21
    case hy21=>(intro w hSw; (try dsimp only at hSw); (go_simp<;>with_reducible rfl))
    try simp only [Act.put,nrm]
    refine wpAnyH_take (i:=15) (v:=?v22) rfl (by kernel_rfl) (by kernel_rfl) (by kernel_rfl) (fun _ _ _ h=>h) (Or.inl ⟨by rfl,?hy22⟩) (by assumption) ?rest22
    case hy22=>(intro w hSw; (try dsimp only at hSw); (go_simp<;>with_reducible rfl))
    try simp only [Act.put,nrm]
    refine wpAnyH_done (by kernel_rfl) ?_ _
    go_wp2
    exact FIN2.out _ _ HCS.out HK.out
   go_simp
   refine (R4.out _ HK.out).mono ?_
   rintro r w3 ⟨⟨v3,hv3,rfl⟩,hw⟩
   obtain rfl:W0=w3:=hw.symm
   clear hw
   refine hK.out _ _ HK.out (fun _=>?_)
   clear hK K
   try simp only [Act.put,nrm]
   refine wpAnyH_ready (rs:=[1,12]) (by kernel_rfl) (by simp) ?_
   refine AllReadyH.cons rfl (fun K hK=>?_) (AllReadyH.cons rfl (fun K hK=>?_) AllReadyH.nil)
   ·go_simp
    have hc:=LIT.out W0
    have HK1:=hide (KA.out W0 HK.out)
    refine hK.out _ _ HK1.out (fun _=>?_)
    clear hK K HK
    generalize W0.alloc (.cells #[.string ⟨#[]⟩,.string ⟨#[46,46]⟩] 9)=W5 at *
    generalize W0.heap.size=gb at *
    have HK:=HK1
    clear HK1
    try simp only [Act.put,nrm]
    refine wpAnyH_take (i:=4) (v:=?v23) rfl (by kernel_rfl) (by kernel_rfl) (by kernel_rfl) (fun _ _ _ h=>h) (Or.inl ⟨by rfl,?hy23⟩) (by assumption) ?rest23
    case hy23=>(intro w hSw; (try dsimp only at hSw); (go_simp<;>with_reducible rfl))
    try simp only [Act.put,nrm]
    refine wpAnyH_ready (rs:=[5,12]) (by kernel_rfl) (by simp) ?_
    refine AllReadyH.cons rfl (fun K hK=>?_) (AllReadyH.cons rfl (fun K hK=>?_) AllReadyH.nil)
    ·go_simp
     refine hK.out _ _ HK.out (fun _=>?_)
     clear hK K hc
     try simp only [Act.put,nrm]
     refine wpAnyH_take (i:=6) (v:=?v24) rfl (by kernel_rfl) (by kernel_rfl) (by kernel_rfl) (fun _ _ _ h=>h) (Or.inl ⟨by rfl,?hy24⟩) (by assumption) ?rest24
     case hy24=>(intro w hSw; (try dsimp only at hSw); (go_simp<;>with_reducible rfl))
     try simp only [Act.put,nrm]
     refine wpAnyH_take (i:=7) (v:=?v25) rfl (by kernel_rfl) (by kernel_rfl) (by kernel_rfl) (fun _ _ _ h=>h) (Or.inl ⟨by rfl,?hy25⟩) (by assumption) ?rest25
     case hy25=>(intro w hSw; (try dsimp only at hSw); (go_simp<;>with_reducible rfl))
     try simp only [Act.put,nrm]
     refine wpAnyH_ready (rs:=[12]) (by kernel_rfl) (by simp) ?_
     refine AllReadyH.cons rfl (fun K hK=>?_) AllReadyH.nil
     go_simp
     refine (p_cond hv3).mono ?_
     rintro r w4 ⟨⟨cs,hcs,hcl,rfl⟩,k4⟩
     have HCS:=hide hcs
     have hz3:¬9223372036854775807<s.size+ds.size+2+cs.size:=by omega
     have hz4:¬9223372036854775807<s.size+ds.size+2+cs.size+1:=by omega
     have HK4:=hide (HK.out.trans k4)
     refine hK.out _ _ HK4.out (fun _=>?_)
     clear hK K HK k4 hcs
     have HK:=HK4
     clear HK4
     try simp only [Act.put,nrm]
     refine wpAnyH_take (i:=13) (v:=?v26) rfl (by kernel_rfl) (by kernel_rfl) (by kernel_rfl) (fun _ _ _ h=>h) (Or.inl ⟨by rfl,?hy26⟩) (by assumption) ?rest26
     case hy26=>(intro w hSw; (try dsimp only at hSw); (go_simp<;>with_reducible rfl))
     try simp only [Act.put,nrm]
     refine wpAnyH_take (i:=14) (v:=?v27) rfl (by kernel_rfl) (by kernel_rfl) (by kernel_rfl) (fun _ _ _ h=>h) (Or.inl ⟨by rfl,?hy27⟩) (by assumption) ?rest27
     case hy27=>(intro w hSw; (try dsimp only at hSw); (go_simp<;>with_reducible rfl))
     try simp only [Act.put,nrm]
     refine wpAnyH_take (i:=15) (v:=?v28) rfl (by kernel_rfl) (by kernel_rfl) (by kernel_rfl) (fun _ _ _ h=>h) (Or.inl ⟨by rfl,?hy28⟩) (by assumption) ?rest28
     case hy28=>(intro w hSw; (try dsimp only at hSw); (go_simp<;>with_reducible rfl))
     try simp only [Act.put,nrm]
     refine wpAnyH_done (by kernel_rfl) ?_ _
     go_wp2
     exact FIN2.out _ _ HCS.out HK.out
    go_simp
    refine (p_cond hv3).mono ?_
    rintro r w4 ⟨⟨cs,hcs,hcl,rfl⟩,k4⟩
    have HCS:=hide hcs
    have hz3:¬9223372036854775807<s.size+ds.size+2+cs.size:=by omega
    have hz4:¬9223372036854775807<s.size+ds.size+2+cs.size+1:=by omega
    have hc4:=CC.out _ _ _ k4 hc
    clear hc
    have hc:=hc4
    clear hc4
    have HK4:=hide (HK.out.trans k4)
    refine hK.out _ _ HK4.out (fun _=>?_)
    clear hK K HK k4 hcs
    have HK:=HK4
    clear HK4
    try simp only [Act.put,nrm]
    refine wpAnyH_ready (rs:=[5]) (by kernel_rfl) (by simp) ?_
    refine AllReadyH.cons rfl (fun K hK=>?_) AllReadyH.nil
    go_simp
    refine hK.out _ _ HK.out (fun _=>?_)
    clear hK K hc
    try simp only [Act.put,nrm]
    refine wpAnyH_take (i:=6) (v:=?v29) rfl (by kernel_rfl) (by kernel_rfl) (by kernel_rfl) (fun _ _ _ h=>h) (Or.inl ⟨by rfl,?hy29⟩) (by assumption) ?rest29
    case hy29=>(intro w hSw; (try dsimp only at hSw); (go_simp<;>with_reducible rfl))
    try simp only [Act.put,nrm]
    refine wpAnyH_take (i:=7) (v:=?v30) rfl (by kernel_rfl) (by kernel_rfl) (by kernel_rfl) (fun _ _ _ h=>h) (Or.inl ⟨by rfl,?hy30⟩) (by assumption) ?rest30
    case hy30=>(intro w hSw; (try dsimp only at hSw); (go_simp<;>with_reducible rfl))
    try simp only [Act.put,nrm]
    refine wpAnyH_take (i:=13) (v:=?v31) rfl (by kernel_rfl) (by kernel_rfl) (by kernel_rfl) (fun _ _ _ h=>h) (Or.inl ⟨by rfl,?hy31⟩) (by assumption) ?rest31
    case hy31=>(intro w hSw; (try dsimp only at hSw); (go_simp<;>with_reducible rfl))
    try simp only [Act.put,nrm]
    refine wpAnyH_take (i:=14) (v:=?v32) rfl (by kernel_rfl) (by kernel_rfl) (by kernel_rfl) (fun _ _ _ h=>h) (Or.inl ⟨by rfl,?hy32⟩) (by assumption) ?rest32
    case hy32=>(intro w hSw; (try dsimp only at hSw); (go_simp<;>with_reducible rfl))
    try simp only [Act.put,nrm]
    refine wpAnyH_take (i:=15) (v:=?v33) rfl (by kernel_rfl) (by kernel_rfl) (by kernel_rfl) (fun _ _ _ h=>h) (Or.inl ⟨by rfl,?hy33⟩) (by assumption) ?rest33
    case hy33=>(intro w hSw; (try dsimp only at hSw); (go_simp<;>with_reducible rfl))
    try simp only [Act.put,nrm]
    refine wpAnyH_done (by kernel_rfl) ?_ _
    go_wp2
    exact FIN2.out _ _ HCS.out HK.out
   go_simp
   refine (p_cond hv3).mono ?_
   rintro r w4 ⟨⟨cs,hcs,hcl,rfl⟩,k4⟩
   have HCS:=hide hcs
   have hz3:¬9223372036854775807<s.size+ds.size+2+cs.size:=by omega
   have hz4:¬9223372036854775807<s.size+ds.size+2+cs.size+1:=by omega
   have HK4:=hide (HK.out.trans k4)
   refine hK.out _ _ HK4.out (fun _=>?_)
   clear hK K HK k4 hcs
   have HK:=HK4
   clear HK4
   try simp only [Act.put,nrm]
   refine wpAnyH_ready (rs:=[1]) (by kernel_rfl) (by simp) ?_
   refine AllReadyH.cons rfl (fun K hK=>?_) AllReadyH.nil
   go_simp
   have hc:=LIT.out w4
   have HK1:=hide (KA.out w4 HK.out)
   refine hK.out _ _ HK1.out (fun _=>?_)
   clear hK K HK
   generalize w4.alloc (.cells #[.string ⟨#[]⟩,.string ⟨#[46,46]⟩] 9)=W9 at *
   generalize w4.heap.size=gb at *
   have HK:=HK1
   clear HK1
   try simp only [Act.put,nrm]
   refine wpAnyH_take (i:=4) (v:=?v34) rfl (by kernel_rfl) (by kernel_rfl) (by kernel_rfl) (fun _ _ _ h=>h) (Or.inl ⟨by rfl,?hy34⟩) (by assumption) ?rest34
   case hy34=>(intro w hSw; (try dsimp only at hSw); (go_simp<;>with_reducible rfl))
   try simp only [Act.put,nrm]
   refine wpAnyH_ready (rs:=[5]) (by kernel_rfl) (by simp) ?_
   refine AllReadyH.cons rfl (fun K hK=>?_) AllReadyH.nil
   go_simp
   refine hK.out _ _ HK.out (fun _=>?_)
   clear hK K hc
   try simp only [Act.put,nrm]
   refine wpAnyH_take (i:=6) (v:=?v35) rfl (by kernel_rfl) (by kernel_rfl) (by kernel_rfl) (fun _ _ _ h=>h) (Or.inl ⟨by rfl,?hy35⟩) (by assumption) ?rest35
   case hy35=>(intro w hSw; (try dsimp only at hSw); (go_simp<;>with_reducible rfl))
   try simp only [Act.put,nrm]
   refine wpAnyH_take (i:=7) (v:=?v36) rfl (by kernel_rfl) (by kernel_rfl) (by kernel_rfl) (fun _ _ _ h=>h) (Or.inl ⟨by rfl,?hy36⟩) (by assumption) ?rest36
   case hy36=>(intro w hSw; (try dsimp only at hSw); (go_simp<;>with_reducible rfl))
   try simp only [Act.put,nrm]
   refine wpAnyH_take (i:=13) (v:=?v37) rfl (by kernel_rfl) (by kernel_rfl) (by kernel_rfl) (fun _ _ _ h=>h) (Or.inl ⟨by rfl,?hy37⟩) (by assumption) ?rest37
   case hy37=>(intro w hSw; (try dsimp only at hSw); (go_simp<;>with_reducible rfl))
   try simp only [Act.put,nrm]
   refine wpAnyH_take (i:=14) (v:=?v38) rfl (by kernel_rfl) (by kernel_rfl) (by kernel_rfl) (fun _ _ _ h=>h) (Or.inl ⟨by rfl,?hy38⟩) (by assumption) ?rest38
   case hy38=>(intro w hSw; (try dsimp only at hSw); (go_simp<;>with_reducible rfl))
   try simp only [Act.put,nrm]
   refine wpAnyH_take (i:=15) (v:=?v39) rfl (by kernel_rfl) (by kernel_rfl) (by kernel_rfl) (fun _ _ _ h=>h) (Or.inl ⟨by rfl,?hy39⟩) (by assumption) ?rest39
   case hy39=>(intro w hSw; (try dsimp only at hSw); (go_simp<;>with_reducible rfl))
   try simp only [Act.put,nrm]
   refine wpAnyH_done (by kernel_rfl) ?_ _
   go_wp2
   exact FIN2.out _ _ HCS.out HK.out
  have hik':¬(i:Int)<(k4:Int):=by omega
  have FIN:=hide (And.intro hsz (by have:=HQ.out.fin hi3; rw [bs_len] at this; exact And.intro this.1 this.2.1:FinP (bs s)∧C (bs s) (s.size+1)≤10))
  clear hik RAW LK HQ hv
  go_wp2
  go_ret
  exact ⟨⟨s,rfl,FIN.out⟩,KW.out⟩
end Go.Proofs.YtcbadebjpogmlaaGreatDoor
