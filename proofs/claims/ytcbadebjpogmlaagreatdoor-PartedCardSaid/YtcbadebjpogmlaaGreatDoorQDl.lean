/- Proved: Rows.PartedCardSaid: the law Parted returns true, whatever numbers come in (a condition and its contrary part the values within the text's value; two selectors take what each takes, one behind the other); the package-level variables that the row lists start as the program's text lays them. -/
import Derived.Test.YtcbadebjpogmlaaGreatDoorPDe
import Derived.Test.YtcbadebjpogmlaaGreatDoorQBase
import Derived.Test.YtcbadebjpogmlaaGreatDoorPPk
import Derived.Test.YtcbadebjpogmlaaGreatDoorCards
import Derived.WalkKit
import Derived.ProofKit
import Derived.OpenShut
import Derived.Test.YtcbadebjpogmlaaGreatDoorTie
import Derived.Deep.DeepHandedRow
import Derived.Deep.DeepWitnessRowRef
import Derived.Lib.LaidIn
import Derived.Test.YtcbadebjpogmlaaGreatDoorRows
import Derived.JoinedCond
namespace Go.Proofs.YtcbadebjpogmlaaGreatDoor
open Go.RowKit Tr Go.Conc
def pkV (c:Int) (n:Nat):Nat:=if c<0 then ((-(c+1)) % (n:Int)).toNat else (c % (n:Int)).toNat
theorem pkV_lt (c:Int) {n:Nat} (hn:0<n):pkV c n<n:=by
 unfold pkV
 split
 ·have e0:=Int.emod_nonneg (-(c+1)) (show (n:Int)≠0 by omega)
  have e1:=Int.emod_lt_of_pos (-(c+1)) (show (0:Int)<n by omega)
  omega
 have e0:=Int.emod_nonneg c (show (n:Int)≠0 by omega)
 have e1:=Int.emod_lt_of_pos c (show (0:Int)<n by omega)
 omega
set_option maxRecDepth 100000 in
theorem p_pickV {w:World} {c:Int} (hc:i64R c) {n:Nat} (hn:0<n) (hn2:n≤5000000):Calls Tryz.prog 22 #[.int .i64 c,.int .i64 (n:Nat)] w fun r w'=>r=.returned (.int .i64 (pkV c n:Nat))∧w'=w:=by
 unfold i64R at hc
 by_cases h:c<0
 ·have e:-(c+1).tmod (n:Int)=(-(c+1)) % (n:Int):=by rw [← Int.neg_tmod,Int.tmod_eq_emod_of_nonneg (by omega)]
  have e0:=Int.emod_nonneg (-(c+1)) (show (n:Int)≠0 by omega)
  have FIN:Ending.returned (.int .i64 (-(c+1).tmod (n:Int)))=.returned (.int .i64 (pkV c n:Nat)):=by
   unfold pkV
   rw [if_pos h,e]; congr 2; omega
  have HF:=hide FIN
  clear FIN e e0
  go_enter Tryz.func22,Tryz.ntmps22
  go_wp2
  go_ret
  exact ⟨HF.out,rfl⟩
 have e0:=Int.emod_nonneg c (show (n:Int)≠0 by omega)
 have FIN:Ending.returned (.int .i64 (c % (n:Int)))=.returned (.int .i64 (pkV c n:Nat)):=by
  unfold pkV
  rw [if_neg h]; congr 2; omega
 have HF:=hide FIN
 clear FIN e0
 go_enter Tryz.func22,Tryz.ntmps22
 go_wp2
 go_ret
 exact ⟨HF.out,rfl⟩
def cdV (c:Int):ByteArray:=lb (qConds.getD (pkV c 15) [])
theorem cdV_len (c:Int):(cdV c).size≤30:=cond_len _ (pkV_lt c (by omega))
set_option maxRecDepth 100000 in
theorem p_condV {w:World} {c:Int} (hc:i64R c):Calls Tryz.prog 24 #[.int .i64 c] w fun r w'=>r=.returned (.string (cdV c))∧Keeps w w':=by
 have F1:=hide ((Fr.refl (fun _=>False) w).alloc (.cells (strs qConds) 9))
 have PK:=hide (p_pickV (w:=w.alloc (.cells (strs qConds) 9)) hc (n:=15) (by omega) (by omega))
 have LC:Hid ((w.alloc (.cells (strs qConds) 9)).cell? ⟨w.heap.size,pkV c 15,none⟩=some (.string (cdV c))):=lit_cell w _ (pkV_lt c (by omega))
 have hk:=pkV_lt c (n:=15) (by omega)
 clear hc
 generalize pkV c 15=k at *
 generalize cdV c=cs at *
 go_enter Tryz.func24,Tryz.ntmps24
 go_wp2_with fail
 refine PK.out.mono ?_
 rintro r w1 ⟨rfl,rfl⟩
 have h1:=LC.out
 clear PK LC
 go_wp2
 go_ret
 exact ⟨rfl,F1.out⟩
theorem q_of {s:ByteArray} {l:List UInt8} (e:bs s=l) (h:finB l=true):s.size≤120∧FinP (bs s)∧C (bs s) (s.size+1)≤10:=by
 obtain ⟨h1,h2,h3⟩:=finB_eq h
 rw [← e] at h1 h2 h3
 rw [bs_len] at h2 h3
 exact ⟨h3,h1,h2⟩
def sX (c:ByteArray):ByteArray:=⟨#[36,91,63]⟩++c++⟨#[93]⟩
def sY (c:ByteArray):ByteArray:=⟨#[36,91,63,33,40]⟩++c++⟨#[41,93]⟩
def sB (c d:ByteArray):ByteArray:=⟨#[36,91,63]⟩++c++⟨#[44,63]⟩++d++⟨#[93]⟩
theorem bs_X (c:Int):bs (sX (cdV c))=qX (pkV c 15):=by unfold sX cdV; rw [bs_append,bs_append,bs_lb]; rfl
theorem bs_Y (c:Int):bs (sY (cdV c))=qY (pkV c 15):=by unfold sY cdV; rw [bs_append,bs_append,bs_lb]; rfl
theorem bs_B (c d:Int):bs (sB (cdV c) (cdV d))=qB (pkV c 15) (pkV d 15):=by unfold sB cdV; rw [bs_append,bs_append,bs_append,bs_append,bs_lb,bs_lb]; rfl
structure Five (c d:Int) (φ ψ:Tv→Bool):Prop where
 x:pQuery (bs (sX (cdV c)))=[⟨false,[whS φ]⟩]
 y:pQuery (bs (sY (cdV c)))=[⟨false,[whS (fun t=>!(φ t))]⟩]
 z:pQuery (bs (sX (cdV d)))=[⟨false,[whS ψ]⟩]
 b:pQuery (bs (sB (cdV c) (cdV d)))=[⟨false,[whS φ,whS ψ]⟩]
 fx:(sX (cdV c)).size≤120∧FinP (bs (sX (cdV c)))∧C (bs (sX (cdV c))) ((sX (cdV c)).size+1)≤10
 fy:(sY (cdV c)).size≤120∧FinP (bs (sY (cdV c)))∧C (bs (sY (cdV c))) ((sY (cdV c)).size+1)≤10
 fz:(sX (cdV d)).size≤120∧FinP (bs (sX (cdV d)))∧C (bs (sX (cdV d))) ((sX (cdV d)).size+1)≤10
 fb:(sB (cdV c) (cdV d)).size≤120∧FinP (bs (sB (cdV c) (cdV d)))∧C (bs (sB (cdV c) (cdV d))) ((sB (cdV c) (cdV d)).size+1)≤10
theorem five (c d:Int):∃φ ψ,Five c d φ ψ:=by
 have hc:=pkV_lt c (n:=15) (by omega)
 have hd:=pkV_lt d (n:=15) (by omega)
 obtain ⟨φ,ψ,h1,h2,h3,h4⟩:=parted_q hc hd
 obtain ⟨f1,f2,f3⟩:=fin_qs hc hd
 obtain ⟨f4,_,_⟩:=fin_qs hd hd
 exact ⟨φ,ψ,by rw [bs_X]; exact h1,by rw [bs_Y]; exact h2,by rw [bs_X]; exact h3,by rw [bs_B]; exact h4,q_of (bs_X c) f1,q_of (bs_Y c) f2,q_of (bs_X d) f4,q_of (bs_B c d) f3⟩
def hqF:ByteArray:=⟨#[36,91,42,93]⟩
theorem finF:FinP (bs hqF)∧C (bs hqF) (hqF.size+1)≤10:=by unfold FinP; decide +kernel
theorem shpF:shp (pQuery (bs hqF))=[(false,[1])]:=by decide +kernel
theorem cnt_part {T:Tv} (hT:Tree T) (φ:Tv→Bool) {k:Nat} (hk:k<T.ws.length):cntF (nG (T.ws.filter φ)) (nG T.ws k) (T.ws.filter φ).length+cntF (nG (T.ws.filter (fun t=>!(φ t)))) (nG T.ws k) (T.ws.filter (fun t=>!(φ t))).length=1:=by
 have sub:∀u ∈ T.ws,u ∈ allT 10 T:=fun u hu=>mem_kid hT.d (self_mem hT.d) hu
 have hv:=sub _ (List.getElem_mem hk)
 rw [nG_at hk]
 have h1:=cntF_at hT (N:=T.ws.filter φ) (fun u hu=>sub u (List.mem_filter.1 hu).1) hv _ (Nat.le_refl _)
 have h2:=cntF_at hT (N:=T.ws.filter (fun t=>!(φ t))) (fun u hu=>sub u (List.mem_filter.1 hu).1) hv _ (Nat.le_refl _)
 rw [List.take_length] at h1 h2
 rw [h1,h2]
 have o:∀χ:Tv→Bool,(T.ws.filter χ).countP (fun u=>fr u == fr T.ws[k])=if χ T.ws[k]=true then 1 else 0:=fun χ=>by
  have:=occ_dir hT.d hT.a (self_mem hT.d) (self_mem hT.d) hk [whS χ]
  rw [if_pos (by simp)] at this
  have e:dirS [whS χ] T=T.ws.filter χ:=by
   show [whS χ].flatMap (fun x=>takS x T)=_
   rw [List.flatMap_cons,List.flatMap_nil,List.append_nil,takS_5 rfl]
   rfl
  rw [e] at this
  unfold occ at this
  rw [this]
  simp [cntS,takes1,whS]
 rw [o,o]
 cases φ T.ws[k]<;>rfl
theorem nds_len {ts:ByteArray} (hl:ts.size≤500) (h0:txErr (bs ts)=0) {T:Tv} (ht:txVal (bs ts)=some T):Tree T∧T.ws.length≤4000000:=by
 obtain ⟨hT,hB⟩:=tx_tree (l:=bs ts) (by rw [bs_len]; omega) h0 ht
 refine ⟨hT,?_⟩
 have hd:=hT.d
 have e:(allT 10 T)=T::T.ws.flatMap (allT 9):=rfl
 have a:=asc_len ((allT 10 T).map fr) 0 4000000 (List.pairwise_map.2 hT.a) (fun x hx=>by
  obtain ⟨v,hv,rfl⟩:=List.mem_map.1 hx
  exact ⟨Nat.zero_le _,hB v hv⟩)
 have b:∀(l:List Tv),l.length≤(l.flatMap (allT 9)).length:=fun l=>by
  induction l with
  | nil=>simp
  | cons x l ih =>
   rw [List.flatMap_cons,List.length_append,List.length_cons]
   have:0<(allT 9 x).length:=by show 0<(x::x.ws.flatMap (allT 8)).length; simp
   omega
 have:=b T.ws
 rw [List.length_map,e,List.length_cons] at a
 omega
theorem s_nodes {w:World} {gq:Nat} {xs:List Sg} (h:QH w gq xs) (he:EN w) {ts:ByteArray} (hl:ts.size≤500) (h0:txErr (bs ts)=0) {T:Tv} (ht:txVal (bs ts)=some T) {N:List Tv} (hN:nodesS xs [T]=N):Calls Tryz.prog 18 #[.pointer (some ⟨gq,0,none⟩),.string ts] w fun r w'=>∃ao c,r=.returned (.tuple #[.slice ao N.length c,.int .i64 0,.int .i64 0])∧NdsAt w' ao N.length (nG N)∧Keeps w w':=by
 refine (q_select h he ts (by omega)).mono ?_
 rintro r w' ⟨k,hS | hS⟩
 ·exact absurd h0 hS.1
 obtain ⟨_,T2,sv,ht2,rfl,hR⟩:=hS
 obtain rfl:T2=T:=Option.some.inj (ht2.symm.trans ht)
 rw [hN] at hR
 obtain ⟨ao,c,rfl,hn⟩:=nds_at (own_zero' hR)
 exact ⟨ao,c,rfl,hn,k⟩
set_option maxHeartbeats 8000000 in
set_option maxRecDepth 100000 in
theorem p_parted {w:World} (he:EN w) {wd:Value} (hw:IntsAt w wd) {c d:Int} (hc:i64R c) (hd:i64R d):Calls Tryz.prog 9 #[wd,.int .i64 c,.int .i64 d] w fun r w'=>r=.returned (.bool true)∧Keeps w w':=by
 obtain ⟨φ,ψ,hF⟩:=five c d
 have CC:Hid (∀w:World,Calls Tryz.prog 24 #[.int .i64 c] w fun r w'=>r=.returned (.string (cdV c))∧Keeps w w'):=fun w=>p_condV hc
 have CD:Hid (∀w:World,Calls Tryz.prog 24 #[.int .i64 d] w fun r w'=>r=.returned (.string (cdV d))∧Keeps w w'):=fun w=>p_condV hd
 have QX:Hid (∀w:World,EN w→Calls Tryz.prog 15 #[.string (⟨#[36,91,63]⟩++cdV c++⟨#[93]⟩)] w fun r w'=>∃gq,r=.returned (.pointer (some ⟨gq,0,none⟩))∧QH w' gq [⟨false,[whS φ]⟩]∧Keeps w w'):=fun w he=>by
  have:=p_compiled he hF.fx.1 hF.fx.2.1 hF.fx.2.2
  rw [hF.x] at this; exact this
 have QY:Hid (∀w:World,EN w→Calls Tryz.prog 15 #[.string (⟨#[36,91,63,33,40]⟩++cdV c++⟨#[41,93]⟩)] w fun r w'=>∃gq,r=.returned (.pointer (some ⟨gq,0,none⟩))∧QH w' gq [⟨false,[whS (fun t=>!(φ t))]⟩]∧Keeps w w'):=fun w he=>by
  have:=p_compiled he hF.fy.1 hF.fy.2.1 hF.fy.2.2
  rw [hF.y] at this; exact this
 have QZ:Hid (∀w:World,EN w→Calls Tryz.prog 15 #[.string (⟨#[36,91,63]⟩++cdV d++⟨#[93]⟩)] w fun r w'=>∃gq,r=.returned (.pointer (some ⟨gq,0,none⟩))∧QH w' gq [⟨false,[whS ψ]⟩]∧Keeps w w'):=fun w he=>by
  have:=p_compiled he hF.fz.1 hF.fz.2.1 hF.fz.2.2
  rw [hF.z] at this; exact this
 have QB:Hid (∀w:World,EN w→Calls Tryz.prog 15 #[.string (⟨#[36,91,63]⟩++cdV c++⟨#[44,63]⟩++cdV d++⟨#[93]⟩)] w fun r w'=>∃gq,r=.returned (.pointer (some ⟨gq,0,none⟩))∧QH w' gq [⟨false,[whS φ,whS ψ]⟩]∧Keeps w w'):=fun w he=>by
  have:=p_compiled he hF.fb.1 hF.fb.2.1 hF.fb.2.2
  rw [hF.b] at this; exact this
 have HE:=hide he
 have TX:=hide (p_textF hw)
 have lc:=cdV_len c
 have ld:=cdV_len d
 generalize cdV c=cs at *
 generalize cdV d=ds at *
 clear he hw hF hc hd
 go_enter Tryz.func9,Tryz.ntmps9
 go_wp2_with fail
 refine TX.out.mono ?_
 rintro r w1 ⟨⟨ts,rfl,z1,z2,z3⟩,k1⟩
 have T0:=hide z2
 have K1:=hide k1
 clear k1 z2 z3 TX
 go_wp2_with fail
 refine (p_compiled (s:=hqF) (HE.out.keep K1.out) (by decide) finF.1 finF.2).mono ?_
 rintro r w2 ⟨ga,rfl,hQ,k2⟩
 have SH:=hide shpF
 generalize pQuery (bs hqF)=ys at *
 have A2:=hide hQ
 have K2:=hide (K1.out.trans k2)
 clear hQ k2 K1
 go_wp2_with fail
 refine (CC.out _).mono ?_
 rintro r w3 ⟨rfl,k3⟩
 have A3:=hide (A2.out.keep k3)
 have K3:=hide (K2.out.trans k3)
 clear k3 K2 A2
 go_wp2_with fail
 refine (QX.out _ (HE.out.keep K3.out)).mono ?_
 rintro r w4 ⟨gx,rfl,hQ,k4⟩
 have X4:=hide hQ
 have A4:=hide (A3.out.keep k4)
 have K4:=hide (K3.out.trans k4)
 clear hQ k4 K3 A3 QX
 go_wp2_with fail
 refine (CC.out _).mono ?_
 rintro r w5 ⟨rfl,k5⟩
 have A5:=hide (A4.out.keep k5)
 have X5:=hide (X4.out.keep k5)
 have K5:=hide (K4.out.trans k5)
 clear k5 K4 A4 X4
 go_wp2_with fail
 refine (QY.out _ (HE.out.keep K5.out)).mono ?_
 rintro r w6 ⟨gy,rfl,hQ,k6⟩
 have Y6:=hide hQ
 have A6:=hide (A5.out.keep k6)
 have X6:=hide (X5.out.keep k6)
 have K6:=hide (K5.out.trans k6)
 clear hQ k6 K5 A5 X5 QY
 go_wp2_with fail
 refine (CC.out _).mono ?_
 rintro r w7 ⟨rfl,k7⟩
 have Y7:=hide (Y6.out.keep k7)
 have A7:=hide (A6.out.keep k7)
 have X7:=hide (X6.out.keep k7)
 have K7:=hide (K6.out.trans k7)
 clear k7 K6 A6 X6 Y6 CC
 go_wp2_with fail
 refine (CD.out _).mono ?_
 rintro r w8 ⟨rfl,k8⟩
 have Y8:=hide (Y7.out.keep k8)
 have A8:=hide (A7.out.keep k8)
 have X8:=hide (X7.out.keep k8)
 have K8:=hide (K7.out.trans k8)
 clear k8 K7 A7 X7 Y7
 go_wp2_with fail
 refine (QB.out _ (HE.out.keep K8.out)).mono ?_
 rintro r w9 ⟨gb,rfl,hQ,k9⟩
 have B9:=hide hQ
 have Y9:=hide (Y8.out.keep k9)
 have A9:=hide (A8.out.keep k9)
 have X9:=hide (X8.out.keep k9)
 have K9:=hide (K8.out.trans k9)
 clear hQ k9 K8 A8 X8 Y8 QB
 go_wp2_with fail
 refine (CD.out _).mono ?_
 rintro r w10 ⟨rfl,k10⟩
 have B10:=hide (B9.out.keep k10)
 have Y10:=hide (Y9.out.keep k10)
 have A10:=hide (A9.out.keep k10)
 have X10:=hide (X9.out.keep k10)
 have K10:=hide (K9.out.trans k10)
 clear k10 K9 A9 X9 Y9 B9 CD
 go_wp2_with fail
 refine (QZ.out _ (HE.out.keep K10.out)).mono ?_
 rintro r w11 ⟨gz,rfl,hQ,k11⟩
 have Z11:=hide hQ
 have B11:=hide (B10.out.keep k11)
 have Y11:=hide (Y10.out.keep k11)
 have A11:=hide (A10.out.keep k11)
 have X11:=hide (X10.out.keep k11)
 have K11:=hide (K10.out.trans k11)
 clear hQ k11 K10 A10 X10 Y10 B10 QZ
 obtain ⟨T,ht⟩:=(tx_ok (l:=bs ts) (by rw [bs_len]; omega) T0.out).2.2
 obtain ⟨hT,hwl⟩:=nds_len z1 T0.out ht
 have TT:=hide hT
 have eL:nodesS ys [T]=T.ws:=nodes_every SH.out T
 have eM:=nodes_wh φ T
 have eN:=nodes_wh (fun t=>!(φ t)) T
 have eO:=nodes_wh ψ T
 have eP:=nodes_wh2 φ ψ T
 have SL:=hide (fun (v:World) (hk:Keeps w11 v)=>s_nodes (A11.out.keep hk) ((HE.out.keep K11.out).keep hk) z1 T0.out ht eL)
 have SM:=hide (fun (v:World) (hk:Keeps w11 v)=>s_nodes (X11.out.keep hk) ((HE.out.keep K11.out).keep hk) z1 T0.out ht eM)
 have SN:=hide (fun (v:World) (hk:Keeps w11 v)=>s_nodes (Y11.out.keep hk) ((HE.out.keep K11.out).keep hk) z1 T0.out ht eN)
 have SO:=hide (fun (v:World) (hk:Keeps w11 v)=>s_nodes (Z11.out.keep hk) ((HE.out.keep K11.out).keep hk) z1 T0.out ht eO)
 have SP:=hide (fun (v:World) (hk:Keeps w11 v)=>s_nodes (B11.out.keep hk) ((HE.out.keep K11.out).keep hk) z1 T0.out ht eP)
 have CP:Hid (∀k,k<T.ws.length→cntF (nG (T.ws.filter φ)) (nG T.ws k) (T.ws.filter φ).length+cntF (nG (T.ws.filter (fun t=>!(φ t)))) (nG T.ws k) (T.ws.filter (fun t=>!(φ t))).length=1):=fun k hk=>cnt_part TT.out φ hk
 have l1:=len_part φ T.ws
 have l2:(T.ws.filter φ++T.ws.filter ψ).length=(T.ws.filter φ).length+(T.ws.filter ψ).length:=List.length_append
 have l3:(T.ws.filter ψ).length≤T.ws.length:=List.length_filter_le _ _
 have PA:Hid (∀k,k<(T.ws.filter φ).length+(T.ws.filter ψ).length→nG (T.ws.filter φ++T.ws.filter ψ) k=if k<(T.ws.filter φ).length then nG (T.ws.filter φ) k else nG (T.ws.filter ψ) (k - (T.ws.filter φ).length)):=fun k hk=>by
  rw [nG_at (by rw [List.length_append]; exact hk)]
  by_cases h:k<(T.ws.filter φ).length
  ·rw [if_pos h,nG_at h,List.getElem_append_left h]
  rw [if_neg h,nG_at (show k - (T.ws.filter φ).length<(T.ws.filter ψ).length by omega),List.getElem_append_right (by omega)]
 have L2:=hide l2
 generalize T.ws.filter φ++T.ws.filter ψ=PP at *
 generalize T.ws.filter (fun t=>!(φ t))=NN at *
 generalize T.ws.filter φ=MM at *
 generalize T.ws.filter ψ=OO at *
 generalize T.ws=LL at *
 clear eL eM eN eO eP ht hT TT l2 A11 X11 Y11 Z11 B11 SH HE T0
 go_wp2_with fail
 refine (SL.out _ (Fr.refl _ _)).mono ?_
 rintro r w12 ⟨lo,lcp,rfl,hL,k12⟩
 have RL:=hide hL
 have K12:=hide k12
 clear hL k12 SL
 go_wp2_with fail
 refine (SM.out _ K12.out).mono ?_
 rintro r w13 ⟨mo,mcp,rfl,hM,k13⟩
 have RM:=hide hM
 have RL3:=hide (RL.out.keep k13)
 have K13:=hide (K12.out.trans k13)
 clear hM k13 SM RL K12
 go_wp2_with fail
 refine (SN.out _ K13.out).mono ?_
 rintro r w14 ⟨no,ncp,rfl,hN,k14⟩
 have RN:=hide hN
 have RL4:=hide (RL3.out.keep k14)
 have RM4:=hide (RM.out.keep k14)
 have K14:=hide (K13.out.trans k14)
 clear hN k14 SN RL3 RM K13
 go_wp2_with fail
 refine (SO.out _ K14.out).mono ?_
 rintro r w15 ⟨oo,ocp,rfl,hO,k15⟩
 have RO:=hide hO
 have RL5:=hide (RL4.out.keep k15)
 have RM5:=hide (RM4.out.keep k15)
 have RN5:=hide (RN.out.keep k15)
 have K15:=hide (K14.out.trans k15)
 clear hO k15 SO RL4 RM4 RN K14
 go_wp2_with fail
 refine (SP.out _ K15.out).mono ?_
 rintro r w16 ⟨po,pcp,rfl,hP,k16⟩
 have RP:=hide hP
 have RL6:=hide (RL5.out.keep k16)
 have RM6:=hide (RM5.out.keep k16)
 have RN6:=hide (RN5.out.keep k16)
 have RO6:=hide (RO.out.keep k16)
 have K16:=hide (K11.out.trans (K15.out.trans k16))
 clear hP k16 SP RL5 RM5 RN5 RO K15 K11
 have g1:IntKind.i64.wrap ((MM.length:Int)+(NN.length:Int))=(LL.length:Int):=by rw [IntWalk.i64_in _ (by omega)]; omega
 have l2:=L2.out
 have g2:IntKind.i64.wrap ((MM.length:Int)+(OO.length:Int))=(PP.length:Int):=by rw [IntWalk.i64_in _ (by omega)]; omega
 clear l2
 go_wp2
 go_loopw [28] (fun kv wr=>∃k:Nat,kv=.int .i64 (k:Nat)∧k≤LL.length∧Keeps w16 wr) (fun kv _=>match kv with | .int _ j=>((LL.length:Int) - j).toNat | _=>0)
 case atStart=>exact ⟨0,rfl,by omega,Fr.refl _ _⟩
 case round =>
  obtain ⟨k,rfl,hkl,hK⟩:=hrel
  generalize wr=w0 at *
  have KW:=hide hK
  clear hK
  by_cases hk:k<LL.length
  ·obtain ⟨gl,rfl,hL⟩:=RL6.out (by omega)
   have cp:=CP.out k hk
   have KS:Hid (∀W,Keeps w0 W→W.cell? ⟨gl,k * 3,none⟩=some (.string (nG LL k).1)∧W.cell? ⟨gl,k * 3+1,none⟩=some (.int .i64 (nG LL k).2.1)∧W.cell? ⟨gl,k * 3+2,none⟩=some (.int .i64 (nG LL k).2.2)∧Keeps w0 W):=fun W hW=>by
    obtain ⟨b0,b1,b2⟩:=(hL.keep (KW.out.trans hW)) k hk
    exact ⟨b0,b1,b2,hW⟩
   have TQ:Hid (∀(W:World) (ao:Option Addr) (n ca:Nat) (F:Nat→Nd),NdsAt w0 ao n F→n≤4000000000000→Keeps w0 W→Calls Tryz.prog 23 #[.slice ao n ca,.agg #[.string (nG LL k).1,.int .i64 (nG LL k).2.1,.int .i64 (nG LL k).2.2]] W fun r w'=>r=.returned (.int .i64 (cntF F (nG LL k) n:Nat))∧Keeps w0 w'):=fun W ao n ca F h1 h2 hW=>by
    refine (p_times h2 (h1.keep hW) (nG LL k)).mono ?_
    rintro r w' ⟨rfl,k⟩
    exact ⟨rfl,hW.trans k⟩
   have hM0:=RM6.out.keep KW.out
   have hN0:=RN6.out.keep KW.out
   have FIN:Hid (∀W,Keeps w0 W→(∃k':Nat,Value.int .i64 ((k:Int)+1)=.int .i64 (k':Nat)∧k'≤LL.length∧Keeps w16 W)∧((LL.length:Int) - ((k:Int)+1)).toNat<((LL.length:Int) - (k:Int)).toNat):=fun W hW=>⟨⟨k+1,by simp,by omega,KW.out.trans hW⟩,by omega⟩
   have hkk:(k:Int)<(LL.length:Int):=by omega
   have hwk:IntKind.i64.wrap ((k:Int)+1)=(k:Int)+1:=by rw [IntWalk.i64_in _ (by omega)]
   generalize nG LL k=xx at *
   obtain ⟨x0,x1,x2⟩:=xx
   have hsum:IntKind.i64.wrap ((cntF (nG MM) (x0,x1,x2) MM.length:Int)+(cntF (nG NN) (x0,x1,x2) NN.length:Int))=1:=by rw [IntWalk.i64_in _ (by omega)]; omega
   clear CP PA RL6 RM6 RN6 RO6 RP hL KW K16 cp hk
   go_wp2
   go_region_held (fun w'=>w'.cell? ⟨gl,k * 3,none⟩=some (.string x0)∧w'.cell? ⟨gl,k * 3+1,none⟩=some (.int .i64 x1)∧w'.cell? ⟨gl,k * 3+2,none⟩=some (.int .i64 x2)∧Keeps w0 w') (first | exact KS.out _ ((Fr.refl _ _).drewN 1) | exact KS.out _ (by assumption))
    (first | (go_at_call 23; refine (TQ.out _ _ _ _ _ (by assumption) (by omega) (by first | assumption | exact ‹_∧_∧_∧Keeps w0 _›.2.2.2)).mono ?_; rintro r w1 ⟨rfl,hk1⟩))
   all_goals
    go_wp2
    exact FIN.out _ (by assumption)
  have hkk:¬(k:Int)<(LL.length:Int):=by omega
  have KF:=hide (K16.out.trans KW.out)
  clear hk CP RL6 RN6
  go_wp2
  go_loopw [29] (fun kv wr=>∃k:Nat,kv=.int .i64 (k:Nat)∧k≤PP.length∧Keeps w0 wr) (fun kv _=>match kv with | .int _ j=>((PP.length:Int) - j).toNat | _=>0)
  case atStart=>exact ⟨0,rfl,by omega,Fr.refl _ _⟩
  case round =>
   obtain ⟨k,rfl,hkl2,hK⟩:=hrel
   generalize wr=wv at *
   have KV:=hide hK
   clear hK
   by_cases hk:k<PP.length
   ·obtain ⟨gp,rfl,hP⟩:=RP.out (by omega)
    have l2:=L2.out
    have pa:=PA.out k (by omega)
    obtain ⟨p0,p1,p2⟩:=(hP.keep (KW.out.trans KV.out)) k hk
    have FIN:Hid (∀W,Keeps wv W→(∃k':Nat,Value.int .i64 ((k:Int)+1)=.int .i64 (k':Nat)∧k'≤PP.length∧Keeps w0 W)∧((PP.length:Int) - ((k:Int)+1)).toNat<((PP.length:Int) - (k:Int)).toNat):=fun W hW=>⟨⟨k+1,by simp,by omega,KV.out.trans hW⟩,by omega⟩
    have hkk:(k:Int)<(PP.length:Int):=by omega
    have hwk:IntKind.i64.wrap ((k:Int)+1)=(k:Int)+1:=by rw [IntWalk.i64_in _ (by omega)]
    by_cases hm:k<MM.length
    ·rw [if_pos hm] at pa
     obtain ⟨gm,rfl,hM⟩:=RM6.out (by omega)
     obtain ⟨m0,m1,m2⟩:=(hM.keep (KW.out.trans KV.out)) k hm
     rw [pa] at p0 p1 p2
     have nq2:∀v:World,(binOp .neq 42 (.agg #[.string (nG MM k).1,.int .i64 (nG MM k).2.1,.int .i64 (nG MM k).2.2]) (.agg #[.string (nG MM k).1,.int .i64 (nG MM k).2.1,.int .i64 (nG MM k).2.2])).run Tryz.prog v=.ok (.bool false) v:=fun v=>neqNode v _ _ _
     generalize (nG MM k).1=x0 at *
     generalize (nG MM k).2.1=x1 at *
     generalize (nG MM k).2.2=x2 at *
     have q1:decide (k<MM.length)=true:=decide_eq_true (by omega)
     have q2:decide (MM.length≤k)=false:=decide_eq_false (by omega)
     have q3:(k:Int)<(MM.length:Int):=by omega
     clear pa hM hP PA RM6 RO6 RP KW hm hk l2 L2
     go_wp2
     go_quiet (fail)
     go_wp2
     exact FIN.out _ ((Fr.refl _ _).drewN _)
    rw [if_neg hm] at pa
    obtain ⟨j,hj⟩:∃j,k=MM.length+j:=⟨k - MM.length,by omega⟩
    have ej:k - MM.length=j:=by omega
    rw [ej] at pa
    obtain ⟨go,rfl,hO⟩:=RO6.out (by omega)
    obtain ⟨m0,m1,m2⟩:=(hO.keep (KW.out.trans KV.out)) j (by omega)
    rw [pa] at p0 p1 p2
    have nq2:∀v:World,(binOp .neq 42 (.agg #[.string (nG OO j).1,.int .i64 (nG OO j).2.1,.int .i64 (nG OO j).2.2]) (.agg #[.string (nG OO j).1,.int .i64 (nG OO j).2.1,.int .i64 (nG OO j).2.2])).run Tryz.prog v=.ok (.bool false) v:=fun v=>neqNode v _ _ _
    generalize (nG OO j).1=x0 at *
    generalize (nG OO j).2.1=x1 at *
    generalize (nG OO j).2.2=x2 at *
    have q1:decide (k<MM.length)=false:=decide_eq_false (by omega)
    have q2:decide (MM.length≤k)=true:=decide_eq_true (by omega)
    have q4:IntKind.i64.wrap ((k:Int) - (MM.length:Int))=(j:Int):=by rw [IntWalk.i64_in _ (by omega)]; omega
    have q5:(j:Int)<(OO.length:Int):=by omega
    have q3:¬(k:Int)<(MM.length:Int):=by omega
    clear pa hO hP PA RM6 RO6 RP KW hm hk ej hj l2 L2
    go_wp2
    go_quiet (fail)
    go_wp2
    exact FIN.out _ ((Fr.refl _ _).drewN _)
   have hkk:¬(k:Int)<(PP.length:Int):=by omega
   have KG:=hide (KF.out.trans KV.out)
   clear hk PA RM6 RO6 RP
   go_wp2
   go_ret
   exact ⟨rfl,KG.out⟩
end Go.Proofs.YtcbadebjpogmlaaGreatDoor
namespace Go.Proofs.YtcbadebjpogmlaaGreatDoor
open Go.ChangeShapes Go.WideShapes Go.ChangeAt Go.RowKit Go.ChangeMaps
section
variable {H:Type}
set_option maxRecDepth 100000 in
theorem parted_contract (enc:TypeId×Value→H) (W:World) (base:Nat) (args:Array Value) (ds gs:List (DataW H)) (before:List MemPlace) (hX:EN W)
 (hval:∀(j:Nat) t v,Tryz.f9.params[j]?=some t→args[j]?=some v→Value.okWide Tryz.prog W .any base t v)
 (hW:DataW.Whole enc Tryz.prog Tryz.f9.params.toList Rows.partedSpec.vars false W args.toList ds gs before) :
 Calls Tryz.prog 9 args W fun e W'=>∃v,e=.returned v∧Rows.partedSpec.post enc Tryz.prog Tryz.f9 false true false false W args v W':=by
 have hW':=hW
 have hlt:=hW.lt
 obtain ⟨p,q,hA0,hV,rfl,hfz,hnd⟩:=hW
 have hA:DataW.TrodAll enc Tryz.prog W 0 (fun _=>true) true Tryz.f9.params.toList args.toList ds p:=hA0
 rw [Tryz.params9] at hA hval
 obtain ⟨v0,vs0,d0,ds0,p0,q0,hargs,rfl,rfl,h0,r0⟩:=trodAll_cons hA
 obtain ⟨v1,vs1,d1,ds1,p1,q1,rfl,rfl,rfl,h1,r1⟩:=trodAll_cons r0
 obtain ⟨v2,vs2,d2,ds2,p2,q2,rfl,rfl,rfl,h2,r2⟩:=trodAll_cons r1
 obtain ⟨rfl,rfl,rfl⟩:=trodAll_nil r2
 obtain rfl:args=#[v0,v1,v2]:=by cases args; simp_all
 obtain ⟨rfl,rfl⟩:=trodVars_none hV
 obtain ⟨c,rfl,rfl,rfl,hcw⟩:=open_int Tryz.underlying3 (hval 1 3 v1 rfl rfl) h1
 obtain ⟨d,rfl,rfl,rfl,hdw⟩:=open_int Tryz.underlying3 (hval 2 3 v2 rfl rfl) h2
 have i0:=ints_open (hval 0 24 v0 rfl rfl) h0
 clear hA0 hA
 simp only [List.append_nil] at hW' hlt
 refine (p_parted hX i0 (wf_range hcw) (wf_range hdw)).mono ?_
 rintro e W' ⟨rfl,hk'⟩
 refine ⟨_,rfl,post_keeps (pa:=p0) (pv:=[]) hW' (fun _ _ _=>trodAll_cons_mk (shut_bool Tryz.underlying4 _) trodAll_mk0) (fun sp hsp=>?_) (fun _ _=>rfl) (by simp) hk' (ok_one (by kernel_rfl) rfl (okWide_bool_mk Tryz.underlying4 _))⟩
 have S:=trodAll_cons_mk (ints_stay (sp:=sp) h0 (fun p hp=>hlt p hp) hk' (fun p hp=>hsp p hp)) (trodAll_cons_mk (shut_int Tryz.underlying3 hcw) (trodAll_cons_mk (shut_int Tryz.underlying3 hdw) trodAll_mk0))
 rw [Tryz.params9]
 simp only [List.append_nil] at S
 exact S
end
end Go.Proofs.YtcbadebjpogmlaaGreatDoor
namespace Go.Proofs.YtcbadebjpogmlaaGreatDoor
open Go.ChangeShapes Go.WideShapes Go.ChangeAt Go.RowKit
theorem own:ownKnob Tryz.prog.godebug=none:=by kernel_rfl
def lit1:DataW Unit→Value
 | .lit (.int k n)=>.int k n
 | _=>.nilIface
def flat1:DataW Unit→List Value
 | .agg ps=>ps.map lit1
 | d=>[lit1 d]
def flat2:DataW Unit→Array Value
 | .agg ps=>(ps.flatMap flat1).toArray
 | _=>#[]
def putIn (h:Array Obj) (g:Nat) (cs:Array Value):Array Obj:=h.modify g fun
 | .cells _ t frozen=>.cells cs t frozen
 | o=>o
def errsH:Input:=⟨#[.cells #[.string ⟨#[118,97,108,117,101,32,111,117,116,32,111,102,32,114,97,110,103,101]⟩] 336,
 .cells #[.string ⟨#[105,110,118,97,108,105,100,32,115,121,110,116,97,120]⟩] 336],#[],[]⟩
def layIn (N:Nat) (w0:World):World :=
 let h0:=putIn (putIn w0.heap 7 #[.iface 334 (.pointer (some ⟨N,0,none⟩))]) 6 #[.iface 334 (.pointer (some ⟨N+1,0,none⟩))]
 let h1:=putIn h0 4 (flat2 Rows.laid_math_bits_deBruijn32tab)
 let h2:=putIn h1 5 (flat2 Rows.laid_math_bits_deBruijn64tab)
 let h3:=putIn h2 0 (flat2 Rows.laid_internal_strconv_uint64pow10)
 let h4:=putIn h3 3 (flat2 Rows.laid_unicode_utf8_acceptRanges)
 let h5:=putIn h4 2 (flat2 Rows.laid_unicode_utf8_first)
 { w0 with heap:=h5 }
set_option maxRecDepth 100000 in
theorem laid_met (os:Os) (args:Array Value):laidMet Tryz.prog Rows.partedRow.laid ((layIn (World.settled Tryz.prog os).heap.size (World.holding Tryz.prog os errsH)).forCall (fun _ _=>0) ⟨#[],args,[]⟩).memory :=
 (LaidIn.of_run [0,1,2,3,4,5,6,7,(World.settled Tryz.prog default).heap.size,(World.settled Tryz.prog default).heap.size+1] 8 (by kernel_rfl) (by kernel_rfl) (by kernel_rfl) (by kernel_rfl)).met
theorem witness_row (os:Os) {H:Type} (enc:TypeId×Value→H) :
 (OpenSpec.ofChange Rows.partedSpec).preRow enc Tryz.prog Tryz.f9 Rows.partedRow.domain false Rows.partedRow.laid ((layIn (World.settled Tryz.prog os).heap.size (World.holding Tryz.prog os errsH)).forCall (fun _ _=>0) ⟨#[],#[.slice none 0 0,.int .i64 0,.int .i64 0],[]⟩).memory #[.slice none 0 0,.int .i64 0,.int .i64 0]:=by
 have hw:(DataW.whole enc Tryz.prog ((layIn (World.settled Tryz.prog os).heap.size (World.holding Tryz.prog os errsH)).forCall (fun _ _=>0) ⟨#[],#[.slice none 0 0,.int .i64 0,.int .i64 0],[]⟩).memory Tryz.f9.params.toList Rows.partedSpec.vars false #[Value.slice none 0 0,.int .i64 0,.int .i64 0].toList 8).map (fun x=>(x.1,x.2.1)) =
  some ([.nil,.lit (.int .i64 0),.lit (.int .i64 0)],[]):=by kernel_rfl
 obtain ⟨⟨x1,x2,x3⟩,hx,hx1⟩:=Option.map_eq_some_iff.1 hw
 simp only [Prod.mk.injEq] at hx1
 obtain ⟨rfl,rfl⟩:=hx1
 exact OpenSpec.preRow_of_cond 8 hx (by kernel_rfl) (fun k hk=>by cases hk) (by kernel_rfl) (laid_met os _)
theorem wit_v (os:Os):((layIn (World.settled Tryz.prog os).heap.size (World.holding Tryz.prog os errsH)).forCall (fun _ _=>0) ⟨#[],#[.slice none 0 0,.int .i64 0,.int .i64 0],[]⟩).variablesRefB Tryz.prog=true:=by kernel_rfl
theorem wit_r (os:Os):(((layIn (World.settled Tryz.prog os).heap.size (World.holding Tryz.prog os errsH)).forCall (fun _ _=>0) ⟨#[],#[.slice none 0 0,.int .i64 0,.int .i64 0],[]⟩).heap.toList.drop Tryz.prog.globals.size).take ((begin Tryz.prog (fun _ _=>0) default).world.heap.size - Tryz.prog.globals.size) =
 (begin Tryz.prog (fun _ _=>0) default).world.heap.toList.drop Tryz.prog.globals.size:=by kernel_rfl
theorem wit_ok (os:Os):Input.okWideB Tryz.prog ((layIn (World.settled Tryz.prog os).heap.size (World.holding Tryz.prog os errsH)).forCall (fun _ _=>0) ⟨#[],#[.slice none 0 0,.int .i64 0,.int .i64 0],[]⟩) 9 ⟨#[],#[.slice none 0 0,.int .i64 0,.int .i64 0],[]⟩=true:=by kernel_rfl
theorem no_init:Tryz.prog.inits.idxOf? 9=none:=by kernel_rfl
end Go.Proofs.YtcbadebjpogmlaaGreatDoor
namespace Go.Proofs.YtcbadebjpogmlaaGreatDoor
open Go
set_option maxRecDepth 100000
theorem fact_place:(Rows.partedRow.inPlace == Tryz.pinned.checked.prog.inPlace 9)=true:=by kernel_rfl
theorem fact_unf:(Rows.partedRow.unfollowed == Tryz.pinned.checked.prog.unfollowed 9)=true:=by kernel_rfl
theorem fact_rec:(Rows.partedRow.recurses == Tryz.pinned.checked.prog.recurses 9)=true:=by kernel_rfl
theorem fact_named:(Rows.partedRow.named == Tryz.pinned.checked.prog.varsNamed 9)=true:=by kernel_rfl
theorem fact_out:laidOutB Tryz.pinned.checked.prog=true:=by kernel_rfl
theorem fact_maps:mapsRowed Tryz.pinned.checked.prog=true:=by kernel_rfl
theorem facts:joinedFacts Tryz.pinned.checked.prog 9 Tryz.f9 (OpenSpec.ofChange Rows.partedSpec).bare Rows.partedRow=true:=by
 unfold joinedFacts
 rw [fact_place,fact_unf,fact_rec,fact_named,fact_out,fact_maps]
 kernel_rfl
end Go.Proofs.YtcbadebjpogmlaaGreatDoor
namespace Go.Proofs.YtcbadebjpogmlaaGreatDoor
open Go.ChangeShapes Go.WideShapes Go.ChangeAt Go.RowKit
theorem wit_all (os:Os) {H:Type} (enc:TypeId×Value→H):∃(w:World) (tape:Tape) (i:Input),w.os=os∧(w.forCall tape i).Shaped Tryz.checked.prog∧i.vars=[]∧Input.okWide Tryz.checked.prog (w.forCall tape i) .any w.heap.size 9 i ∧
 (OpenSpec.ofChange Rows.partedSpec).preRow enc Tryz.checked.prog Tryz.f9 Rows.partedRow.domain false Rows.partedRow.laid (w.forCall tape i).memory i.args∧({ modest:=false }:Assume).holds Tryz.checked.prog (lone (Frame.enter Tryz.checked.prog 9 i.args .normal) [] (w.forCall tape i)) :=
 (witness_row_atRef (enc:=enc) (C:=Tryz.checked) false (layIn (World.settled Tryz.prog os).heap.size (World.holding Tryz.prog os errsH)) #[.slice none 0 0,.int .i64 0,.int .i64 0] rfl (wit_v os) (wit_r os) (wit_ok os) (witness_row os enc))
set_option maxRecDepth 100000 in
theorem lifted (os:Os) (started:os.Started) (H:Type) (enc:TypeId×Value→H) (F:Stop.Interp) :
 ReturnsInHanded {} Tryz.checked os 9 .any ((OpenSpec.ofChange Rows.partedSpec).preRow enc Tryz.prog Tryz.f9 Rows.partedRow.domain false Rows.partedRow.laid)
  (((OpenSpec.ofChange Rows.partedSpec).at F).post enc Tryz.prog Tryz.f9 false true false false) :=
 returnsInHanded_of_row (a:={}) (C:=Tryz.checked) (os:=os) (f:=9) (fn:=Tryz.f9) (s:=OpenSpec.ofChange Rows.partedSpec) (F:=F) (conds:=Rows.partedRow.domain) (apart:=false) (fresh:=true) (handsOn:=false) (again:=false) (laid:=Rows.partedRow.laid) own started no_init Tryz.func9 (wit_all os enc)
  (fun W base args ds gs before hval hW _ _ _ hL hsh _=>parted_contract enc W base args ds gs before (en_of hL hsh) hval hW)
theorem said:Rows.PartedSaid :=
 OpenClaim.holds_of_cond 9 Tryz.f9 rfl rfl rfl rfl rfl rfl rfl ⟨rfl,rfl,rfl,rfl,rfl⟩ rfl rfl rfl rfl rfl (by kernel_rfl) Tryz.func9 facts
  (of_decide_eq_true (by kernel_rfl)) (by unfold Func.isWrapper; first | (rw [if_pos (by decide +kernel)]; kernel_rfl) | (rw [if_neg (by decide +kernel)]; exact ⟨rfl,rfl⟩))
  (fun os started H enc _ F=>by rw [OpenClaim.pre_eq_preRow]; exact lifted os started H enc F)
theorem plain (f:FuncId) (fn:Func) (hf:Tryz.pinned.checked.prog.funcNamed "trail/trailkeep.Parted"=some f) (hfn:Tryz.pinned.checked.prog.funcs[f]?=some fn) :
 Rows.partedCard.stood.looks=Tryz.pinned.checked.prog.looks []∧∀(j:Nat) t,fn.params[j]?=some t→Tryz.pinned.checked.prog.wantsStandIn t=false:=by
 obtain rfl:f=9:=Option.some.inj ((show Tryz.prog.funcNamed "trail/trailkeep.Parted"=some 9 by kernel_rfl).symm.trans hf) |>.symm
 obtain rfl:fn=Tryz.f9:=(Option.some.inj (Tryz.func9.symm.trans hfn)).symm
 refine ⟨by kernel_rfl,fun j t ht=>?_⟩
 rw [Tryz.params9] at ht
 have hm:=Array.mem_of_getElem? ht
 simp only [List.mem_toArray,List.mem_cons,List.not_mem_nil,or_false] at hm
 rcases hm with rfl | rfl | rfl
 ·exact (show Tryz.prog.wantsStandIn 24=false by kernel_rfl)
 ·exact (show Tryz.prog.wantsStandIn 3=false by kernel_rfl)
 exact (show Tryz.prog.wantsStandIn 3=false by kernel_rfl)
theorem parted_holds:Rows.PartedCardSaid :=
 Claim7.holds_tied_plain_at .later [] _ _ _ _ said (fun _ h=>by cases h) (by kernel_rfl) (fun _ h=>by cases h) parted_row_tie rfl ⟨rfl,rfl⟩ (by kernel_rfl) rfl plain (by kernel_rfl)
end Go.Proofs.YtcbadebjpogmlaaGreatDoor
