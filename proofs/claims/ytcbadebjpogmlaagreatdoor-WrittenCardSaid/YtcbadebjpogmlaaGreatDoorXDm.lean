/- Proved: Rows.WrittenCardSaid: the law Written returns true, whatever string and numbers come in (the text of a query is a query, if it is not too long, of the same text, and finds the same); the package-level variables that the row lists start as the program's text lays them. -/
import Derived.Test.YtcbadebjpogmlaaGreatDoorXPlain3
import Derived.Test.YtcbadebjpogmlaaGreatDoorPPk
import Derived.Test.YtcbadebjpogmlaaGreatDoorPPh
import Derived.Test.YtcbadebjpogmlaaGreatDoorXPs
import Derived.Test.YtcbadebjpogmlaaGreatDoorCards
import Derived.WalkKit
import Derived.ProofKit
import Derived.OpenShut
import Derived.Test.YtcbadebjpogmlaaGreatDoorTie
import Derived.Deep.DeepHandedRow
import Derived.Deep.DeepWitnessRowRef
import Derived.Lib.LaidIn
import Derived.Test.YtcbadebjpogmlaaGreatDoorRows
import Derived.JoinedCond
namespace Go.Proofs.YtcbadebjpogmlaaGreatDoor
open Go.RowKit Tr Go.Conc
set_option maxHeartbeats 1000000 in
theorem q_text {w:World} {gq:Nat} {tt:ByteArray} {xs:List Sg} (h:QryV w gq tt xs):Calls Tryz.prog 27 #[.pointer (some ⟨gq,0,none⟩)] w fun r w'=>r=.returned (.string tt)∧Keeps w w':=by
 obtain ⟨b,D,_,h2⟩:=h
 obtain ⟨h3,sv,l,D2,h4,_⟩:=h2.self
 have c0:w.cell? ⟨gq,0,none⟩=some (.pointer (some ⟨b,0,none⟩)):=h3.cell 0
 have c1:w.cell? ⟨b,0,none⟩=some (.string tt):=h4.cell 0
 clear h2 h3 h4
 go_enter Tryz.func27,Tryz.ntmps27
 go_wp2
 go_ret
 exact ⟨rfl,Fr.refl _ _⟩
theorem w_comp {w:World} {s:ByteArray} (hs:s.size≤maxLen) (he:EN w):Calls Tryz.prog 26 #[.string s] w fun r w'=>Keeps w w'∧((∃e p:Nat,e≠0∧p≤s.size∧r=.returned (.tuple #[.pointer none,.int .i64 (e:Nat),.int .i64 (p:Nat)]))∨(s.size≤120∧FinP (bs s)∧C (bs s) (s.size+1)≤10∧∃gq tt,r=.returned (.tuple #[.pointer (some ⟨gq,0,none⟩),.int .i64 0,.int .i64 0])∧QryV w' gq tt (pQuery (bs s))∧bs tt=T (bs s) (s.size+1)∧selN (pQuery (bs s))≤10)):=by
 refine (m_comp hs he.ev).mono ?_
 rintro r w' ⟨k,h | h | h | h⟩
 ·exact ⟨k,Or.inl ⟨1,0,by omega,by omega,h.2⟩⟩
 ·obtain ⟨_,e,p,h1,h2⟩:=h
  have:=h1.st
  have hl:=h1.le
  rw [bs_len] at hl
  exact ⟨k,Or.inl ⟨e,p,by omega,hl,h2⟩⟩
 ·exact ⟨k,Or.inl ⟨1,0,by omega,by omega,h.2.2.2⟩⟩
 exact ⟨k,Or.inr h⟩
theorem w_again {w:World} {s tt:ByteArray} (he:EN w) (hf:FinP (bs s)) (hc:C (bs s) (s.size+1)≤10) (ht:bs tt=T (bs s) (s.size+1)) (hl:tt.size≤120):Calls Tryz.prog 26 #[.string tt] w fun r w'=>∃gq,r=.returned (.tuple #[.pointer (some ⟨gq,0,none⟩),.int .i64 0,.int .i64 0])∧QryV w' gq tt (pQuery (bs s))∧selN (pQuery (bs s))≤10∧Keeps w w':=by
 have e1:T (bs s) (s.size+1)=T (bs s) ((bs s).length+1):=by rw [bs_len]
 obtain ⟨a1,a2,a3⟩:=w_text hf
 have a4:=w_same hf
 rw [← e1,← ht] at a1 a2 a3 a4
 rw [bs_len] at a2 a3
 refine (m_comp (by unfold maxLen; omega) he.ev).mono ?_
 rintro r w' ⟨k,h | h | h | h⟩
 ·omega
 ·obtain ⟨_,e,p,h1,_⟩:=h
  exact (h1.notFin a1).elim
 ·obtain ⟨_,_,h3,_⟩:=h
  rw [a2,bs_len] at h3
  omega
 obtain ⟨_,_,_,gq,t2,rfl,h1,h2,h3⟩:=h
 rw [a3] at h2
 rw [bs_inj h2,a4] at h1
 rw [a4] at h3
 exact ⟨gq,rfl,h1,h3,k⟩
theorem s_nodesW {w:World} {gq:Nat} {xs:List Sg} (h:QH w gq xs) (he:EN w) {ts:ByteArray} (hl:ts.size≤500) (h0:txErr (bs ts)=0) {N:List Tv} (hN:∀t,txVal (bs ts)=some t→nodesS xs [t]=N):Calls Tryz.prog 18 #[.pointer (some ⟨gq,0,none⟩),.string ts] w fun r w'=>∃ao c,r=.returned (.tuple #[.slice ao N.length c,.int .i64 0,.int .i64 0])∧NdsAt w' ao N.length (nG N)∧Keeps w w':=by
 refine (q_select h he ts (by omega)).mono ?_
 rintro r w' ⟨k,hS | hS⟩
 ·exact absurd h0 hS.1
 obtain ⟨_,T2,sv,ht2,rfl,hR⟩:=hS
 rw [hN T2 ht2] at hR
 obtain ⟨ao,c,rfl,hn⟩:=nds_at (own_zero' hR)
 exact ⟨ao,c,rfl,hn,k⟩
set_option maxHeartbeats 8000000 in
set_option maxRecDepth 100000 in
theorem p_written {w:World} (he:EN w) {wd:Value} (hw:IntsAt w wd) (s:ByteArray) (hs:s.size≤maxLen):Calls Tryz.prog 10 #[.string s,wd] w fun r w'=>r=.returned (.bool true)∧Keeps w w':=by
 obtain ⟨R,hR⟩:=hw.fn
 have HE:=hide he
 have HW:=hide hR
 have PH:=hide (p_head he)
 have HS:=hide hs
 clear he hw hR hs
 go_enter Tryz.func10,Tryz.ntmps10
 go_wp2_with fail
 refine PH.out.mono ?_
 rintro r w1 ⟨rfl,k1⟩
 have K1:=hide k1
 clear k1 PH
 go_wp2_with fail
 refine (w_comp HS.out (HE.out.keep K1.out)).mono ?_
 rintro r w2 ⟨k2,⟨e,p,h1,h2,rfl⟩ | ⟨h1,h2,h3,gq,tt,rfl,h4,h5,h6⟩⟩
 ·have K2:=hide (K1.out.trans k2)
  have he0:¬(e:Int)=0:=by omega
  have q1:(0:Int)≤(p:Int):=by omega
  have q2:(p:Int)≤(s.size:Int):=by omega
  clear k2 K1 HE HW h1 h2
  go_wp2
  go_ret
  exact ⟨rfl,K2.out⟩
 have K2:=hide (K1.out.trans k2)
 have Q2:=hide h4
 have H6:=hide h6
 have AG:Hid (∀v:World,EN v→tt.size≤120→Calls Tryz.prog 26 #[.string tt] v fun r w'=>∃gq,r=.returned (.tuple #[.pointer (some ⟨gq,0,none⟩),.int .i64 0,.int .i64 0])∧QryV w' gq tt (pQuery (bs s))∧selN (pQuery (bs s))≤10∧Keeps v w'):=fun v he hl=>w_again he h2 h3 h5 hl
 clear k2 K1 h1 h2 h3 h4 h5 h6 HS
 go_wp2_with fail
 refine (q_text Q2.out).mono ?_
 rintro r w3 ⟨rfl,k3⟩
 have K3:=hide (K2.out.trans k3)
 have Q3:=hide (Q2.out.keep k3)
 clear k3 K2 Q2
 by_cases hl:tt.size≤120
 ·have hli:¬(120:Int)<(tt.size:Int):=by omega
  go_wp2_with fail
  refine (AG.out _ (HE.out.keep K3.out) hl).mono ?_
  rintro r w4 ⟨gr,rfl,hQ,_,k4⟩
  have Q4:=hide (Q3.out.keep k4)
  have R4:=hide hQ
  have K4:=hide (K3.out.trans k4)
  clear hQ k4 K3 Q3 AG
  go_wp2_with fail
  refine (q_text R4.out).mono ?_
  rintro r w5 ⟨rfl,k5⟩
  have Q5:=hide (qh_of (Q4.out.keep k5) H6.out)
  have R5:=hide (qh_of (R4.out.keep k5) H6.out)
  have K5:=hide (K4.out.trans k5)
  clear k5 K4 Q4 R4
  go_wp2_with fail
  refine (p_textV (HW.out.keep K5.out)).mono ?_
  rintro r w6 ⟨⟨ts,rfl,z1,z2,z3⟩,k6⟩
  obtain ⟨T,ht⟩:=(tx_ok (l:=bs ts) (by rw [bs_len]; omega) z2).2.2
  obtain ⟨N,eN⟩:∃N,N=nodesS (pQuery (bs s)) [T]:=⟨_,rfl⟩
  have hN:∀t,txVal (bs ts)=some t→nodesS (pQuery (bs s)) [t]=N:=fun t h=>by
   rw [eN,Option.some.inj (h.symm.trans ht)]
  have NB:N.length≤2100000000000:=by
   obtain ⟨hT,hB⟩:=tx_tree (l:=bs ts) (by rw [bs_len]; omega) z2 ht
   have:=nodes_len hT (B:=4000000) hB (pQuery (bs s)) Q5.out.pos Q5.out.sel (Nat.le_refl _)
   rw [List.take_length,← eN] at this
   omega
  have SQ:=hide (fun (v:World) (hk:Keeps w5 v)=>s_nodesW (Q5.out.keep hk) ((HE.out.keep K5.out).keep hk) z1 z2 hN)
  have SR:=hide (fun (v:World) (hk:Keeps w5 v)=>s_nodesW (R5.out.keep hk) ((HE.out.keep K5.out).keep hk) z1 z2 hN)
  have TX:Hid (∀v:World,Keeps w5 v→Calls Tryz.prog 17 #[wd] v fun r w'=>r=.returned (.string ts)∧Keeps v w'):=fun v hk=>by
   refine (p_textV ((HW.out.keep K5.out).keep hk)).mono ?_
   rintro r w' ⟨⟨t2,rfl,_,_,h4⟩,k⟩
   rw [bs_inj (h4.trans z3.symm)]
   exact ⟨rfl,k⟩
  have K6:=hide k6
  clear k6 z2 z3 ht eN hN Q5 R5 HE HW H6
  go_wp2_with fail
  refine (SQ.out _ K6.out).mono ?_
  rintro r w7 ⟨lo,lcp,rfl,hL,k7⟩
  have RL:=hide hL
  have K7:=hide (K6.out.trans k7)
  clear hL k7 K6 SQ
  go_wp2_with fail
  refine (TX.out _ K7.out).mono ?_
  rintro r w8 ⟨rfl,k8⟩
  have RL8:=hide (RL.out.keep k8)
  have K8:=hide (K7.out.trans k8)
  clear k8 K7 RL TX
  go_wp2_with fail
  refine (SR.out _ K8.out).mono ?_
  rintro r w9 ⟨mo,mcp,rfl,hM,k9⟩
  have RM:=hide hM
  have RL9:=hide (RL8.out.keep k9)
  have K9:=hide (K5.out.trans (K8.out.trans k9))
  clear hM k9 K8 RL8 SR K5
  go_wp2
  go_loopw [19] (fun kv wr=>∃k:Nat,kv=.int .i64 (k:Nat)∧k≤N.length∧Keeps w9 wr) (fun kv _=>match kv with | .int _ j=>((N.length:Int) - j).toNat | _=>0)
  case atStart=>exact ⟨0,rfl,by omega,Fr.refl _ _⟩
  case round =>
   obtain ⟨k,rfl,hkl,hK⟩:=hrel
   generalize wr=w0 at *
   have KW:=hide hK
   clear hK
   by_cases hk:k<N.length
   ·obtain ⟨gl,rfl,hL⟩:=RL9.out (by omega)
    obtain ⟨gm,rfl,hM⟩:=RM.out (by omega)
    obtain ⟨p0,p1,p2⟩:=(hL.keep KW.out) k hk
    obtain ⟨m0,m1,m2⟩:=(hM.keep KW.out) k hk
    have FIN:Hid (∀W,Keeps w0 W→(∃k':Nat,Value.int .i64 ((k:Int)+1)=.int .i64 (k':Nat)∧k'≤N.length∧Keeps w9 W)∧((N.length:Int) - ((k:Int)+1)).toNat<((N.length:Int) - (k:Int)).toNat):=fun W hW=>⟨⟨k+1,by simp,by omega,KW.out.trans hW⟩,by omega⟩
    have hkk:(k:Int)<(N.length:Int):=by omega
    have hwk:IntKind.i64.wrap ((k:Int)+1)=(k:Int)+1:=by rw [IntWalk.i64_in _ (by omega)]
    have nq2:∀v:World,(binOp .neq 42 (.agg #[.string (nG N k).1,.int .i64 (nG N k).2.1,.int .i64 (nG N k).2.2]) (.agg #[.string (nG N k).1,.int .i64 (nG N k).2.1,.int .i64 (nG N k).2.2])).run Tryz.prog v=.ok (.bool false) v:=fun v=>neqNode v _ _ _
    generalize (nG N k).1=x0 at *
    generalize (nG N k).2.1=x1 at *
    generalize (nG N k).2.2=x2 at *
    clear hL hM RL9 RM KW hk
    go_wp2
    go_quiet (fail)
    go_wp2
    exact FIN.out _ ((Fr.refl _ _).drewN _)
   have hkk:¬(k:Int)<(N.length:Int):=by omega
   have KF:=hide (K9.out.trans KW.out)
   clear hk RL9 RM
   go_wp2
   go_ret
   exact ⟨rfl,KF.out⟩
 have hli:(120:Int)<(tt.size:Int):=by omega
 clear HE HW AG Q3
 go_wp2
 go_ret
 exact ⟨rfl,K3.out⟩
end Go.Proofs.YtcbadebjpogmlaaGreatDoor
namespace Go.Proofs.YtcbadebjpogmlaaGreatDoor
open Go.ChangeShapes Go.WideShapes Go.ChangeAt Go.RowKit Go.ChangeMaps
section
variable {H:Type}
set_option maxRecDepth 100000 in
theorem written_contract (enc:TypeId×Value→H) (W:World) (base:Nat) (args:Array Value) (ds gs:List (DataW H)) (before:List MemPlace) (hX:EN W)
 (hval:∀(j:Nat) t v,Tryz.f10.params[j]?=some t→args[j]?=some v→Value.okWide Tryz.prog W .any base t v)
 (hW:DataW.Whole enc Tryz.prog Tryz.f10.params.toList Rows.writtenSpec.vars false W args.toList ds gs before) :
 Calls Tryz.prog 10 args W fun e W'=>∃v,e=.returned v∧Rows.writtenSpec.post enc Tryz.prog Tryz.f10 false true false false W args v W':=by
 have hW':=hW
 have hlt:=hW.lt
 obtain ⟨p,q,hA0,hV,rfl,hfz,hnd⟩:=hW
 have hA:DataW.TrodAll enc Tryz.prog W 0 (fun _=>true) true Tryz.f10.params.toList args.toList ds p:=hA0
 rw [Tryz.params10] at hA hval
 obtain ⟨v0,vs0,d0,ds0,p0,q0,hargs,rfl,rfl,h0,r0⟩:=trodAll_cons hA
 obtain ⟨v1,vs1,d1,ds1,p1,q1,rfl,rfl,rfl,h1,r1⟩:=trodAll_cons r0
 obtain ⟨rfl,rfl,rfl⟩:=trodAll_nil r1
 obtain rfl:args=#[v0,v1]:=by cases args; simp_all
 obtain ⟨rfl,rfl⟩:=trodVars_none hV
 obtain ⟨s,rfl,rfl,rfl,hs⟩:=open_string Tryz.underlying9 (hval 0 9 v0 rfl rfl) h0
 have i1:=ints_open (hval 1 24 v1 rfl rfl) h1
 clear hA0 hA
 simp only [List.append_nil,List.nil_append] at hW' hlt
 refine (p_written hX i1 s hs).mono ?_
 rintro e W' ⟨rfl,hk'⟩
 refine ⟨_,rfl,post_keeps (pa:=p1) (pv:=[]) hW' (fun _ _ _=>trodAll_cons_mk (shut_bool Tryz.underlying4 _) trodAll_mk0) (fun sp hsp=>?_) (fun _ _=>rfl) (by simp) hk' (ok_one (by kernel_rfl) rfl (okWide_bool_mk Tryz.underlying4 _))⟩
 have S:=trodAll_cons_mk (shut_string Tryz.underlying9 hs) (trodAll_cons_mk (ints_stay (sp:=sp) h1 (fun p hp=>hlt p hp) hk' (fun p hp=>hsp p hp)) trodAll_mk0)
 rw [Tryz.params10]
 simp only [List.append_nil,List.nil_append] at S
 exact S
end
end Go.Proofs.YtcbadebjpogmlaaGreatDoor
namespace Go.Proofs.YtcbadebjpogmlaaGreatDoor
open Go.ChangeShapes Go.WideShapes Go.ChangeAt Go.RowKit
theorem own:ownKnob Tryz.prog.godebug=none:=by kernel_rfl
def lit1:DataW Unit→Value
 | .lit (.int k n)=>.int k n
 | _=>.nilIface
def flat1:DataW Unit→List Value
 | .agg ps=>ps.map lit1
 | d=>[lit1 d]
def flat2:DataW Unit→Array Value
 | .agg ps=>(ps.flatMap flat1).toArray
 | _=>#[]
def putIn (h:Array Obj) (g:Nat) (cs:Array Value):Array Obj:=h.modify g fun
 | .cells _ t frozen=>.cells cs t frozen
 | o=>o
def errsH:Input:=⟨#[.cells #[.string ⟨#[118,97,108,117,101,32,111,117,116,32,111,102,32,114,97,110,103,101]⟩] 336,
 .cells #[.string ⟨#[105,110,118,97,108,105,100,32,115,121,110,116,97,120]⟩] 336],#[],[]⟩
def layIn (N:Nat) (w0:World):World :=
 let h0:=putIn (putIn w0.heap 7 #[.iface 334 (.pointer (some ⟨N,0,none⟩))]) 6 #[.iface 334 (.pointer (some ⟨N+1,0,none⟩))]
 let h1:=putIn h0 4 (flat2 Rows.laid_math_bits_deBruijn32tab)
 let h2:=putIn h1 5 (flat2 Rows.laid_math_bits_deBruijn64tab)
 let h3:=putIn h2 0 (flat2 Rows.laid_internal_strconv_uint64pow10)
 let h4:=putIn h3 3 (flat2 Rows.laid_unicode_utf8_acceptRanges)
 let h5:=putIn h4 2 (flat2 Rows.laid_unicode_utf8_first)
 { w0 with heap:=h5 }
set_option maxRecDepth 100000 in
theorem laid_met (os:Os) (args:Array Value):laidMet Tryz.prog Rows.writtenRow.laid ((layIn (World.settled Tryz.prog os).heap.size (World.holding Tryz.prog os errsH)).forCall (fun _ _=>0) ⟨#[],args,[]⟩).memory :=
 (LaidIn.of_run [0,1,2,3,4,5,6,7,(World.settled Tryz.prog default).heap.size,(World.settled Tryz.prog default).heap.size+1] 8 (by kernel_rfl) (by kernel_rfl) (by kernel_rfl) (by kernel_rfl)).met
theorem witness_row (os:Os) {H:Type} (enc:TypeId×Value→H) :
 (OpenSpec.ofChange Rows.writtenSpec).preRow enc Tryz.prog Tryz.f10 Rows.writtenRow.domain false Rows.writtenRow.laid ((layIn (World.settled Tryz.prog os).heap.size (World.holding Tryz.prog os errsH)).forCall (fun _ _=>0) ⟨#[],#[.string ⟨#[]⟩,.slice none 0 0],[]⟩).memory #[.string ⟨#[]⟩,.slice none 0 0]:=by
 have hw:(DataW.whole enc Tryz.prog ((layIn (World.settled Tryz.prog os).heap.size (World.holding Tryz.prog os errsH)).forCall (fun _ _=>0) ⟨#[],#[.string ⟨#[]⟩,.slice none 0 0],[]⟩).memory Tryz.f10.params.toList Rows.writtenSpec.vars false #[Value.string ⟨#[]⟩,.slice none 0 0].toList 8).map (fun x=>(x.1,x.2.1)) =
  some ([.lit (.string []),.nil],[]):=by kernel_rfl
 obtain ⟨⟨x1,x2,x3⟩,hx,hx1⟩:=Option.map_eq_some_iff.1 hw
 simp only [Prod.mk.injEq] at hx1
 obtain ⟨rfl,rfl⟩:=hx1
 exact OpenSpec.preRow_of_cond 8 hx (by kernel_rfl) (fun k hk=>by cases hk) (by kernel_rfl) (laid_met os _)
theorem wit_v (os:Os):((layIn (World.settled Tryz.prog os).heap.size (World.holding Tryz.prog os errsH)).forCall (fun _ _=>0) ⟨#[],#[.string ⟨#[]⟩,.slice none 0 0],[]⟩).variablesRefB Tryz.prog=true:=by kernel_rfl
theorem wit_r (os:Os):(((layIn (World.settled Tryz.prog os).heap.size (World.holding Tryz.prog os errsH)).forCall (fun _ _=>0) ⟨#[],#[.string ⟨#[]⟩,.slice none 0 0],[]⟩).heap.toList.drop Tryz.prog.globals.size).take ((begin Tryz.prog (fun _ _=>0) default).world.heap.size - Tryz.prog.globals.size) =
 (begin Tryz.prog (fun _ _=>0) default).world.heap.toList.drop Tryz.prog.globals.size:=by kernel_rfl
theorem wit_ok (os:Os):Input.okWideB Tryz.prog ((layIn (World.settled Tryz.prog os).heap.size (World.holding Tryz.prog os errsH)).forCall (fun _ _=>0) ⟨#[],#[.string ⟨#[]⟩,.slice none 0 0],[]⟩) 10 ⟨#[],#[.string ⟨#[]⟩,.slice none 0 0],[]⟩=true:=by kernel_rfl
theorem no_init:Tryz.prog.inits.idxOf? 10=none:=by kernel_rfl
end Go.Proofs.YtcbadebjpogmlaaGreatDoor
namespace Go.Proofs.YtcbadebjpogmlaaGreatDoor
open Go
set_option maxRecDepth 100000
theorem fact_place:(Rows.writtenRow.inPlace == Tryz.pinned.checked.prog.inPlace 10)=true:=by kernel_rfl
theorem fact_unf:(Rows.writtenRow.unfollowed == Tryz.pinned.checked.prog.unfollowed 10)=true:=by kernel_rfl
theorem fact_rec:(Rows.writtenRow.recurses == Tryz.pinned.checked.prog.recurses 10)=true:=by kernel_rfl
theorem fact_named:(Rows.writtenRow.named == Tryz.pinned.checked.prog.varsNamed 10)=true:=by kernel_rfl
theorem fact_out:laidOutB Tryz.pinned.checked.prog=true:=by kernel_rfl
theorem fact_maps:mapsRowed Tryz.pinned.checked.prog=true:=by kernel_rfl
theorem facts:joinedFacts Tryz.pinned.checked.prog 10 Tryz.f10 (OpenSpec.ofChange Rows.writtenSpec).bare Rows.writtenRow=true:=by
 unfold joinedFacts
 rw [fact_place,fact_unf,fact_rec,fact_named,fact_out,fact_maps]
 kernel_rfl
end Go.Proofs.YtcbadebjpogmlaaGreatDoor
namespace Go.Proofs.YtcbadebjpogmlaaGreatDoor
open Go.ChangeShapes Go.WideShapes Go.ChangeAt Go.RowKit
theorem wit_all (os:Os) {H:Type} (enc:TypeId×Value→H):∃(w:World) (tape:Tape) (i:Input),w.os=os∧(w.forCall tape i).Shaped Tryz.checked.prog∧i.vars=[]∧Input.okWide Tryz.checked.prog (w.forCall tape i) .any w.heap.size 10 i ∧
 (OpenSpec.ofChange Rows.writtenSpec).preRow enc Tryz.checked.prog Tryz.f10 Rows.writtenRow.domain false Rows.writtenRow.laid (w.forCall tape i).memory i.args∧({ modest:=false }:Assume).holds Tryz.checked.prog (lone (Frame.enter Tryz.checked.prog 10 i.args .normal) [] (w.forCall tape i)) :=
 (witness_row_atRef (enc:=enc) (C:=Tryz.checked) false (layIn (World.settled Tryz.prog os).heap.size (World.holding Tryz.prog os errsH)) #[.string ⟨#[]⟩,.slice none 0 0] rfl (wit_v os) (wit_r os) (wit_ok os) (witness_row os enc))
set_option maxRecDepth 100000 in
theorem lifted (os:Os) (started:os.Started) (H:Type) (enc:TypeId×Value→H) (F:Stop.Interp) :
 ReturnsInHanded {} Tryz.checked os 10 .any ((OpenSpec.ofChange Rows.writtenSpec).preRow enc Tryz.prog Tryz.f10 Rows.writtenRow.domain false Rows.writtenRow.laid)
  (((OpenSpec.ofChange Rows.writtenSpec).at F).post enc Tryz.prog Tryz.f10 false true false false) :=
 returnsInHanded_of_row (a:={}) (C:=Tryz.checked) (os:=os) (f:=10) (fn:=Tryz.f10) (s:=OpenSpec.ofChange Rows.writtenSpec) (F:=F) (conds:=Rows.writtenRow.domain) (apart:=false) (fresh:=true) (handsOn:=false) (again:=false) (laid:=Rows.writtenRow.laid) own started no_init Tryz.func10 (wit_all os enc)
  (fun W base args ds gs before hval hW _ _ _ hL hsh _=>written_contract enc W base args ds gs before (en_of hL hsh) hval hW)
theorem said:Rows.WrittenSaid :=
 OpenClaim.holds_of_cond 10 Tryz.f10 rfl rfl rfl rfl rfl rfl rfl ⟨rfl,rfl,rfl,rfl,rfl⟩ rfl rfl rfl rfl rfl (by kernel_rfl) Tryz.func10 facts
  (of_decide_eq_true (by kernel_rfl)) (by unfold Func.isWrapper; first | (rw [if_pos (by decide +kernel)]; kernel_rfl) | (rw [if_neg (by decide +kernel)]; exact ⟨rfl,rfl⟩))
  (fun os started H enc _ F=>by rw [OpenClaim.pre_eq_preRow]; exact lifted os started H enc F)
theorem plain (f:FuncId) (fn:Func) (hf:Tryz.pinned.checked.prog.funcNamed "trail/trailkeep.Written"=some f) (hfn:Tryz.pinned.checked.prog.funcs[f]?=some fn) :
 Rows.writtenCard.stood.looks=Tryz.pinned.checked.prog.looks []∧∀(j:Nat) t,fn.params[j]?=some t→Tryz.pinned.checked.prog.wantsStandIn t=false:=by
 obtain rfl:f=10:=Option.some.inj ((show Tryz.prog.funcNamed "trail/trailkeep.Written"=some 10 by kernel_rfl).symm.trans hf) |>.symm
 obtain rfl:fn=Tryz.f10:=(Option.some.inj (Tryz.func10.symm.trans hfn)).symm
 refine ⟨by kernel_rfl,fun j t ht=>?_⟩
 rw [Tryz.params10] at ht
 have hm:=Array.mem_of_getElem? ht
 simp only [List.mem_toArray,List.mem_cons,List.not_mem_nil,or_false] at hm
 rcases hm with rfl | rfl
 ·exact (show Tryz.prog.wantsStandIn 9=false by kernel_rfl)
 exact (show Tryz.prog.wantsStandIn 24=false by kernel_rfl)
theorem written_holds:Rows.WrittenCardSaid :=
 Claim7.holds_tied_plain_at .later [] _ _ _ _ said (fun _ h=>by cases h) (by kernel_rfl) (fun _ h=>by cases h) written_row_tie rfl ⟨rfl,rfl⟩ (by kernel_rfl) rfl plain (by kernel_rfl)
end Go.Proofs.YtcbadebjpogmlaaGreatDoor
