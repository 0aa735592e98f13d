import Derived.Test.YtcbadebjpogmlaaGreatDoorPCt
import Derived.Test.YtcbadebjpogmlaaGreatDoorPTx
import Derived.Test.YtcbadebjpogmlaaGreatDoorPPh
namespace Go.Proofs.YtcbadebjpogmlaaGreatDoor
open Go.RowKit Tr Go.Conc
structure QH (w:World) (gq:Nat) (xs:List Sg):Prop where
 ex:∃b tt Dp,Blk w gq #[fvp b] 77∧OkD Dp w (fun w=>PlanV w b tt xs)∧∀k,Dp k→k<w.heap.size
 pos:∀g ∈ xs,0<g.l.length
 sel:selN xs≤10
theorem QH.len {w:World} {gq:Nat} {xs:List Sg} (h:QH w gq xs):xs.length≤10:=Nat.le_trans (len_sel xs h.pos) h.sel
theorem QH.keep {w w':World} {gq:Nat} {xs:List Sg} (h:QH w gq xs) (k:Keeps w w'):QH w' gq xs:=by
 obtain ⟨b,tt,Dp,h1,h2,h3⟩:=h.ex
 exact ⟨⟨b,tt,Dp,h1.fr k id,h2.keep (fun j hj=>k.block j (h3 j hj) id),fun j hj=>Nat.lt_of_lt_of_le (h3 j hj) k.size⟩,h.pos,h.sel⟩
theorem qh_of {w:World} {gq:Nat} {tt:ByteArray} {s:List UInt8} (h:QryV w gq tt (pQuery s)) (hs:selN (pQuery s)≤10):QH w gq (pQuery s):=by
 obtain ⟨b,D,h1,h2⟩:=h
 exact ⟨⟨b,tt,D,(h2.self).1,fun w' s=>(h2 w' s).2,fun k hk=>h1.lt hk⟩,query_len s,hs⟩
theorem m_right {w:World} {s:ByteArray} (he:EV w) (hs:s.size≤120) (hf:FinP (bs s)) (hc:C (bs s) (s.size+1)≤10):Calls Tryz.prog 26 #[.string s] w fun r w'=>∃gq,r=.returned (.tuple #[.pointer (some ⟨gq,0,none⟩),.int .i64 0,.int .i64 0])∧QH w' gq (pQuery (bs s))∧Keeps w w':=by
 refine (m_comp (by unfold maxLen; omega) he).mono ?_
 rintro r w' ⟨k,h | h | h | h⟩
 ·omega
 ·obtain ⟨_,e,p,h1,_⟩:=h
  exact (h1.notFin hf).elim
 ·omega
 obtain ⟨_,_,_,gq,tt,rfl,h1,_,h3⟩:=h
 exact ⟨gq,rfl,qh_of h1 h3,k⟩
theorem q_select {w:World} {gq:Nat} {xs:List Sg} (h:QH w gq xs) (he:EN w) (s:ByteArray) (hs:s.size≤1100000):Calls Tryz.prog 18 #[.pointer (some ⟨gq,0,none⟩),.string s] w (SelP s xs w):=by
 obtain ⟨b,tt,Dp,h1,h2,h3⟩:=h.ex
 exact p_select h1 (fun w' k=>h2 w' (fun j hj=>k.block j (h3 j hj) id)) he h.pos h.sel s hs
end Go.Proofs.YtcbadebjpogmlaaGreatDoor
namespace Go.Proofs.YtcbadebjpogmlaaGreatDoor
open Go.RowKit Tr Go.Conc
def hq1:ByteArray:=⟨#[36,46,46,97]⟩
def hx1:ByteArray:=⟨#[123,34,97,34,58,91,49,44,123,34,97,34,58,50,125,93,125]⟩
def hq2:ByteArray:=⟨#[36,91,63,64,46,120,60,61,50,38,38,33,64,46,121,93]⟩
def hx2:ByteArray:=⟨#[91,123,34,120,34,58,50,125,44,123,34,120,34,58,49,44,34,121,34,58,48,125,44,123,34,120,34,58,51,125,93]⟩
def hq3:ByteArray:=⟨#[36,91,42,93,91,45,49,93]⟩
def hp1:ByteArray:=⟨#[91,91,49,44,50,93,44,91,51]⟩
def hp2:ByteArray:=⟨#[93,93]⟩
set_option maxRecDepth 100000
theorem fin1:FinP (bs hq1)∧C (bs hq1) (hq1.size+1)≤10:=by unfold FinP; decide +kernel
theorem fin2:FinP (bs hq2)∧C (bs hq2) (hq2.size+1)≤10:=by unfold FinP; decide +kernel
theorem fin3:FinP (bs hq3)∧C (bs hq3) (hq3.size+1)≤10:=by unfold FinP; decide +kernel
def ndP (v:Tv):List UInt8×Nat×Nat:=(v.d.path,v.d.frm,v.d.to)
def ndC (p:List UInt8×Nat×Nat):List Value:=[.string (bsb p.1),.int .i64 (p.2.1:Nat),.int .i64 (p.2.2:Nat)]
theorem nd_map (l:List Tv):l.flatMap ndCells=(l.map ndP).flatMap ndC:=by rw [List.flatMap_map]; rfl
theorem ok1:txErr (bs hx1)=0∧(txVal (bs hx1)).map (fun t=>(nodesS (pQuery (bs hq1)) [t]).map ndP)=some [([36,91,39,97,39,93],5,16),([36,91,39,97,39,93,91,49,93,91,39,97,39,93],13,14)]:=by decide +kernel
theorem ok2:txErr (bs hx2)=0∧(txVal (bs hx2)).map (fun t=>(nodesS (pQuery (bs hq2)) [t]).map ndP)=some [([36,91,48,93],1,8)]:=by decide +kernel
def tkP (p:Tv×Nat):List UInt8×Nat×Nat×Nat:=(p.1.d.path,p.1.d.frm,p.1.d.to,p.2)
def tkC (p:List UInt8×Nat×Nat×Nat):List Value:=mtCells p.1 p.2.1 p.2.2.1 p.2.2.2
theorem tk_map (l:List (Tv×Nat)):l.flatMap tcl=(l.map tkP).flatMap tkC:=by rw [List.flatMap_map]; rfl
theorem ok3:stE (bs hp1)=0∧(stN (pQuery (bs hq3)) [] (bs hp1)).map tkP=[([36,91,48,93,91,49,93],4,5,1)]∧stE (bs hp1++bs hp2)=0∧(stN (pQuery (bs hq3)) (bs hp1) (bs hp2)).map tkP=[([36,91,49,93,91,48,93],8,9,1)]:=by decide +kernel
theorem stood:Tryz.prog.stoodInHeld 42=false:=by kernel_rfl
theorem neqNode (w:World) (p:ByteArray) (a b:Int):(binOp .neq 42 (.agg #[.string p,.int .i64 a,.int .i64 b]) (.agg #[.string p,.int .i64 a,.int .i64 b])).run Tryz.prog w=.ok (.bool false) w:=by
 have hs:=stood
 go_simp
theorem sel_known {w w':World} {s:ByteArray} {xs:List Sg} {r:Ending} (h:SelP s xs w r w') (h0:txErr (bs s)=0) {l:List (List UInt8×Nat×Nat)} (h1:(txVal (bs s)).map (fun t=>(nodesS xs [t]).map ndP)=some l) (hl:0<l.length):∃g cap,r=.returned (.tuple #[.slice (some ⟨g,0,none⟩) l.length cap,.int .i64 0,.int .i64 0])∧(∀j,j<l.length * 3→w'.cell? ⟨g,j,none⟩=(l.flatMap ndC)[j]?)∧Keeps w w':=by
 obtain ⟨k,h | h⟩:=h
 ·exact absurd h0 h.1
 obtain ⟨_,t,sv,ht,rfl,ho⟩:=h
 rw [ht] at h1
 have e:(nodesS xs [t]).map ndP=l:=Option.some.inj h1
 have el:(nodesS xs [t]).length=l.length:=by rw [← e,List.length_map]
 rw [nd_map,e,el] at ho
 obtain ⟨g,cap,rfl,_,_⟩:=ho.form hl
 exact ⟨g,cap,rfl,fun j hj=>ho.cellAt j hj,k⟩
theorem told_known {w':World} {sv:Value} {n:Nat} {tl:List (Tv×Nat)} (ho:w'.ownsRow 0 44 4 sv n (tl.flatMap tcl)) (hn:n=tl.length) {l:List (List UInt8×Nat×Nat×Nat)} (h1:tl.map tkP=l) (hl:0<l.length):∃g cap,sv=.slice (some ⟨g,0,none⟩) l.length cap∧∀j,j<l.length * 4→w'.cell? ⟨g,j,none⟩=(l.flatMap tkC)[j]?:=by
 have el:n=l.length:=by rw [hn,← h1,List.length_map]
 subst el
 rw [tk_map,h1] at ho
 obtain ⟨g,cap,rfl,_,_⟩:=ho.form hl
 exact ⟨g,cap,rfl,fun j hj=>ho.cellAt j hj⟩
set_option maxHeartbeats 8000000 in
theorem p_head {w:World} (he:EN w):Calls Tryz.prog 25 #[] w fun r w'=>r=.returned (.bool true)∧Keeps w w':=by
 have HE:=hide he
 have hst:=stood
 clear he
 go_enter Tryz.func25,Tryz.ntmps25
 go_wp2_with fail
 refine (m_right (s:=hq1) HE.out.ev (by decide) fin1.1 fin1.2).mono ?_
 rintro r w1 ⟨gq,rfl,hQ,k1⟩
 have E1:=hide (HE.out.keep k1)
 have SEL:=hide (q_select hQ E1.out hx1 (by decide))
 have K1:=hide k1
 clear hQ k1
 go_wp2_with fail
 refine SEL.out.mono ?_
 intro r w2 hs2
 obtain ⟨g2,cap2,rfl,c2,k2⟩:=sel_known hs2 ok1.1 ok1.2 (by decide)
 have d0:w2.cell? ⟨g2,0,none⟩=some (.string ⟨#[36,91,39,97,39,93]⟩):=c2 0 (by decide)
 have d1:w2.cell? ⟨g2,1,none⟩=some (.int .i64 5):=c2 1 (by decide)
 have d2:w2.cell? ⟨g2,2,none⟩=some (.int .i64 16):=c2 2 (by decide)
 have d3:w2.cell? ⟨g2,3,none⟩=some (.string ⟨#[36,91,39,97,39,93,91,49,93,91,39,97,39,93]⟩):=c2 3 (by decide)
 have d4:w2.cell? ⟨g2,4,none⟩=some (.int .i64 13):=c2 4 (by decide)
 have d5:w2.cell? ⟨g2,5,none⟩=some (.int .i64 14):=c2 5 (by decide)
 have E2:=hide (E1.out.keep k2)
 have K2:=hide (K1.out.trans k2)
 clear hs2 c2 k2 E1 K1 SEL
 go_wp2_with fail
 refine (m_right (s:=hq2) E2.out.ev (by decide) fin2.1 fin2.2).mono ?_
 rintro r w3 ⟨gq3,rfl,hQ,k3⟩
 have E3:=hide (E2.out.keep k3)
 have SEL:=hide (q_select hQ E3.out hx2 (by decide))
 have K3:=hide (K2.out.trans k3)
 clear hQ k3 d0 d1 d2 d3 d4 d5 E2 K2
 go_wp2_with fail
 refine SEL.out.mono ?_
 intro r w4 hs2
 obtain ⟨g4,cap4,rfl,c2,k4⟩:=sel_known hs2 ok2.1 ok2.2 (by decide)
 have d0:w4.cell? ⟨g4,0,none⟩=some (.string ⟨#[36,91,48,93]⟩):=c2 0 (by decide)
 have E4:=hide (E3.out.keep k4)
 have K4:=hide (K3.out.trans k4)
 clear hs2 c2 k4 E3 K3 SEL
 go_wp2_with fail
 refine (m_right (s:=hq3) E4.out.ev (by decide) fin3.1 fin3.2).mono ?_
 rintro r w5 ⟨gq5,rfl,hQ,k5⟩
 have E5:=hide (E4.out.keep k5)
 have K5:=hide (K4.out.trans k5)
 have STR:Hid (Calls Tryz.prog 37 #[.pointer (some ⟨gq5,0,none⟩)] w5 fun r w'=>∃sb b tt Dp,r=.returned (.pointer (some ⟨sb,0,none⟩))∧FdI w5 sb b tt (pQuery (bs hq3)) Dp [] (.slice none 0 0) w'):=by
  obtain ⟨b,tt,Dp,h1,h2,h3⟩:=hQ.ex
  refine (s_stream h1 h2 h3 E5.out).mono ?_
  rintro res w' ⟨sb,r,f,Er,E,rfl,h1,h2,h3,h4,h5,h6,h7,h8,h9⟩
  refine ⟨sb,b,tt,Dp,rfl,⟨⟨_,st_new h1 h2 h3 h4 h5,fun k hk=>?_,⟨rfl,Or.inl ⟨rfl,rfl⟩⟩,fun k hk=>(by cases hk)⟩,h9⟩⟩
  rcases hk with y | y | y
  ·exact Or.inr (h7 k y)
  ·rcases h8 k y with u | u | u
   ·exact Or.inl (Or.inl u)
   ·exact Or.inl (Or.inr u)
   exact Or.inr u
  exact Or.inr (y▸h6)
 have HX:=hide (And.intro hQ.len (And.intro hQ.sel hQ.pos))
 clear hQ k5 d0 E4 K4
 go_wp2_with fail
 refine STR.out.mono ?_
 rintro r w6 ⟨sb,b,tt,Dp,rfl,hF⟩
 have FD:=hide (fd_feed HX.out.1 HX.out.2.1 HX.out.2.2 hF hp1 (by decide))
 clear hF STR
 go_wp2_with fail
 refine FD.out.mono ?_
 rintro r w7 ⟨sv,rfl,g1,g2,g3,Es,g4,g5,g6,g7⟩
 have eT:stT (pQuery (bs hq3)) ([]++bs hp1)=stN (pQuery (bs hq3)) [] (bs hp1):=by rw [stT_app]; rfl
 have F7:FdI w5 sb b tt (pQuery (bs hq3)) Dp ([]++bs hp1) sv w7:=⟨⟨Es,g4,g5,by rw [eT]; exact g1,fun k hk=>⟨(g6 k hk).2.2,(g6 k hk).1⟩⟩,g2⟩
 have FD2:=hide (fd_feed HX.out.1 HX.out.2.1 HX.out.2.2 F7 hp2 (by decide))
 have z1:stE ([]++bs hp1)=0:=ok3.1
 rw [z1]
 generalize hat1:stAt ([]++bs hp1)=at1
 clear g1 g2 g3 g4 g5 g6 g7 F7 FD hat1
 go_wp2_with fail
 refine FD2.out.mono ?_
 rintro r w8 ⟨sv8,rfl,g1,g2,g3,Es8,g4,g5,g6,g7⟩
 rw [eT] at g3
 obtain ⟨ga,ca,rfl,da⟩:=told_known g3 rfl ok3.2.1 (by decide)
 obtain ⟨gb,cb,rfl,db⟩:=told_known g1 rfl ok3.2.2.2 (by decide)
 have z2:stE ([]++bs hp1++bs hp2)=0:=ok3.2.2.1
 rw [z2]
 generalize hat2:stAt ([]++bs hp1++bs hp2)=at2
 have d0:w8.cell? ⟨ga,0,none⟩=some (.string ⟨#[36,91,48,93,91,49,93]⟩):=da 0 (by decide)
 have d3:w8.cell? ⟨ga,3,none⟩=some (.int .i64 1):=da 3 (by decide)
 have d4:w8.cell? ⟨gb,0,none⟩=some (.string ⟨#[36,91,49,93,91,48,93]⟩):=db 0 (by decide)
 have KF:=hide (K5.out.trans g2)
 clear g1 g2 g3 g4 g5 g6 g7 da db FD2 eT z1 z2 HX E5 K5 hat2
 go_wp2
 go_ret
 exact ⟨rfl,KF.out⟩
end Go.Proofs.YtcbadebjpogmlaaGreatDoor
namespace Go.Proofs.YtcbadebjpogmlaaGreatDoor
open Go.RowKit Tr Go.Conc
set_option maxRecDepth 100000 in
set_option maxHeartbeats 2000000 in
theorem p_compiled {w:World} (he:EN w) {s:ByteArray} (hs:s.size≤120) (hf:FinP (bs s)) (hc:C (bs s) (s.size+1)≤10):Calls Tryz.prog 15 #[.string s] w fun r w'=>∃gq,r=.returned (.pointer (some ⟨gq,0,none⟩))∧QH w' gq (pQuery (bs s))∧Keeps w w':=by
 have HE:=hide he
 have FC:=hide (And.intro hf hc)
 clear he hf hc
 go_enter Tryz.func15,Tryz.ntmps15
 go_wp2_with fail
 refine (p_head HE.out).mono ?_
 rintro r w1 ⟨rfl,k1⟩
 have K1:=hide k1
 clear k1
 go_wp2_with fail
 refine (m_right (HE.out.keep K1.out).ev hs FC.out.1 FC.out.2).mono ?_
 rintro r w2 ⟨gq,rfl,hQ,k2⟩
 have HQ:=hide hQ
 have K2:=hide (K1.out.trans k2)
 clear hQ k2
 go_wp2
 go_ret
 exact ⟨gq,rfl,HQ.out,K2.out⟩
end Go.Proofs.YtcbadebjpogmlaaGreatDoor
