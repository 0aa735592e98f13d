import Derived.Test.YtcbadebjpogmlaaGreatDoorACr
import Derived.Test.YtcbadebjpogmlaaGreatDoorACy
import Derived.Test.YtcbadebjpogmlaaGreatDoorACm
import Derived.Deep.RegionHeldLaw
namespace Go.Proofs.YtcbadebjpogmlaaGreatDoor
open Go.RowKit Tr Go.Conc
theorem tcl_get:∀(l:List (Tv×Nat)) (k i:Nat) (h:k<l.length),i<4→(l.flatMap tcl)[k * 4+i]?=(tcl l[k])[i]?
 | [],_,_,h,_=>absurd h (by simp)
 | a::l,0,i,_,hi=>by
  rw [List.flatMap_cons,Nat.zero_mul,Nat.zero_add,List.getElem?_append_left (by simpa [tcl,mtCells] using hi)]
  rfl
 | a::l,k+1,i,h,hi=>by
  have e:(tcl a).length=4:=rfl
  rw [List.flatMap_cons,List.getElem?_append_right (by rw [e]; omega),e,show (k+1) * 4+i - 4=k * 4+i by omega]
  exact tcl_get l k i (by simpa using h) hi
def mF (l:List (Tv×Nat)) (i:Nat):ByteArray×Int×Int×Int:=match l[i]? with
 | some p=>(bsb p.1.d.path,(p.1.d.frm:Nat),(p.1.d.to:Nat),(p.2:Nat))
 | none=>(⟨#[]⟩,0,0,0)
theorem mt_of {w:World} {g:Nat} {l r:List (Tv×Nat)} (h:∀j,j<(l++r).length * 4→w.cell? ⟨g,j,none⟩=((l++r).flatMap tcl)[j]?):MtAt w g l.length (mF l):=fun i hi=>by
 have hl:i<(l++r).length:=by rw [List.length_append]; omega
 have e:(l++r)[i]=l[i]:=List.getElem_append_left hi
 have em:mF l i=(bsb l[i].1.d.path,((l[i].1.d.frm:Nat):Int),((l[i].1.d.to:Nat):Int),((l[i].2:Nat):Int)):=by unfold mF; rw [List.getElem?_eq_getElem hi]
 have G:∀j,j<4→w.cell? ⟨g,i * 4+j,none⟩=(tcl l[i])[j]?:=fun j hj=>by rw [h _ (by omega),tcl_get _ i j hl hj,e]
 rw [em]
 exact ⟨G 0 (by omega),G 1 (by omega),G 2 (by omega),G 3 (by omega)⟩
end Go.Proofs.YtcbadebjpogmlaaGreatDoor
namespace Go.Proofs.YtcbadebjpogmlaaGreatDoor
open Go.RowKit Tr Go.Conc
def clN (xs:List Sg) (p:List UInt8):List (Tv×Nat):=if stE p=0 then (fRun xs (noT (fRun xs fInit (sRun sInit p).ts)) (if sWhole (sRun sInit p).z=true then sEnd (sRun sInit p).z else [])).told else []
theorem cl_whole {xs:List Sg} {p:List UInt8} (h:txErr p=0):stT xs p++clN xs p=(fRun xs fInit (txTs p)).told:=by
 have he:stE p=0:=by
  unfold txErr at h
  unfold stE
  by_cases x:(sRun sInit p).e≠0
  ·rw [if_pos x] at h; exact h
  simpa using x
 have hw:sWhole (sRun sInit p).z=true:=by
  unfold txErr at h
  rw [if_neg (by simpa [stE] using he)] at h
  by_cases x:sWhole (sRun sInit p).z=true
  ·exact x
  rw [if_neg x] at h; cases h
 unfold clN stT txTs
 rw [if_pos he,if_pos hw,fRun_app]
 exact (fRun_no xs _ _).1.symm
theorem tx_bad {p:List UInt8} (h:stE p≠0):txErr p=stE p∧txAt p=stAt p:=by
 unfold txErr txAt stAt
 unfold stE at h
 rw [if_pos h,if_pos h]
 exact ⟨rfl,by rw [if_neg (by simpa [stE] using h)]⟩
theorem tx_good {p:List UInt8} (h:stE p=0):txErr p=(if sWhole (sRun sInit p).z=true then 0 else 2)∧txAt p=(if sWhole (sRun sInit p).z=true then 0 else p.length):=by
 unfold txErr txAt
 unfold stE at h
 have hn:¬(sRun sInit p).e≠0:=by simpa using h
 exact ⟨if_neg hn,if_neg hn⟩
def ScP (sb:Nat) (xs:List Sg) (Dp:Nat→Prop) (H:Nat→Option Obj) (Es:Nat→Prop) (p:List UInt8) (w:World) (res:Ending) (w':World):Prop :=
 ∃sv,res=.returned (.tuple #[sv,.int .i64 (txErr p:Nat),.int .i64 (txAt p:Nat)])∧w'.ownsRow 0 44 4 sv (clN xs p).length ((clN xs p).flatMap tcl)∧(∀k,sv.ownBlock=some k→(k≠sb∧¬(Dp k∨gEN k))∧(Es k∨w.heap.size≤k))∧Fr Es w w'∧(∀k,Dp k∨gEN k→w'.heap[k]?=H k)∧Blk w' sb #[.pointer none,.pointer none,.int .i64 4,.int .i64 0] 135
theorem st_close {sb b:Nat} {tt:ByteArray} {xs:List Sg} {Dp:Nat→Prop} {H:Nat→Option Obj} (hx:xs.length≤10) (hsel:selN xs≤10) (hpos:∀g ∈ xs,0<g.l.length) {w:World} {Es:Nat→Prop} {p:List UInt8} (h:ST sb b tt xs Dp H w Es p) (hl:p.length≤4000000) :
 Calls Tryz.prog 39 #[fvp sb] w (ScP sb xs Dp H Es p w):=by
 rcases h with ⟨h0,r,f,Er,E,h1,h2,h3,h4,h5,h6⟩ | ⟨h0,h1,h3,h2⟩
 ·have R:=run_ok' p sInit_ok.1 sInit_ok.2 (by simp [sInit]) (by simp [sInit]; omega)
  obtain ⟨r1,r2,r3,r4⟩:=R.ok h0
  have hat:(sRun sInit p).z.at'=p.length:=by simpa [sInit] using r3
  have hsh:(noT (fRun xs fInit (sRun sInit p).ts)).g.sh=shRun ⟨[],0⟩ (sRun sInit p).ts:=fRun_sh xs (sRun sInit p).ts (s:=fInit) R.tok
  have X:=(run_tt p sInit 4000000 (by simp [sInit]; omega) (by simp [sInit])).2
  have hE:OkL (shRun ⟨[],0⟩ (sRun sInit p).ts) (sEnd (sRun sInit p).z):=by
   unfold sEnd
   split
   ·rename_i h9; exact OkL.one (tokNum r1 r4 (Or.inr h9) (by omega))
   trivial
  have hE2:OkL (noT (fRun xs fInit (sRun sInit p).ts)).g.sh (if sWhole (sRun sInit p).z=true then sEnd (sRun sInit p).z else []):=by
   rw [hsh]
   split
   ·exact hE
   trivial
  have hN:∀t ∈ (if sWhole (sRun sInit p).z=true then sEnd (sRun sInit p).z else []),t.t.length≤4000000:=fun t ht=>by
   split at ht
   ·unfold sEnd at ht
    split at ht
    ·rw [List.mem_singleton.1 ht]; exact X
    cases ht
   cases ht
  refine (s_close hx hsel hpos h1 h2 h3 h4 h5 r1 hE2 hN).mono ?_
  rintro res w' ⟨sv,rfl,g1,g2,g3,g4,g5⟩
  obtain ⟨t1,t2⟩:=tx_good h0
  refine ⟨sv,by rw [t1,t2,hat],?_,fun k hk=>⟨(g2 k hk).1,(g2 k hk).2.imp (fun y=>(h6 k).2 (Or.inr (Or.inl y))) id⟩,g3.mono (fun k _ y=>(h6 k).2 y),g4,g5⟩
  unfold clN
  rw [if_pos h0]
  exact g1
 refine (s_close0 h1 h0).mono ?_
 rintro res w' ⟨rfl,g1,g2⟩
 obtain ⟨t1,t2⟩:=tx_bad h0
 have hN:clN xs p=[]:=by unfold clN; rw [if_neg h0]
 exact ⟨.slice none 0 0,by rw [t1,t2],by rw [hN]; exact ⟨rfl,Or.inl ⟨rfl,rfl⟩⟩,fun k hk=>(by cases hk),g2.mono (fun k _ y=>(h2 k).2 (Or.inl y)),fun k hk=>(g2.block k (h3 k hk).2.1 (h3 k hk).2.2).trans (h3 k hk).1,g1⟩
end Go.Proofs.YtcbadebjpogmlaaGreatDoor
namespace Go.Proofs.YtcbadebjpogmlaaGreatDoor
open Go.RowKit Tr
abbrev Nd:=ByteArray×Int×Int
def ndEq (n m:Nd):Bool:=if n.1.toList=m.1.toList then if n.2.1=m.2.1 then if n.2.2=m.2.2 then true else false else false else false
theorem ndEq_refl (n:Nd):ndEq n n=true:=by simp [ndEq]
theorem ndEq_ne {n m:Nd} (h:n.2.1≠m.2.1):ndEq n m=false:=by simp [ndEq,h]
theorem stoodN:Tryz.prog.stoodInHeld 42=false:=by kernel_rfl
theorem eqlNode (w:World) (p p':ByteArray) (a b a' b':Int):(binOp .eql 42 (.agg #[.string p,.int .i64 a,.int .i64 b]) (.agg #[.string p',.int .i64 a',.int .i64 b'])).run Tryz.prog w=.ok (.bool (ndEq (p,a,b) (p',a',b'))) w:=by
 have hs:=stoodN
 unfold ndEq
 go_simp
 repeat' split
 all_goals simp_all
def cntF (F:Nat→Nd) (x:Nd):Nat→Nat
 | 0=>0
 | n+1=>cntF F x n+if ndEq (F n) x=true then 1 else 0
theorem cntF_le (F:Nat→Nd) (x:Nd):∀n,cntF F x n≤n
 | 0=>Nat.le_refl _
 | n+1=>by
  have:=cntF_le F x n
  rw [cntF]
  split<;>omega
def NdAt (w:World) (g n:Nat) (F:Nat→Nd):Prop:=∀i,i<n→w.cell? ⟨g,i * 3,none⟩=some (.string (F i).1)∧w.cell? ⟨g,i * 3+1,none⟩=some (.int .i64 (F i).2.1)∧w.cell? ⟨g,i * 3+2,none⟩=some (.int .i64 (F i).2.2)
theorem NdAt.keep {w w':World} {g n:Nat} {F:Nat→Nd} (h:NdAt w g n F) (k:Keeps w w'):NdAt w' g n F:=fun i hi=>by
 obtain ⟨h0,h1,h2⟩:=h i hi
 have hl:g<w.heap.size:=World.block_lt_of_cell? w ⟨g,i * 3,none⟩ h0
 exact ⟨(k.cell (p:=⟨g,_,none⟩) hl id).trans h0,(k.cell (p:=⟨g,_,none⟩) hl id).trans h1,(k.cell (p:=⟨g,_,none⟩) hl id).trans h2⟩
def NdsAt (w:World) (ao:Option Addr) (n:Nat) (F:Nat→Nd):Prop:=0<n→∃g,ao=some ⟨g,0,none⟩∧NdAt w g n F
theorem NdsAt.keep {w w':World} {ao:Option Addr} {n:Nat} {F:Nat→Nd} (h:NdsAt w ao n F) (k:Keeps w w'):NdsAt w' ao n F:=fun hn=>by
 obtain ⟨g,e,hv⟩:=h hn
 exact ⟨g,e,hv.keep k⟩
set_option maxHeartbeats 4000000 in
set_option maxRecDepth 100000 in
theorem p_times {w:World} {ao:Option Addr} {n ca:Nat} {F:Nat→Nd} (hn:n≤4000000000000) (h:NdsAt w ao n F) (x:Nd):Calls Tryz.prog 23 #[.slice ao n ca,.agg #[.string x.1,.int .i64 x.2.1,.int .i64 x.2.2]] w fun r w'=>r=.returned (.int .i64 (cntF F x n:Nat))∧Keeps w w':=by
 obtain ⟨x0,x1,x2⟩:=x
 have H:=hide h
 obtain ⟨W1,hW1⟩:∃W1,W1=w.alloc (.cells #[.string x0,.int .i64 x1,.int .i64 x2] 42):=⟨_,rfl⟩
 obtain ⟨xb,hxb⟩:∃xb,xb=w.heap.size:=⟨_,rfl⟩
 have K1:Hid (Keeps w W1):=by rw [hW1]; exact (Fr.refl _ w).alloc _
 have B1:Hid (Blk W1 xb #[.string x0,.int .i64 x1,.int .i64 x2] 42):=by rw [hW1,hxb]; exact Blk.new w _ _
 have HW1:=hide hW1
 have HXB:=hide hxb
 clear h hW1 hxb
 go_enter Tryz.func23,Tryz.ntmps23
 go_wp2
 rw [← HXB.out,← HW1.out]
 go_loopw [5,6] (fun kv iv wr=>∃i:Nat,kv=.int .i64 (cntF F (x0,x1,x2) i:Nat)∧iv=.int .i64 (i:Nat)∧i≤n∧Keeps W1 wr) (fun _ iv _=>match iv with | .int _ m=>((n:Int) - m).toNat | _=>0)
 case atStart=>exact ⟨0,rfl,rfl,by omega,Fr.refl _ _⟩
 case round =>
  obtain ⟨i,rfl,rfl,hin,hK⟩:=hrel
  have KW:=hide hK
  have hle:=cntF_le F (x0,x1,x2) i
  by_cases hi:i<n
  ·obtain ⟨ga,rfl,hA⟩:=H.out (by omega)
   obtain ⟨a0,a1,a2⟩:=(hA.keep (K1.out.trans KW.out)) i hi
   have bx:=B1.out.fr hK id
   have b0:wr.cell? ⟨xb,0,none⟩=some (.string x0):=bx.cell 0
   have b1:wr.cell? ⟨xb,1,none⟩=some (.int .i64 x1):=bx.cell 1
   have b2:wr.cell? ⟨xb,2,none⟩=some (.int .i64 x2):=bx.cell 2
   have hii:(i:Int)<(n:Int):=by omega
   have hwi:IntKind.i64.wrap ((i:Int)+1)=(i:Int)+1:=by rw [IntWalk.i64_in _ (by omega)]
   have FIN:Hid (∀W,Keeps wr W→(∃i':Nat,Value.int .i64 ((cntF F (x0,x1,x2) i:Int)+(if ndEq (F i) (x0,x1,x2)=true then 1 else 0))=.int .i64 (cntF F (x0,x1,x2) i':Nat)∧Value.int .i64 ((i:Int)+1)=.int .i64 (i':Nat)∧i'≤n∧Keeps W1 W)∧((n:Int) - ((i:Int)+1)).toNat<((n:Int) - (i:Int)).toNat):=fun W hW=>⟨⟨i+1,by rw [cntF]; split<;>simp,by simp,by omega,KW.out.trans hW⟩,by omega⟩
   generalize cntF F (x0,x1,x2) i=cc at *
   have hwc:IntKind.i64.wrap ((cc:Int)+1)=(cc:Int)+1:=by rw [IntWalk.i64_in _ (by omega)]
   have KD:=hide ((Fr.refl (fun _=>False) wr).drew)
   have EQ:Hid (∀v:World,(binOp .eql 42 (.agg #[.string (F i).1,.int .i64 (F i).2.1,.int .i64 (F i).2.2]) (.agg #[.string x0,.int .i64 x1,.int .i64 x2])).run Tryz.prog v=.ok (.bool (ndEq (F i) (x0,x1,x2))) v):=fun v=>eqlNode v _ _ _ _ _ _
   have eqq:=EQ.out
   generalize (F i).1=f0 at *
   generalize (F i).2.1=f1 at *
   generalize (F i).2.2=f2 at *
   cases hq:ndEq (F i) (x0,x1,x2)
   all_goals
    rw [hq] at eqq FIN
    clear hA H KW hin hK EQ bx hq hle
    simp only [if_true,if_false,Bool.false_eq_true,Int.add_zero] at FIN
    go_wp2
    go_region
    all_goals
     go_wp2
     exact FIN.out _ KD.out
  have hii:¬(i:Int)<(n:Int):=by omega
  obtain rfl:i=n:=by omega
  have KF:=hide (K1.out.trans KW.out)
  clear hi H hK
  go_wp2
  go_ret
  exact ⟨rfl,KF.out⟩
end Go.Proofs.YtcbadebjpogmlaaGreatDoor
namespace Go.Proofs.YtcbadebjpogmlaaGreatDoor
open Go.RowKit Tr
abbrev Mt:=ByteArray×Int×Int×Int
def mNd (x:Mt):Nd:=(x.1,x.2.1,x.2.2.1)
def sumF (F:Nat→Mt):Nat→Int
 | 0=>0
 | n+1=>sumF F n+(F n).2.2.2
structure CntOk (m n:Nat) (F:Nat→Mt) (G:Nat→Nd):Prop where
 k:∀i,i<m→1≤(F i).2.2.2∧(F i).2.2.2=(cntF G (mNd (F i)) n:Nat)
 d:∀k i,k<i→i<m→ndEq (mNd (F k)) (mNd (F i))=false
 s:sumF F m=(n:Nat)
theorem sumF_le {F:Nat→Mt} {m n:Nat} {G:Nat→Nd} (h:∀i,i<m→1≤(F i).2.2.2∧(F i).2.2.2=(cntF G (mNd (F i)) n:Nat)):∀i,i≤m→0≤sumF F i∧sumF F i≤(i * n:Nat)
 | 0,_=>by simp [sumF]
 | i+1,hi=>by
  obtain ⟨a,b⟩:=sumF_le h i (by omega)
  obtain ⟨c,e⟩:=h i (by omega)
  have:=cntF_le G (mNd (F i)) n
  rw [sumF,Nat.add_mul,Nat.one_mul]
  generalize i * n=q at *
  omega
set_option maxHeartbeats 4000000 in
set_option maxRecDepth 100000 in
theorem p_counted {w:World} {ao bo:Option Addr} {m n ca cb:Nat} {F:Nat→Mt} {G:Nat→Nd} (hm:m≤4000000) (hn:n≤2100000000000) (hA:0<m→∃g,ao=some ⟨g,0,none⟩∧MtAt w g m F) (hB:NdsAt w bo n G) (hC:CntOk m n F G):Calls Tryz.prog 20 #[.slice ao m ca,.slice bo n cb] w fun r w'=>r=.returned (.bool true)∧Keeps w w':=by
 have HA:=hide hA
 have HB:=hide hB
 have HC:=hide hC
 have SB:Hid (∀i,i≤m→0≤sumF F i∧sumF F i≤8400000000000000000):=fun i hi=>by
  obtain ⟨a,b⟩:=sumF_le hC.k i hi
  refine ⟨a,Int.le_trans b ?_⟩
  have:i * n≤4000000 * 2100000000000:=Nat.mul_le_mul (by omega) hn
  omega
 have hst:=stoodN
 clear hA hB hC
 go_enter Tryz.func20,Tryz.ntmps20
 go_wp2
 go_loopw [5,6] (fun sv iv wr=>∃i:Nat,sv=.int .i64 (sumF F i)∧iv=.int .i64 (i:Nat)∧i≤m∧Keeps w wr) (fun _ iv _=>match iv with | .int _ j=>((m:Int) - j).toNat | _=>0)
 case atStart=>exact ⟨0,rfl,rfl,by omega,Fr.refl _ _⟩
 case round =>
  obtain ⟨i,rfl,rfl,him,hK⟩:=hrel
  generalize wr=w0 at *
  have KW:=hide hK
  clear hK
  by_cases hi:i<m
  ·obtain ⟨ga,rfl,hM⟩:=HA.out (by omega)
   have hM2:=hM.keep KW.out
   obtain ⟨a0,a1,a2,a3⟩:=hM2 i hi
   obtain ⟨k1,k2⟩:=HC.out.k i hi
   have hii:(i:Int)<(m:Int):=by omega
   have hwi:IntKind.i64.wrap ((i:Int)+1)=(i:Int)+1:=by rw [IntWalk.i64_in _ (by omega)]
   obtain ⟨s1,s2⟩:=SB.out (i+1) (by omega)
   obtain ⟨s3,s4⟩:=SB.out i (by omega)
   rw [sumF] at s1 s2
   have hws:IntKind.i64.wrap (sumF F i+(F i).2.2.2)=sumF F i+(F i).2.2.2:=by rw [IntWalk.i64_in _ (by omega)]
   have hlt:ga<w0.heap.size:=World.block_lt_of_cell? w0 ⟨ga,i * 4,none⟩ a0
   have KS:Hid (∀W,Keeps w0 W→W.cell? ⟨ga,i * 4,none⟩=some (.string (F i).1)∧W.cell? ⟨ga,i * 4+1,none⟩=some (.int .i64 (F i).2.1)∧W.cell? ⟨ga,i * 4+2,none⟩=some (.int .i64 (F i).2.2.1)∧W.cell? ⟨ga,i * 4+3,none⟩=some (.int .i64 (F i).2.2.2)∧Keeps w0 W):=fun W hW=>by
    obtain ⟨b0,b1,b2,b3⟩:=(hM2.keep hW) i hi
    exact ⟨b0,b1,b2,b3,hW⟩
   have TM:Hid (∀W,Keeps w0 W→Calls Tryz.prog 23 #[.slice bo n cb,.agg #[.string (F i).1,.int .i64 (F i).2.1,.int .i64 (F i).2.2.1]] W fun r w'=>r=.returned (.int .i64 (F i).2.2.2)∧Keeps w0 w'):=fun W hW=>by
    refine (p_times (by omega) ((HB.out.keep KW.out).keep hW) (mNd (F i))).mono ?_
    rintro r w' ⟨rfl,k⟩
    exact ⟨by rw [k2],hW.trans k⟩
   have hlt1:¬(F i).2.2.2<1:=by omega
   have IN:Hid (∀(W:World) (k:Nat),Keeps w0 W→k<i→W.cell? ⟨ga,k * 4,none⟩=some (.string (F k).1)∧W.cell? ⟨ga,k * 4+1,none⟩=some (.int .i64 (F k).2.1)∧W.cell? ⟨ga,k * 4+2,none⟩=some (.int .i64 (F k).2.2.1)∧∀v:World,(binOp .eql 42 (.agg #[.string (F k).1,.int .i64 (F k).2.1,.int .i64 (F k).2.2.1]) (.agg #[.string (F i).1,.int .i64 (F i).2.1,.int .i64 (F i).2.2.1])).run Tryz.prog v=.ok (.bool false) v):=fun W k hW hk=>by
    obtain ⟨b0,b1,b2,b3⟩:=(hM2.keep hW) k (by omega)
    refine ⟨b0,b1,b2,fun v=>?_⟩
    rw [eqlNode]
    have:=HC.out.d k i hk hi
    unfold mNd at this
    rw [this]
   have FIN:Hid (∀W,Keeps w0 W→(∃i':Nat,Value.int .i64 (sumF F i+(F i).2.2.2)=.int .i64 (sumF F i')∧Value.int .i64 ((i:Int)+1)=.int .i64 (i':Nat)∧i'≤m∧Keeps w W)∧((m:Int) - ((i:Int)+1)).toNat<((m:Int) - (i:Int)).toNat):=fun W hW=>⟨⟨i+1,rfl,by simp,by omega,KW.out.trans hW⟩,by omega⟩
   generalize (F i).1=f0 at *
   generalize (F i).2.1=f1 at *
   generalize (F i).2.2.1=f2 at *
   generalize (F i).2.2.2=f3 at *
   generalize sumF F i=sm at *
   have hdec:decide (f3<1)=false:=decide_eq_false hlt1
   clear hlt1
   clear hM hM2 HA HB HC SB KW k1 k2 s1 s2 s3 s4 him hi a0 a1 a2 a3 hst
   go_wp2
   go_region_held (fun w'=>w'.cell? ⟨ga,i * 4,none⟩=some (.string f0)∧w'.cell? ⟨ga,i * 4+1,none⟩=some (.int .i64 f1)∧w'.cell? ⟨ga,i * 4+2,none⟩=some (.int .i64 f2)∧w'.cell? ⟨ga,i * 4+3,none⟩=some (.int .i64 f3)∧Keeps w0 w') (first | exact KS.out _ ((Fr.refl _ _).drewN 1) | exact KS.out _ (by assumption))
    (first | (go_at_call 23; refine (TM.out _ (by first | assumption | exact ‹_∧_∧_∧_∧Keeps w0 _›.2.2.2.2)).mono ?_; rintro r w1 ⟨rfl,hk1⟩))
   all_goals
    obtain ⟨c0,c1,c2,c3,_⟩:=KS.out _ hk1
    have HK1:=hide hk1
    clear hk1
    go_wp2
    go_loopw [7] (fun kv wr=>∃k:Nat,kv=.int .i64 (k:Nat)∧k≤i∧Keeps w0 wr) (fun kv _=>match kv with | .int _ j=>((i:Int) - j).toNat | _=>0)
    case atStart=>exact ⟨0,rfl,by omega,HK1.out⟩
    case round =>
     obtain ⟨k,rfl,hki,hKW⟩:=hrel
     have KK:=hide hKW
     by_cases hk:k<i
     ·obtain ⟨d0,d1,d2,deq⟩:=IN.out _ k hKW hk
      obtain ⟨e0,e1,e2,_⟩:=KS.out _ hKW
      have hkk:(k:Int)<(i:Int):=by omega
      have hkm:(k:Int)<(m:Int):=by omega
      have hwk:IntKind.i64.wrap ((k:Int)+1)=(k:Int)+1:=by rw [IntWalk.i64_in _ (by omega)]
      have FINK:Hid (∀W,Keeps wr W→(∃k':Nat,Value.int .i64 ((k:Int)+1)=.int .i64 (k':Nat)∧k'≤i∧Keeps w0 W)∧((i:Int) - ((k:Int)+1)).toNat<((i:Int) - (k:Int)).toNat):=fun W hW=>⟨⟨k+1,by simp,by omega,KK.out.trans hW⟩,by omega⟩
      have KD:=hide ((Fr.refl (fun _=>False) wr).drew)
      generalize (F k).1=y0 at *
      generalize (F k).2.1=y1 at *
      generalize (F k).2.2.1=y2 at *
      clear hKW KS TM IN FIN hk hki HK1 c0 c1 c2 c3 KK
      go_wp2
      go_region
      all_goals
       go_wp2
       exact FINK.out _ KD.out
     have hkk:¬(k:Int)<(i:Int):=by omega
     clear hKW KS TM IN hk hki HK1 c0 c1 c2 c3
     go_wp2
     exact FIN.out _ KK.out
  have hii:¬(i:Int)<(m:Int):=by omega
  obtain rfl:i=m:=by omega
  have hs:=HC.out.s
  rw [hs]
  clear hi HA HB HC SB hs
  go_wp2
  go_ret
  exact ⟨rfl,KW.out⟩
def RB (r:Ending):Prop:=∃b,r=.returned (.bool b)
theorem rb (b:Bool):RB (.returned (.bool b)):=⟨b,rfl⟩
set_option maxHeartbeats 4000000 in
set_option maxRecDepth 100000 in
theorem p_counted0 {w:World} {ao:Option Addr} {m ca:Nat} {F:Nat→Mt} (hm:m≤4000000) (hA:0<m→∃g,ao=some ⟨g,0,none⟩∧MtAt w g m F) (h1:0<m→1≤(F 0).2.2.2):Calls Tryz.prog 20 #[.slice ao m ca,.slice none 0 0] w fun r w'=>RB r∧Keeps w w':=by
 have HA:=hide hA
 have H1:=hide h1
 clear hA h1
 go_enter Tryz.func20,Tryz.ntmps20
 go_wp2
 go_loopw [5,6] (fun sv iv wr=>sv=.int .i64 0∧iv=.int .i64 0∧Keeps w wr) (fun _ _ _=>0)
 case atStart=>exact ⟨rfl,rfl,Fr.refl _ _⟩
 case round =>
  obtain ⟨rfl,rfl,hK⟩:=hrel
  generalize wr=w0 at *
  have KW:=hide hK
  clear hK
  by_cases hi:0<m
  ·obtain ⟨ga,rfl,hM⟩:=HA.out hi
   have hM2:=hM.keep KW.out
   have hii:(0:Int)<(m:Int):=by omega
   have KS:Hid (∀W,Keeps w0 W→W.cell? ⟨ga,0,none⟩=some (.string (F 0).1)∧W.cell? ⟨ga,1,none⟩=some (.int .i64 (F 0).2.1)∧W.cell? ⟨ga,2,none⟩=some (.int .i64 (F 0).2.2.1)∧W.cell? ⟨ga,3,none⟩=some (.int .i64 (F 0).2.2.2)∧Keeps w0 W):=fun W hW=>by
    obtain ⟨b0,b1,b2,b3⟩:=(hM2.keep hW) 0 hi
    exact ⟨by simpa using b0,by simpa using b1,by simpa using b2,by simpa using b3,hW⟩
   have TM:Hid (∀W,Keeps w0 W→Calls Tryz.prog 23 #[.slice none 0 0,.agg #[.string (F 0).1,.int .i64 (F 0).2.1,.int .i64 (F 0).2.2.1]] W fun r w'=>r=.returned (.int .i64 0)∧Keeps w0 w'):=fun W hW=>by
    refine (p_times (F:=fun i=>mNd (F i)) (by omega) (fun y=>absurd y (by omega)) (mNd (F 0))).mono ?_
    rintro r w' ⟨rfl,k⟩
    exact ⟨rfl,hW.trans k⟩
   have hf1:=H1.out hi
   clear H1
   generalize (F 0).1=f0 at *
   generalize (F 0).2.1=f1 at *
   generalize (F 0).2.2.1=f2 at *
   generalize (F 0).2.2.2=f3 at *
   have hdec:decide (f3<1)=false:=decide_eq_false (by omega)
   have hf3:¬f3=0:=by omega
   clear hf1
   have FK:Hid (∀W,Keeps w0 W→Keeps w W):=fun W hW=>KW.out.trans hW
   clear hM hM2 HA hi KW
   go_wp2
   go_region_held (fun w'=>w'.cell? ⟨ga,0,none⟩=some (.string f0)∧w'.cell? ⟨ga,1,none⟩=some (.int .i64 f1)∧w'.cell? ⟨ga,2,none⟩=some (.int .i64 f2)∧w'.cell? ⟨ga,3,none⟩=some (.int .i64 f3)∧Keeps w0 w') (first | exact KS.out _ ((Fr.refl _ _).drewN 1) | exact KS.out _ (by assumption))
    (first | (go_at_call 23; refine (TM.out _ (by first | assumption | exact ‹_∧_∧_∧_∧Keeps w0 _›.2.2.2.2)).mono ?_; rintro r w1 ⟨rfl,hk1⟩))
   all_goals
    have HK1:=hide hk1
    clear hk1
    go_wp2
    go_ret
    exact ⟨rb false,FK.out _ HK1.out⟩
  have hii:¬(0:Int)<(m:Int):=by omega
  clear hi HA
  go_wp2
  go_ret
  exact ⟨rb true,KW.out⟩
end Go.Proofs.YtcbadebjpogmlaaGreatDoor
