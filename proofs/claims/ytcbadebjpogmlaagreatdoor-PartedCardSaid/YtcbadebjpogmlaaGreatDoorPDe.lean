import Derived.Test.YtcbadebjpogmlaaGreatDoorPCm
import Derived.Deep.RegionHeldLaw
import Derived.Test.YtcbadebjpogmlaaGreatDoorPCu
import Derived.Test.YtcbadebjpogmlaaGreatDoorPCy
import Derived.Test.YtcbadebjpogmlaaGreatDoorPCt
import Derived.Test.YtcbadebjpogmlaaGreatDoorPFb
import Derived.Test.YtcbadebjpogmlaaGreatDoorPAf
import Derived.Test.YtcbadebjpogmlaaGreatDoorPPk
namespace Go.Proofs.YtcbadebjpogmlaaGreatDoor
open Go.RowKit Tr
abbrev Nd:=ByteArray×Int×Int
def ndEq (n m:Nd):Bool:=if n.1.toList=m.1.toList then if n.2.1=m.2.1 then if n.2.2=m.2.2 then true else false else false else false
theorem ndEq_refl (n:Nd):ndEq n n=true:=by simp [ndEq]
theorem stoodN:Tryz.prog.stoodInHeld 42=false:=by kernel_rfl
theorem eqlNode (w:World) (p p':ByteArray) (a b a' b':Int):(binOp .eql 42 (.agg #[.string p,.int .i64 a,.int .i64 b]) (.agg #[.string p',.int .i64 a',.int .i64 b'])).run Tryz.prog w=.ok (.bool (ndEq (p,a,b) (p',a',b'))) w:=by
 have hs:=stoodN
 unfold ndEq
 go_simp
 repeat' split
 all_goals simp_all
def cntF (F:Nat→Nd) (x:Nd):Nat→Nat
 | 0=>0
 | n+1=>cntF F x n+if ndEq (F n) x=true then 1 else 0
theorem cntF_le (F:Nat→Nd) (x:Nd):∀n,cntF F x n≤n
 | 0=>Nat.le_refl _
 | n+1=>by
  have:=cntF_le F x n
  rw [cntF]
  split<;>omega
def NdAt (w:World) (g n:Nat) (F:Nat→Nd):Prop:=∀i,i<n→w.cell? ⟨g,i * 3,none⟩=some (.string (F i).1)∧w.cell? ⟨g,i * 3+1,none⟩=some (.int .i64 (F i).2.1)∧w.cell? ⟨g,i * 3+2,none⟩=some (.int .i64 (F i).2.2)
theorem NdAt.keep {w w':World} {g n:Nat} {F:Nat→Nd} (h:NdAt w g n F) (k:Keeps w w'):NdAt w' g n F:=fun i hi=>by
 obtain ⟨h0,h1,h2⟩:=h i hi
 have hl:g<w.heap.size:=World.block_lt_of_cell? w ⟨g,i * 3,none⟩ h0
 exact ⟨(k.cell (p:=⟨g,_,none⟩) hl id).trans h0,(k.cell (p:=⟨g,_,none⟩) hl id).trans h1,(k.cell (p:=⟨g,_,none⟩) hl id).trans h2⟩
def NdsAt (w:World) (ao:Option Addr) (n:Nat) (F:Nat→Nd):Prop:=0<n→∃g,ao=some ⟨g,0,none⟩∧NdAt w g n F
theorem NdsAt.keep {w w':World} {ao:Option Addr} {n:Nat} {F:Nat→Nd} (h:NdsAt w ao n F) (k:Keeps w w'):NdsAt w' ao n F:=fun hn=>by
 obtain ⟨g,e,hv⟩:=h hn
 exact ⟨g,e,hv.keep k⟩
set_option maxHeartbeats 4000000 in
set_option maxRecDepth 100000 in
theorem p_times {w:World} {ao:Option Addr} {n ca:Nat} {F:Nat→Nd} (hn:n≤4000000000000) (h:NdsAt w ao n F) (x:Nd):Calls Tryz.prog 23 #[.slice ao n ca,.agg #[.string x.1,.int .i64 x.2.1,.int .i64 x.2.2]] w fun r w'=>r=.returned (.int .i64 (cntF F x n:Nat))∧Keeps w w':=by
 obtain ⟨x0,x1,x2⟩:=x
 have H:=hide h
 obtain ⟨W1,hW1⟩:∃W1,W1=w.alloc (.cells #[.string x0,.int .i64 x1,.int .i64 x2] 42):=⟨_,rfl⟩
 obtain ⟨xb,hxb⟩:∃xb,xb=w.heap.size:=⟨_,rfl⟩
 have K1:Hid (Keeps w W1):=by rw [hW1]; exact (Fr.refl _ w).alloc _
 have B1:Hid (Blk W1 xb #[.string x0,.int .i64 x1,.int .i64 x2] 42):=by rw [hW1,hxb]; exact Blk.new w _ _
 have HW1:=hide hW1
 have HXB:=hide hxb
 clear h hW1 hxb
 go_enter Tryz.func23,Tryz.ntmps23
 go_wp2
 rw [← HXB.out,← HW1.out]
 go_loopw [5,6] (fun kv iv wr=>∃i:Nat,kv=.int .i64 (cntF F (x0,x1,x2) i:Nat)∧iv=.int .i64 (i:Nat)∧i≤n∧Keeps W1 wr) (fun _ iv _=>match iv with | .int _ m=>((n:Int) - m).toNat | _=>0)
 case atStart=>exact ⟨0,rfl,rfl,by omega,Fr.refl _ _⟩
 case round =>
  obtain ⟨i,rfl,rfl,hin,hK⟩:=hrel
  have KW:=hide hK
  have hle:=cntF_le F (x0,x1,x2) i
  by_cases hi:i<n
  ·obtain ⟨ga,rfl,hA⟩:=H.out (by omega)
   obtain ⟨a0,a1,a2⟩:=(hA.keep (K1.out.trans KW.out)) i hi
   have bx:=B1.out.fr hK id
   have b0:wr.cell? ⟨xb,0,none⟩=some (.string x0):=bx.cell 0
   have b1:wr.cell? ⟨xb,1,none⟩=some (.int .i64 x1):=bx.cell 1
   have b2:wr.cell? ⟨xb,2,none⟩=some (.int .i64 x2):=bx.cell 2
   have hii:(i:Int)<(n:Int):=by omega
   have hwi:IntKind.i64.wrap ((i:Int)+1)=(i:Int)+1:=by rw [IntWalk.i64_in _ (by omega)]
   have FIN:Hid (∀W,Keeps wr W→(∃i':Nat,Value.int .i64 ((cntF F (x0,x1,x2) i:Int)+(if ndEq (F i) (x0,x1,x2)=true then 1 else 0))=.int .i64 (cntF F (x0,x1,x2) i':Nat)∧Value.int .i64 ((i:Int)+1)=.int .i64 (i':Nat)∧i'≤n∧Keeps W1 W)∧((n:Int) - ((i:Int)+1)).toNat<((n:Int) - (i:Int)).toNat):=fun W hW=>⟨⟨i+1,by rw [cntF]; split<;>simp,by simp,by omega,KW.out.trans hW⟩,by omega⟩
   generalize cntF F (x0,x1,x2) i=cc at *
   have hwc:IntKind.i64.wrap ((cc:Int)+1)=(cc:Int)+1:=by rw [IntWalk.i64_in _ (by omega)]
   have KD:=hide ((Fr.refl (fun _=>False) wr).drew)
   have EQ:Hid (∀v:World,(binOp .eql 42 (.agg #[.string (F i).1,.int .i64 (F i).2.1,.int .i64 (F i).2.2]) (.agg #[.string x0,.int .i64 x1,.int .i64 x2])).run Tryz.prog v=.ok (.bool (ndEq (F i) (x0,x1,x2))) v):=fun v=>eqlNode v _ _ _ _ _ _
   have eqq:=EQ.out
   generalize (F i).1=f0 at *
   generalize (F i).2.1=f1 at *
   generalize (F i).2.2=f2 at *
   cases hq:ndEq (F i) (x0,x1,x2)
   all_goals
    rw [hq] at eqq FIN
    clear hA H KW hin hK EQ bx hq hle
    simp only [if_true,if_false,Bool.false_eq_true,Int.add_zero] at FIN
    go_wp2
    go_region
    all_goals
     go_wp2
     exact FIN.out _ KD.out
  have hii:¬(i:Int)<(n:Int):=by omega
  obtain rfl:i=n:=by omega
  have KF:=hide (K1.out.trans KW.out)
  clear hi H hK
  go_wp2
  go_ret
  exact ⟨rfl,KF.out⟩
end Go.Proofs.YtcbadebjpogmlaaGreatDoor
namespace Go.Proofs.YtcbadebjpogmlaaGreatDoor
open Go.RowKit Tr
def RB (r:Ending):Prop:=∃b,r=.returned (.bool b)
theorem rb (b:Bool):RB (.returned (.bool b)):=⟨b,rfl⟩
end Go.Proofs.YtcbadebjpogmlaaGreatDoor
namespace Go.Proofs.YtcbadebjpogmlaaGreatDoor
open Go.RowKit Tr Go.Conc
theorem nd_get:∀(l:List Tv) (k i:Nat) (h:k<l.length),i<3→(l.flatMap ndCells)[k * 3+i]?=(ndCells l[k])[i]?
 | [],_,_,h,_=>absurd h (by simp)
 | a::l,0,i,_,hi=>by
  rw [List.flatMap_cons,Nat.zero_mul,Nat.zero_add,List.getElem?_append_left (by simpa [ndCells] using hi)]
  rfl
 | a::l,k+1,i,h,hi=>by
  have e:(ndCells a).length=3:=rfl
  rw [List.flatMap_cons,List.getElem?_append_right (by rw [e]; omega),e,show (k+1) * 3+i - 3=k * 3+i by omega]
  exact nd_get l k i (by simpa using h) hi
def ndOf (v:Tv):Nd:=(bsb v.d.path,((v.d.frm:Nat):Int),((v.d.to:Nat):Int))
def nG (l:List Tv) (i:Nat):Nd:=match l[i]? with
 | some v=>ndOf v
 | none=>(⟨#[]⟩,0,0)
theorem nG_at {l:List Tv} {i:Nat} (h:i<l.length):nG l i=ndOf l[i]:=by unfold nG; rw [List.getElem?_eq_getElem h]
theorem nds_at {w:World} {sv:Value} {l:List Tv} (h:w.ownsRow 0 42 3 sv l.length (l.flatMap ndCells)):∃ao c,sv=.slice ao l.length c∧NdsAt w ao l.length (nG l):=by
 obtain ⟨ao,c,rfl⟩:=own_slice h
 refine ⟨ao,c,rfl,fun hp=>?_⟩
 obtain ⟨g,c',e,_,_⟩:=h.form hp
 injection e with e1 _ _
 subst e1
 refine ⟨g,rfl,fun i hi=>?_⟩
 have G:∀j,j<3→w.cell? ⟨g,i * 3+j,none⟩=(ndCells l[i])[j]?:=fun j hj=>by rw [h.cellAt _ (by omega),nd_get l i j hi hj]
 rw [nG_at hi]
 exact ⟨G 0 (by omega),G 1 (by omega),G 2 (by omega)⟩
end Go.Proofs.YtcbadebjpogmlaaGreatDoor
namespace Go.Proofs.YtcbadebjpogmlaaGreatDoor
open Go.RowKit Tr Go.Conc
def hqD:ByteArray:=⟨#[36]⟩
def hqE:ByteArray:=⟨#[36,46,46,42]⟩
theorem finD:FinP (bs hqD)∧C (bs hqD) (hqD.size+1)≤10:=by unfold FinP; decide +kernel
theorem finE:FinP (bs hqE)∧C (bs hqE) (hqE.size+1)≤10:=by unfold FinP; decide +kernel
theorem shpD:pQuery (bs hqD)=[]:=shp_nil (by decide +kernel)
theorem shpE:shp (pQuery (bs hqE))=[(true,[1])]:=by decide +kernel
theorem cntF_pos {F:Nat→Nd} {x:Nd} {j:Nat} (h:ndEq (F j) x=true):∀n,j<n→1≤cntF F x n
 | 0,hj=>absurd hj (by omega)
 | n+1,hj=>by
  rw [cntF]
  by_cases e:j=n
  ·rw [← e,if_pos h]; omega
  have:=cntF_pos h n (by omega); omega
theorem nd_len:∀(l:List Tv),(l.flatMap ndCells).length=l.length * 3
 | []=>rfl
 | a::l=>by
  rw [List.flatMap_cons,List.length_append,nd_len l,List.length_cons]
  show 3+_=_
  omega
theorem nd_one (l:List Tv):∀u ∈ l.flatMap ndCells,u.oneCell'=true:=fun u hu=>by
 obtain ⟨p,_,h⟩:=List.mem_flatMap.1 hu
 simp only [ndCells,List.mem_cons,List.not_mem_nil,or_false] at h
 rcases h with rfl | rfl | rfl<;>rfl
theorem root_nd {T:Tv} {n:Nat} (h:T.d.frm=0∧T.d.to=n∧T.d.path=[36]):ndOf T=(⟨#[36]⟩,0,(n:Int)):=by
 unfold ndOf
 rw [h.1,h.2.1,h.2.2]
 rfl
structure PlN (ts:ByteArray) (M:List Tv) (x:Nd) (frm to:Nat):Prop where
 f:x.2.1=(frm:Int)
 t:x.2.2=(to:Int)
 lt:frm<to
 le:to≤ts.size
 c:1≤cntF (nG M) x M.length
 e:txErr (bs (ts.extract frm to))=0
 r:∀u,txVal (bs (ts.extract frm to))=some u→ndOf u=(⟨#[36]⟩,0,((to - frm:Nat):Int))
theorem placed_at {xs ys:List Sg} (hy:shp ys=[(true,[1])]) {ts:ByteArray} (hl:ts.size≤4000000) (h0:txErr (bs ts)=0) {T:Tv} (ht:txVal (bs ts)=some T) {i:Nat} (hi:i<(nodesS xs [T]).length):∃frm to,PlN ts (nodesS ys [T]++[T]) (nG (nodesS xs [T]) i) frm to:=by
 have hl':(bs ts).length≤4000000:=by rw [bs_len]; exact hl
 obtain ⟨hT,_⟩:=tx_tree hl' h0 ht
 have hv:=nodes_sub hT xs [T] (fun u hu=>by rw [List.mem_singleton.1 hu]; exact self_mem hT.d) _ (List.getElem_mem hi)
 have O:=tx_own hl' h0 ht _ hv
 rw [nG_at hi]
 generalize (nodesS xs [T])[i]=v at *
 have hle:=O.le
 rw [bs_len] at hle
 have e:bs (ts.extract v.d.frm v.d.to)=((bs ts).take v.d.to).drop v.d.frm:=by
  rw [bs_extract]
  unfold sub
  rw [List.drop_take]
 refine ⟨v.d.frm,v.d.to,rfl,rfl,O.lt,hle,?_,by rw [e]; exact O.o.e,fun u hu=>?_⟩
 ·obtain ⟨j,hj,ej⟩:=List.getElem_of_mem (every_mem hy hv)
  refine cntF_pos (j:=j) ?_ _ hj
  rw [nG_at hj,ej]
  exact ndEq_refl _
 rw [e] at hu
 obtain ⟨u',h1,h2,h3,h4⟩:=O.o.v
 rw [hu] at h1
 rw [Option.some.inj h1]
 refine root_nd ⟨h2,?_,h4⟩
 rw [h3,List.length_drop,List.length_take,bs_len]
 omega
set_option maxHeartbeats 8000000 in
set_option maxRecDepth 100000 in
theorem p_placed {w:World} (he:EN w) {q wd:Value} (hq:IntsAt w q) (hw:IntsAt w wd):Calls Tryz.prog 8 #[q,wd] w fun r w'=>r=.returned (.bool true)∧Keeps w w':=by
 have HE:=hide he
 have HQ:=hide hq
 have HW:=hide hw
 clear he hq hw
 go_enter Tryz.func8,Tryz.ntmps8
 go_wp2_with fail
 refine (p_query HQ.out).mono ?_
 rintro r w1 ⟨⟨qs,rfl,z1,z2,z3⟩,k1⟩
 have PC:=hide (p_compiled (HE.out.keep k1) z1 z2 z3)
 have K1:=hide k1
 clear k1 z1 z2 z3 HQ
 go_wp2_with fail
 refine PC.out.mono ?_
 rintro r w2 ⟨gx,rfl,hQ,k2⟩
 generalize pQuery (bs qs)=xs at *
 have X2:=hide hQ
 have K2:=hide (K1.out.trans k2)
 clear hQ k2 PC K1
 go_wp2_with fail
 refine (p_compiled (s:=hqE) (HE.out.keep K2.out) (by decide) finE.1 finE.2).mono ?_
 rintro r w3 ⟨gy,rfl,hQ,k3⟩
 have SH:=hide shpE
 generalize pQuery (bs hqE)=ys at *
 have Y3:=hide hQ
 have X3:=hide (X2.out.keep k3)
 have K3:=hide (K2.out.trans k3)
 clear hQ k3 K2 X2
 go_wp2_with fail
 refine (p_compiled (s:=hqD) (HE.out.keep K3.out) (by decide) finD.1 finD.2).mono ?_
 rintro r w4 ⟨gz,rfl,hQ,k4⟩
 rw [shpD] at hQ
 have Z4:=hide hQ
 have X4:=hide (X3.out.keep k4)
 have Y4:=hide (Y3.out.keep k4)
 have K4:=hide (K3.out.trans k4)
 clear hQ k4 K3 X3 Y3
 go_wp2_with fail
 refine (p_textF (HW.out.keep K4.out)).mono ?_
 rintro r w5 ⟨⟨ts,rfl,z1,z2,z3⟩,k5⟩
 have Z5:=hide (Z4.out.keep k5)
 have X5:=hide (X4.out.keep k5)
 have Y5:=hide (Y4.out.keep k5)
 have K5:=hide (K4.out.trans k5)
 have T0:=hide z2
 have TF:=hide z3
 clear k5 K4 X4 Y4 Z4 z2 z3 HW
 go_wp2_with fail
 refine (q_select X5.out (HE.out.keep K5.out) ts (by omega)).mono ?_
 rintro r w6 ⟨k6,hS | hS⟩
 ·exact absurd T0.out hS.1
 obtain ⟨_,T,lv,ht,rfl,hR⟩:=hS
 obtain ⟨lo,lc,rfl,hN⟩:=nds_at (own_zero' hR)
 have LN:=hide hN
 have TV:=hide ht
 have PL:Hid (∀i,i<(nodesS xs [T]).length→∃frm to,PlN ts (nodesS ys [T]++[T]) (nG (nodesS xs [T]) i) frm to):=fun i hi=>placed_at SH.out (by omega) T0.out ht hi
 have NL1:(nodesS xs [T]).length≤2100000000000:=by
  obtain ⟨hT,hB⟩:=tx_tree (l:=bs ts) (by rw [bs_len]; omega) T0.out ht
  have:=nodes_len hT (B:=4000000) hB xs X5.out.pos X5.out.sel (Nat.le_refl _)
  rw [List.take_length] at this
  omega
 have NL2:(nodesS ys [T]).length≤2100000000000:=by
  obtain ⟨hT,hB⟩:=tx_tree (l:=bs ts) (by rw [bs_len]; omega) T0.out ht
  have:=nodes_len hT (B:=4000000) hB ys Y5.out.pos Y5.out.sel (Nat.le_refl _)
  rw [List.take_length] at this
  omega
 have RT:=hide (root_nd (fls_fill (by rw [bs_len]; omega) T0.out TF.out ht))
 have Z6:=hide (Z5.out.keep k6)
 have Y6:=hide (Y5.out.keep k6)
 have K6:=hide (K5.out.trans k6)
 generalize nodesS xs [T]=N at *
 clear k6 K5 X5 Y5 Z5 hR hN ht TF
 go_wp2_with fail
 refine (q_select Y6.out (HE.out.keep K6.out) ts (by omega)).mono ?_
 rintro r w7 ⟨k7,hS | hS⟩
 ·exact absurd T0.out hS.1
 obtain ⟨_,T2,mv,ht,rfl,hM⟩:=hS
 obtain rfl:T2=T:=Option.some.inj (ht.symm.trans TV.out)
 have Z7:=hide (Z6.out.keep k7)
 have K7:=hide (K6.out.trans k7)
 have K67:=hide k7
 have MR:=hide hM
 generalize nodesS ys [T2]=M at *
 clear k7 Y6 hM ht
 go_wp2_with fail
 refine (q_select Z7.out (HE.out.keep K7.out) ts (by omega)).mono ?_
 rintro r w8 ⟨k8,hS | hS⟩
 ·exact absurd T0.out hS.1
 obtain ⟨_,T3,ov,ht,rfl,hO⟩:=hS
 obtain rfl:T3=T2:=Option.some.inj (ht.symm.trans TV.out)
 have hO:w8.ownsRow w7.heap.size 42 3 ov [T3].length ([T3].flatMap ndCells):=hO
 obtain ⟨oo,oc,rfl,hA⟩:=nds_at (own_zero' hO)
 obtain ⟨go,rfl,hB⟩:=hA (by simp)
 have hA0:=hB 0 (by simp)
 rw [nG_at (l:=[T3]) (show 0<1 by omega)] at hA0
 have hA1:w8.cell? ⟨go,0,none⟩=some (.string (ndOf T3).1)∧w8.cell? ⟨go,1,none⟩=some (.int .i64 (ndOf T3).2.1)∧w8.cell? ⟨go,2,none⟩=some (.int .i64 (ndOf T3).2.2):=by simpa using hA0
 rw [RT.out,bs_len] at hA1
 have hA2:w8.cell? ⟨go,0,none⟩=some (.string ⟨#[36]⟩)∧w8.cell? ⟨go,1,none⟩=some (.int .i64 0)∧w8.cell? ⟨go,2,none⟩=some (.int .i64 (ts.size:Nat)):=hA1
 obtain ⟨c0,c1,c2⟩:=hA2
 have MR8:=hide (own_at' MR.out (fun k hk=>k8.block k (MR.out.lt k hk).2 id))
 have K68:=hide (K67.out.trans k8)
 have NEWS:Hid (∀(j:Nat) (u:Value),([T3].flatMap ndCells)[j]?=some u→w8.cell? ((⟨go,0,none⟩:Addr).add j)=some u):=fun j u hj=>by
  have hadd:(⟨go,0,none⟩:Addr).add j=⟨go,j,none⟩:=by unfold Addr.add; split<;>simp_all
  have hjl:=(List.getElem?_eq_some_iff.1 hj).1
  rw [nd_len] at hjl
  rw [hadd,hO.cellAt j hjl]; exact hj
 have LEN:Hid (([T3].flatMap ndCells).length=1 * 3):=nd_len [T3]
 have hb1:M.length+1≤maxLen:=by unfold maxLen; omega
 have hb2:(M.length+1) * 32≤140737488355328:=by omega
 have ONE:=hide (nd_one [T3])
 have GR:Hid (∀g cap w9,w9.ownsRow w6.heap.size 42 3 (.slice (some ⟨g,0,none⟩) (M.length+1) cap) (M.length+1) (M.flatMap ndCells++[T3].flatMap ndCells)→w8.grownBy w9 mv.ownBlock→Keeps w6 w9∧NdsAt w9 (some ⟨g,0,none⟩) (M.length+1) (nG (M++[T3]))):=fun g cap w9 o1 o2=>by
  have hz:=K68.out.size
  refine ⟨⟨o2.os.trans K68.out.os,o2.tape.trans K68.out.tape,o2.output.trans K68.out.output,Nat.le_trans hz o2.size,fun k hk _=>?_⟩,?_⟩
  ·rw [o2.block k (by omega) (fun e=>by have:=(MR.out.lt k e.symm).1; omega)]
   exact K68.out.block k hk id
  have o3:w9.ownsRow w6.heap.size 42 3 (.slice (some ⟨g,0,none⟩) (M.length+1) cap) (M++[T3]).length ((M++[T3]).flatMap ndCells):=by
   rw [List.flatMap_append,List.length_append]; exact o1
  obtain ⟨a,c,e,hn⟩:=nds_at (own_zero' o3)
  injection e with e1 e2 _
  subst e1
  rw [List.length_append] at hn
  exact hn
 have hz6:w6.heap.size≤w8.heap.size:=K68.out.size
 obtain ⟨i0,hii,hz0,hz1,hz2⟩:=info_parts infoNode
 have II:=hide hii
 have I0:=hide hz0
 have I1:=hide hz1
 have I2:=hide hz2
 have Q6:=hide Z6.out
 have nqq:∀v:World,(binOp .neq 42 (.agg #[.string ⟨#[36]⟩,.int .i64 0,.int .i64 (ts.size:Nat)]) (.agg #[.string ⟨#[36]⟩,.int .i64 0,.int .i64 (ts.size:Nat)])).run Tryz.prog v=.ok (.bool false) v:=fun v=>neqNode v _ _ _
 clear k8 K67 Z7 K7 hO hA hB hA0 hA1 ht hii hz0 hz1 hz2 Z6 MR K68 RT TV
 go_wp2_with (refine wpList_append_lies _ rfl (.tmp 86) (.tmp 87) 29 rfl w6.heap.size 42 i0 _ 3 32 Tryz.underlying29 II.out I0.out I1.out I2.out rfl (by decide) mv _ _ rfl MR8.out ⟨go,0,none⟩ _ _ _ rfl LEN.out NEWS.out ONE.out (by omega) hb1 hb2 hz6 _ rfl ?_; intro g9 cap9 w9 o1 o2 _ _; have F9:=hide (GR.out g9 cap9 w9 o1 o2); clear o1 o2)
 have KK:=hide (K6.out.trans F9.out.1)
 have HE9:=hide (HE.out.keep KK.out)
 have Z9:=hide (Q6.out.keep F9.out.1)
 have L9:=hide (LN.out.keep F9.out.1)
 have M9:=hide F9.out.2
 clear F9 K6 Q6 LN HE GR NEWS ONE LEN MR8 II I0 I1 I2 c0 c1 c2 hO
 go_loopw [18] (fun iv wr=>∃i:Nat,iv=.int .i64 (i:Nat)∧i≤N.length∧Keeps w9 wr) (fun iv _=>match iv with | .int _ j=>((N.length:Int) - j).toNat | _=>0)
 case atStart=>exact ⟨0,rfl,by omega,Fr.refl _ _⟩
 case round =>
  obtain ⟨i,rfl,hin,hK⟩:=hrel
  generalize wr=w0 at *
  have KW:=hide hK
  clear hK
  by_cases hi:i<N.length
  ·obtain ⟨frm,to,P⟩:=PL.out i hi
   obtain ⟨gl,rfl,hL⟩:=L9.out (by omega)
   have hMk:Hid (∀W,Keeps w0 W→W.cell? ⟨gl,i * 3,none⟩=some (.string (nG N i).1)∧W.cell? ⟨gl,i * 3+1,none⟩=some (.int .i64 (frm:Nat))∧W.cell? ⟨gl,i * 3+2,none⟩=some (.int .i64 (to:Nat))):=fun W hW=>by
    have:=(hL.keep (KW.out.trans hW)) i hi
    rw [P.f,P.t] at this
    exact this
   have TM:Hid (Calls Tryz.prog 23 #[.slice (some ⟨g9,0,none⟩) (M.length+1) cap9,.agg #[.string (nG N i).1,.int .i64 (frm:Nat),.int .i64 (to:Nat)]] w0 fun r w'=>∃cn:Nat,1≤cn∧r=.returned (.int .i64 (cn:Nat))∧Keeps w0 w'):=by
    have:=p_times (ca:=cap9) (by omega) (M9.out.keep KW.out) (nG N i)
    rw [P.f,P.t] at this
    refine this.mono ?_
    rintro r w' ⟨rfl,k⟩
    have pc:=P.c
    rw [List.length_append] at pc
    exact ⟨_,pc,rfl,k⟩
   have SL:Hid (∀W,Keeps w0 W→Calls Tryz.prog 18 #[.pointer (some ⟨gz,0,none⟩),.string (ts.extract frm to)] W fun r w'=>∃go oc,r=.returned (.tuple #[.slice (some ⟨go,0,none⟩) 1 oc,.int .i64 0,.int .i64 0])∧w'.cell? ⟨go,0,none⟩=some (.string ⟨#[36]⟩)∧w'.cell? ⟨go,1,none⟩=some (.int .i64 0)∧w'.cell? ⟨go,2,none⟩=some (.int .i64 ((to:Int) - (frm:Int)))∧Keeps w0 w'):=fun W hW=>by
    refine (q_select (Z9.out.keep (KW.out.trans hW)) (HE9.out.keep (KW.out.trans hW)) (ts.extract frm to) (by simp; omega)).mono ?_
    rintro r w' ⟨k,hS | hS⟩
    ·exact absurd P.e hS.1
    obtain ⟨_,U,ov,ht,rfl,hO⟩:=hS
    have hO:w'.ownsRow W.heap.size 42 3 ov [U].length ([U].flatMap ndCells):=hO
    obtain ⟨oo,oc,rfl,hA⟩:=nds_at (own_zero' hO)
    obtain ⟨go,rfl,hB⟩:=hA (by simp)
    have hA0:=hB 0 (by simp)
    rw [nG_at (l:=[U]) (show 0<1 by omega)] at hA0
    have hA1:w'.cell? ⟨go,0,none⟩=some (.string (ndOf U).1)∧w'.cell? ⟨go,1,none⟩=some (.int .i64 (ndOf U).2.1)∧w'.cell? ⟨go,2,none⟩=some (.int .i64 (ndOf U).2.2):=by simpa using hA0
    rw [P.r U ht,show ((to - frm:Nat):Int)=(to:Int) - (frm:Int) by have:=P.lt; omega] at hA1
    exact ⟨go,oc,rfl,hA1.1,hA1.2.1,hA1.2.2,hW.trans k⟩
   have lt:=P.lt
   have le:=P.le
   have FIN:Hid (∀W,Keeps w0 W→(∃i':Nat,Value.int .i64 ((i:Int)+1)=.int .i64 (i':Nat)∧i'≤N.length∧Keeps w9 W)∧((N.length:Int) - ((i:Int)+1)).toNat<((N.length:Int) - (i:Int)).toNat):=fun W hW=>⟨⟨i+1,by simp,by omega,KW.out.trans hW⟩,by omega⟩
   have hii:(i:Int)<(N.length:Int):=by omega
   have hwi:IntKind.i64.wrap ((i:Int)+1)=(i:Int)+1:=by rw [IntWalk.i64_in _ (by omega)]
   obtain ⟨a0,a1,a2⟩:=hMk.out w0 (Fr.refl _ _)
   generalize (nG N i).1=x0 at *
   clear P hL L9 PL KW
   go_wp2_with fail
   refine TM.out.mono ?_
   rintro r w10 ⟨cn,hcn,rfl,k10⟩
   obtain ⟨d0,d1,d2⟩:=hMk.out w10 k10
   have K10:=hide k10
   clear k10 a0 a1 a2 TM
   have q1:decide ((cn:Int)<1)=false:=decide_eq_false (by omega)
   have q2:decide ((frm:Int)<0)=false:=decide_eq_false (by omega)
   have q3:decide ((ts.size:Int)<(to:Int))=false:=decide_eq_false (by omega)
   have q4:decide ((to:Int)≤(frm:Int))=false:=decide_eq_false (by omega)
   go_wp2
   go_quiet (fail)
   go_wp2
   go_quiet (fail)
   have q5:¬(frm:Int)<0:=by omega
   clear d0 d1 d2 q1 q2 q3 q4 hMk
   go_wp2_with fail
   refine (SL.out _ (K10.out.trans ((Fr.refl _ _).drewN _))).mono ?_
   rintro r w11 ⟨go,oc,rfl,c0,c1,c2,k11⟩
   have K11:=hide k11
   clear k11 SL K10
   have hsz:((ts.extract frm to).size:Int)=(to:Int) - (frm:Int):=by simp; omega
   have nq2:∀v:World,(binOp .neq 42 (.agg #[.string ⟨#[36]⟩,.int .i64 0,.int .i64 ((to:Int) - (frm:Int))]) (.agg #[.string ⟨#[36]⟩,.int .i64 0,.int .i64 ((to:Int) - (frm:Int))])).run Tryz.prog v=.ok (.bool false) v:=fun v=>neqNode v _ _ _
   go_wp2
   exact FIN.out _ K11.out
  have hii:¬(i:Int)<(N.length:Int):=by omega
  have KF:=hide (KK.out.trans KW.out)
  clear hi PL HE9 Z9 L9 M9
  go_wp2
  go_ret
  exact ⟨rfl,KF.out⟩
end Go.Proofs.YtcbadebjpogmlaaGreatDoor
