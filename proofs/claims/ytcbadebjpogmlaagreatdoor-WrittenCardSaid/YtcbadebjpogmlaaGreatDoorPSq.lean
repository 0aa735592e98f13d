import Derived.Test.YtcbadebjpogmlaaGreatDoorPGa
import Derived.Test.YtcbadebjpogmlaaGreatDoorPSb
namespace Tr
theorem next5 {z:Sn} (hok:SOk z) {b:Nat} (h:(sNext z b).z.st=5):z.st=5∨∃t ∈ (sNext z b).ts,t.k=1∨t.k=3:=by
 have shut:∀z:Sn,∃t ∈ (sShut z).ts,t.k=1∨t.k=3:=fun z=>⟨_,List.mem_singleton.2 rfl,Or.inl rfl⟩
 unfold sNext at h ⊢
 by_cases h6:z.st=6
 ·rw [if_pos h6] at h ⊢
  unfold sStr at h ⊢
  split at h
  ·simp [Sn.to] at h
  rename_i c1
  rw [if_neg c1]
  split at h
  ·simp [Sn.to] at h
  rename_i c2
  rw [if_neg c2]
  split at h
  ·rename_i c3
   rw [if_pos c3]
   unfold sEndS at h ⊢
   split at h
   ·rename_i c4
    rw [if_pos c4]
    exact Or.inr ⟨_,List.mem_singleton.2 rfl,Or.inr c4⟩
   simp at h
  simp [sAdd] at h
 rw [if_neg h6] at h ⊢
 by_cases h7:z.st=7
 ·rw [if_pos h7] at h ⊢
  unfold sEsc at h
  split at h
  ·simp [Sn.to] at h
  simp [sAdd] at h
 rw [if_neg h7] at h ⊢
 by_cases h8:z.st=8∨z.st=9
 ·rw [if_pos h8] at h ⊢
  have hk:=(hok.n h8).2.2.2.2
  unfold sNum at h ⊢
  split at h
  ·simp [Sn.to] at h
  rename_i c1
  rw [if_neg c1]
  split at h
  ·simp [sDig] at h
  rename_i c2
  rw [if_neg c2]
  split at h
  ·simp [Sn.to] at h
  rename_i c3
  rw [if_neg c3]
  exact Or.inr ⟨sNumT z,List.mem_cons_self,Or.inr hk⟩
 rw [if_neg h8] at h ⊢
 by_cases h10:z.st=10
 ·rw [if_pos h10] at h ⊢
  have hk:=(hok.w h10).2.2
  unfold sWord at h ⊢
  split at h
  ·simp [Sn.to] at h
  rename_i c1
  rw [if_neg c1]
  split at h
  ·rename_i c2
   rw [if_pos c2]
   exact Or.inr ⟨_,List.mem_singleton.2 rfl,Or.inr hk⟩
  simp at h
 rw [if_neg h10] at h ⊢
 by_cases hb:isBl b=true
 ·rw [if_pos hb] at h
  exact Or.inl h
 rw [if_neg hb] at h ⊢
 unfold sBetw at h ⊢
 by_cases h5:z.st=5
 ·exact Or.inl h5
 rw [if_neg h5] at h ⊢
 split at h
 ·simp [Sn.to] at h
 rename_i c1
 rw [if_neg c1]
 split at h
 ·rename_i c2
  rw [if_pos c2]
  exact Or.inr (shut z)
 rename_i c2
 split at h
 ·unfold sBegin at h
  repeat' split at h
  ·revert h; unfold sLot; split<;>simp [Sn.to]
  ·revert h; unfold sLot; split<;>simp [Sn.to]
  ·simp [sBStr] at h
  ·simp [sBWord] at h
  ·simp [sBWord] at h
  ·simp [sBWord] at h
  revert h; unfold sBNum; split
  ·simp
  split<;>simp [sDig]
 split at h
 ·simp [sBStr] at h
 simp [Sn.to] at h
theorem gTake_last {g:Gs} {t:Tok} {kp:Bool} (ht:TokOk g.sh t) (h:t.k=1∨t.k=3∨g.last≠none):(gTake g t kp).last≠none:=by
 unfold gTake
 by_cases h0:t.k=0
 ·rw [if_pos h0]; exact h.resolve_left (by omega) |>.resolve_left (by omega)
 rw [if_neg h0]
 by_cases h1:t.k=1
 ·rw [if_pos h1]
  have:=ht.k1 h1
  cases hs:g.st with
  | nil=>simp [Gs.sh,hs] at this
  | cons f r=>simp [gClose]
 rw [if_neg h1]
 by_cases h2:t.k=2
 ·rw [if_pos h2]; exact h.resolve_left (by omega) |>.resolve_left (by omega)
 rw [if_neg h2]
 simp [gClose]
theorem gRun_cons (g:Gs) (t:Tok) (r:List Tok):gRun g (t::r)=gRun (gTake g t true) r:=rfl
theorem gRun_last:∀{ts:List Tok} {g:Gs},OkL g.sh ts→((∃t ∈ ts,t.k=1∨t.k=3)∨g.last≠none)→(gRun g ts).last≠none
 | [],_,_,h=>h.resolve_left (fun ⟨_,x,_⟩=>by cases x)
 | t::r,g,ho,h=>by
  rw [gRun_cons]
  refine gRun_last (by rw [sh_take g t true ho.1]; exact ho.2) ?_
  rcases h with ⟨x,hx,hk⟩ | h
  ·rcases List.mem_cons.1 hx with e | e
   ·subst e; exact Or.inr (gTake_last ho.1 (by omega))
   exact Or.inl ⟨x,e,hk⟩
  exact Or.inr (gTake_last ho.1 (Or.inr (Or.inr h)))
theorem gRun_sh:∀{ts:List Tok} {g:Gs},OkL g.sh ts→(gRun g ts).sh=shRun g.sh ts
 | [],_,_=>rfl
 | t::r,g,ho=>by
  rw [gRun_cons,gRun_sh (by rw [sh_take g t true ho.1]; exact ho.2),sh_take g t true ho.1]; rfl
theorem run5:∀(l:List UInt8) {z:Sn} {g:Gs},SOk z→Lk z g.sh→z.st≤10→z.at'+l.length≤4000000→(z.st=5→g.last≠none)→(sRun z l).e=0→(sRun z l).z.st=5→(gRun g (sRun z l).ts).last≠none
 | [],z,g,_,_,_,_,h5,_,h=>h5 h
 | b::l,z,g,h1,h2,h3,h4,h5,he,h=>by
  have hl:z.at'+(l.length+1)≤4000000:=by simpa using h4
  have S:=stp_next h1 h2 h3 (by omega) b.toNat
  rw [sRun] at he h ⊢
  by_cases c12:(sNext z b.toNat).z.st=12
  ·rw [if_pos c12] at he; cases he
  rw [if_neg c12] at he h ⊢
  by_cases c11:(sNext z b.toNat).z.st=11
  ·rw [if_pos c11] at he; cases he
  rw [if_neg c11] at he h ⊢
  have c10:(sNext z b.toNat).z.st≤10:=by have:=S.st; omega
  have hat:=S.at'
  have o1:=S.ok c10
  have O:SOk { (sNext z b.toNat).z with at':=(sNext z b.toNat).z.at'+1 }:=⟨o1.op,o1.ne,o1.tk,o1.st,o1.w,o1.n,o1.m,o1.x⟩
  simp only at he h ⊢
  rw [gRun_app]
  refine run5 l O (by rw [gRun_sh S.tok]; exact S.lk c10) c10 (by simp only [hat]; omega) (fun e5=>?_) he h
  rcases next5 h1 e5 with x | x
  ·exact gRun_last S.tok (Or.inr (h5 x))
  exact gRun_last S.tok (Or.inl x)
def txErr (l:List UInt8):Nat:=if (sRun sInit l).e≠0 then (sRun sInit l).e else if sWhole (sRun sInit l).z=true then 0 else 2
def txAt (l:List UInt8):Nat:=if (sRun sInit l).e≠0 then (sRun sInit l).z.at' else if sWhole (sRun sInit l).z=true then 0 else l.length
def txTs (l:List UInt8):List Tok:=(sRun sInit l).ts++sEnd (sRun sInit l).z
def txVal (l:List UInt8):Option Tv:=(gRun gInit (txTs l)).last
theorem OkL.one {s:Sh} {t:Tok} (h:TokOk s t):OkL s [t]:=⟨h,trivial⟩
theorem tx_ok {l:List UInt8} (hl:l.length≤4000000) (h:txErr l=0):OkL ⟨[],0⟩ (txTs l)∧(gRun gInit (txTs l)).st=[]∧∃t,txVal l=some t:=by
 have R:=run_ok' l sInit_ok.1 sInit_ok.2 (by simp [sInit]) (by simp [sInit]; omega)
 have he:(sRun sInit l).e=0:=by
  unfold txErr at h
  by_cases x:(sRun sInit l).e≠0
  ·rw [if_pos x] at h; exact h
  simpa using x
 have hw:sWhole (sRun sInit l).z=true:=by
  unfold txErr at h
  rw [if_neg (by simpa using he)] at h
  by_cases x:sWhole (sRun sInit l).z=true
  ·exact x
  rw [if_neg x] at h; cases h
 obtain ⟨r1,r2,r3,r4⟩:=R.ok he
 have hop:(sRun sInit l).z.op=[]:=by simp [sWhole] at hw; exact hw.2
 have h59:(sRun sInit l).z.st=5∨(sRun sInit l).z.st=9:=by simp [sWhole] at hw; exact hw.1
 have hat:(sRun sInit l).z.at'=l.length:=by simpa [sInit] using r3
 have hE:OkL (shRun ⟨[],0⟩ (sRun sInit l).ts) (sEnd (sRun sInit l).z):=by
  unfold sEnd
  split
  ·rename_i h9; exact OkL.one (tokNum r1 r4 (Or.inr h9) (by omega))
  trivial
 have hAll:OkL ⟨[],0⟩ (txTs l):=R.tok.app hE
 have hsh:(gRun gInit (txTs l)).sh=shRun ⟨[],0⟩ (txTs l):=gRun_sh (g:=gInit) hAll
 refine ⟨hAll,?_,?_⟩
 ·have e:(gRun gInit (txTs l)).sh.op=[]:=by
   rw [hsh]
   unfold txTs
   rw [shRun_app]
   unfold sEnd
   split
   ·rename_i h9
    have hk:(sNumT (sRun sInit l).z).k=3:=(r1.n (Or.inr h9)).2.2.2.2
    have:=r4.op
    simp [shRun,shTake,hk] at this ⊢
    rw [hop] at this; exact this
   have:=r4.op; rw [hop] at this; simpa [shRun] using this
  simpa [Gs.sh] using e
 have:(gRun gInit (txTs l)).last≠none:=by
  unfold txTs
  rw [gRun_app]
  have hg:(gRun gInit (sRun sInit l).ts).sh=shRun ⟨[],0⟩ (sRun sInit l).ts:=gRun_sh (g:=gInit) R.tok
  rcases h59 with h5 | h9
  ·have e:sEnd (sRun sInit l).z=[]:=by unfold sEnd; rw [if_neg (by omega)]
   rw [e]
   exact run5 l sInit_ok.1 (g:=gInit) sInit_ok.2 (by simp [sInit]) (by simp [sInit]; omega) (fun x=>by simp [sInit] at x) he h5
  have e:sEnd (sRun sInit l).z=[sNumT (sRun sInit l).z]:=by unfold sEnd; rw [if_pos h9]
  rw [e] at hE ⊢
  exact gRun_last (by rw [hg]; exact hE) (Or.inl ⟨_,List.mem_singleton.2 rfl,Or.inr (r1.n (Or.inr h9)).2.2.2.2⟩)
 cases hv:txVal l with
 | none=>exact absurd hv this
 | some t=>exact ⟨t,rfl⟩
end Tr
namespace Go.Proofs.YtcbadebjpogmlaaGreatDoor
open Go.RowKit Tr
theorem liesBuilderR:liesAt Tryz.prog Tryz.prog.depth 115 (15 / Tryz.prog.cellsOf 115) 9 112 1=true:=by kernel_rfl
set_option maxHeartbeats 1000000 in
set_option maxRecDepth 100000 in
theorem b_copyCheck {w:World} {r:Nat} {cs:Array Value} {p:Value} (h:Blk w r cs 115) (hs:cs.size=15) (hp:cs[9]?=some p) (ho:p=.pointer none∨p=.pointer (some ⟨r,9,none⟩)) :
 Calls Tryz.prog 114 #[.pointer (some ⟨r,9,none⟩)] w fun res w'=>res=.returned (.tuple #[])∧Blk w' r (cs.setIfInBounds 9 (.pointer (some ⟨r,9,none⟩))) 115∧Fr (fun k=>k=r) w w':=by
 obtain ⟨j,hj,hjs⟩:=Option.map_eq_some_iff.1 sizeBuilder
 have hB:=hide h
 have c9:w.cell? ⟨r,9,none⟩=some p:=(h.cell 9).trans hp
 have f9:=h.fz 9
 have hsh:w.shape? r=some (115,15):=by unfold Blk at h; simp [World.shape?,h,hs]
 have HP:=hide hp
 clear h hp
 rcases ho with rfl | rfl
 ·go_enter Tryz.func114,Tryz.ntmps114
  go_wp2
  rw [Lib.run_to_unsafe w ⟨r,9,none⟩ Tryz.underlying109 Tryz.underlying234 hj (by rw [hjs]; decide) hsh (by show 9<15; decide)]
  simp only [Result.andThen]
  rw [Oper.upon_value]
  go_wp2
  rw [run_callFunc_extern Tryz.func158 (by kernel_rfl) (by kernel_rfl) (by kernel_rfl) (e:=Extern.AbiNoEscape.same) (by kernel_rfl)]
  rw [Lib.run_noEscape]
  simp only [Result.andThen]
  rw [Oper.upon_value]
  go_wp2
  rw [Lib.run_from_unsafe w ⟨r,9,none⟩ Tryz.underlying234 Tryz.underlying109 hj hsh liesBuilderR]
  simp only [Result.andThen]
  rw [Oper.upon_value]
  go_wp2
  go_end0
  exact ⟨rfl,hB.out.set 9 _,(Fr.refl (fun k=>k=r) w).setCell ⟨r,9,none⟩ (Or.inl rfl) _⟩
 go_enter Tryz.func114,Tryz.ntmps114
 go_wp2
 rw [Lib.run_neq_ptr_same w _ Tryz.underlying109 hj]
 go_wp2
 go_end0
 refine ⟨rfl,?_,Fr.refl _ _⟩
 have e:cs.setIfInBounds 9 (.pointer (some ⟨r,9,none⟩))=cs:=by
  obtain ⟨hl,he⟩:=Array.getElem?_eq_some_iff.1 HP.out
  rw [Array.setIfInBounds,dif_pos hl,← he,Array.set_getElem_self]
 rw [e]
 exact hB.out
set_option maxHeartbeats 2000000 in
set_option maxRecDepth 100000 in
theorem b_writeByte {w:World} {r:Nat} {cs:Array Value} {p v:Value} {l:List UInt8} (h:Blk w r cs 115) (hs:cs.size=15) (hp:cs[9]?=some p) (hv:cs[10]?=some v) (ho:p=.pointer none∨p=.pointer (some ⟨r,9,none⟩))
 (hr:w.ownsRow (r+1) 5 1 v l.length (Lib.byteCells l)) (hl:l.length≤4000000) (b:Nat) (hb:b<256) :
 Calls Tryz.prog 221 #[.pointer (some ⟨r,9,none⟩),.int .u8 (b:Int)] w fun res w'=>res=.returned .nilIface∧∃v',Blk w' r ((cs.setIfInBounds 9 (.pointer (some ⟨r,9,none⟩))).setIfInBounds 10 v') 115 ∧
  w'.ownsRow (r+1) 5 1 v' (l++[UInt8.ofNat b]).length (Lib.byteCells (l++[UInt8.ofNat b]))∧Fr (fun k=>k=r∨v.ownBlock=some k) w w'∧(v'.ownBlock=v.ownBlock∨∃k,v'.ownBlock=some k∧w.heap.size≤k):=by
 obtain ⟨i0,hi,hz0,hz1,hz2⟩:=info_parts infoByte
 have HI:=hide hi
 have HZ0:=hide hz0
 have HZ1:=hide hz1
 have HZ2:=hide hz2
 have CC:=hide (b_copyCheck h hs hp ho)
 have HR:=hide hr
 have hgl:=h.lt
 have hne:Hid (∀k,v.ownBlock=some k→r+1≤k∧k<w.heap.size):=fun k hk=>hr.lt k hk
 have c10:(cs.setIfInBounds 9 (.pointer (some ⟨r,9,none⟩)))[10]?=some v:=by rw [Array.getElem?_setIfInBounds_ne (by decide)]; exact hv
 have C10:=hide c10
 have HS:=hide hs
 clear hi hz0 hz1 hz2 h hp hv ho hr c10 hs
 obtain ⟨ao0,cp0,rfl⟩:=own_slice HR.out
 obtain ⟨n,hn⟩:∃n,n=l.length:=⟨_,rfl⟩
 rw [← hn] at C10 HR hl
 try rw [← hn]
 try rw [← hn] at hne
 have HN:=hide hn
 clear hn
 go_enter Tryz.func221,Tryz.ntmps221
 go_wp2_with fail
 refine (CC.out).mono ?_
 rintro res w1 ⟨rfl,b1,f1⟩
 have B1:=hide b1
 have F1:=hide f1
 have hs1:w.heap.size≤w1.heap.size:=f1.size
 have d10:w1.cell? ⟨r,10,none⟩=some (.slice ao0 n cp0):=(b1.cell 10).trans C10.out
 have R1:w1.ownsRow (r+1) 5 1 (.slice ao0 n cp0) n (Lib.byteCells l):=own_fr HR.out f1 (fun k hk e=>by omega)
 clear b1 f1 CC
 go_wp2_with (at_builtin; refine wpList_append_own_at _ rfl _ _ 110 rfl (r+1) 5 i0 (.int .u8 0) 1 1 Tryz.underlying110 HI.out HZ0.out HZ1.out HZ2.out rfl (by decide) _ _ _ rfl (R1.alloc _) ⟨w1.heap.size,0,none⟩ 1 1 [.int .u8 (b:Int)] rfl rfl ?c1 ?c2 ?c3 ?c4 ?c5 ?_)
 case c1 =>
  intro j u hj
  match j,hj with
  | 0,hj=>simp at hj; subst hj; simp [Addr.add]
 case c2=>intro u hu; simp at hu; subst hu; rfl
 case c3=>unfold maxLen; omega
 case c4=>omega
 case c5=>simp; omega
 intro v' w2 hown' hgrow _ hvb
 have hg1:r<(w1.alloc (.cells #[.int .u8 (b:Int)] 5)).heap.size:=by simp; omega
 have B2:Hid (Blk w2 r (cs.setIfInBounds 9 (.pointer (some ⟨r,9,none⟩))) 115):=(hgrow.block r hg1 (fun e=>by have:=hne.out r e.symm; omega)).trans (B1.out.alloc _)
 have c3':w2.cell? ⟨r,10,none⟩=some (.slice ao0 n cp0):=(B2.out.cell 10).trans C10.out
 have f3:=B2.out.fz 10
 have F2:Hid (Fr (fun k=>k=r∨(.slice ao0 n cp0:Value).ownBlock=some k) w w2):=((F1.out.mono (fun k _ e=>Or.inl e)).alloc _).grown hgrow (fun k hk=>Or.inr (Or.inr hk))
 obtain ⟨ao,cap,rfl⟩:=own_slice hown'
 have R2:=hide hown'
 have VB:=hide hvb
 clear hown' hgrow d10 R1 hvb
 go_wp2
 go_ret
 refine ⟨rfl,.slice ao (n+1) cap,B2.out.set 10 _,?_,F2.out.setCell ⟨r,10,none⟩ (Or.inl (Or.inl rfl)) _,?_⟩
 ·have e1:(l++[UInt8.ofNat b]).length=n+1:=by simp [HN.out]
  have e2:Lib.byteCells l++[.int .u8 (b:Int)]=Lib.byteCells (l++[UInt8.ofNat b]):=by
   rw [Lib.byteCells_append]
   have:(UInt8.ofNat b).toNat=b:=by simp; omega
   simp [Lib.byteCells,this]
  have R:=R2.out
  rw [e2] at R
  rw [e1]
  exact own_fr R ((Fr.refl (fun k=>k=r) w2).setCell ⟨r,10,none⟩ (Or.inl rfl) _) (fun k hk e=>by omega)
 rcases VB.out with e | e
 ·exact Or.inl e
 exact Or.inr ⟨_,e,by omega⟩
set_option maxHeartbeats 400000 in
theorem b_len {w:World} {r:Nat} {cs:Array Value} {ao:Option Addr} {n cp:Nat} (h:Blk w r cs 115) (hv:cs[10]?=some (.slice ao n cp)) :
 Calls Tryz.prog 220 #[.pointer (some ⟨r,9,none⟩)] w fun res w'=>res=.returned (.int .i64 (n:Nat))∧w'=w:=by
 have c10:w.cell? ⟨r,10,none⟩=some (.slice ao n cp):=(h.cell 10).trans hv
 clear h hv
 go_enter Tryz.func220,Tryz.ntmps220
 go_wp2
 go_ret
 exact ⟨rfl,rfl⟩
set_option maxHeartbeats 400000 in
theorem b_reset {w:World} {r:Nat} {cs:Array Value} {p v:Value} (h:Blk w r cs 115) (hp:cs[9]?=some p) (hv:cs[10]?=some v) :
 Calls Tryz.prog 219 #[.pointer (some ⟨r,9,none⟩)] w fun res w'=>res=.returned (.tuple #[])∧Blk w' r ((cs.setIfInBounds 9 (.pointer none)).setIfInBounds 10 (.slice none 0 0)) 115∧Fr (fun k=>k=r) w w':=by
 have hB:=hide h
 have c9:w.cell? ⟨r,9,none⟩=some p:=(h.cell 9).trans hp
 have c10:w.cell? ⟨r,10,none⟩=some v:=(h.cell 10).trans hv
 have fz:=h.fz
 clear h hp hv
 go_enter Tryz.func219,Tryz.ntmps219
 go_wp2
 go_end0
 exact ⟨rfl,(hB.out.set 9 _).set 10 _,((Fr.refl (fun k=>k=r) w).setCell ⟨r,9,none⟩ (Or.inl rfl) _).setCell ⟨r,10,none⟩ (Or.inl rfl) _⟩
set_option maxHeartbeats 2000000 in
set_option maxRecDepth 100000 in
theorem b_string {w:World} {r:Nat} {cs:Array Value} {v:Value} {t:List UInt8} (h:Blk w r cs 115) (hv:cs[10]?=some v) (hr:w.ownsRow (r+1) 5 1 v t.length (Lib.byteCells t)) (he:t=[]→v=.slice none 0 0) :
 Calls Tryz.prog 88 #[.pointer (some ⟨r,9,none⟩)] w fun res w'=>res=.returned (.string (bsb t))∧Fr (fun k=>v.ownBlock=some k) w w':=by
 by_cases h0:t=[]
 ·have hv0:=he h0
  subst h0
  subst hv0
  have c3:w.drew.cell? ⟨r,10,none⟩=some (.slice none 0 0):=(h.cell 10).trans hv
  have hSD:(Builtin.unsafeSliceData_ #[110] 209 #[.slice none 0 0]).run Tryz.prog w.drew=.ok (.pointer none) w.drew:=Lib.run_unsafeSliceData_nil _ _ _ _ _
  have hUS:(Builtin.unsafeString_ #[209,3] 9 #[.pointer none,.int .i64 0]).run Tryz.prog w.drew=.ok (.string .empty) w.drew:=Lib.run_unsafeString_none _ _ _ _ _
  have mixed:Tryz.prog.follows Departure.mixedOrders=true:=by kernel_rfl
  clear h hv hr he
  go_enter Tryz.func88,Tryz.ntmps88
  go_wp2
  go_region_o
  all_goals (go_wp2; go_ret; exact ⟨rfl,(Fr.refl _ w).drew⟩)
 have hown:=hr
 have hl0:t.length≠0:=by simpa using h0
 obtain ⟨k,cap,cur,rfl,hbg,hg,hnc,hcm,hcs,htake⟩:∃k cap cur,v=.slice (some ⟨k,0,none⟩) t.length cap∧r+1≤k∧w.heap[k]?=some (.cells cur 5 (0,0))∧t.length≤cap∧cap≤maxLen∧cur.size=cap * 1∧cur.toList.take (t.length * 1)=Lib.byteCells t:=by
  rcases hown.2 with ⟨_,hz⟩ | ⟨k,cap,cur,hv,y⟩
  ·exact absurd hz hl0
  exact ⟨k,cap,cur,hv,y⟩
 have c3:w.drew.cell? ⟨r,10,none⟩=some (.slice (some ⟨k,0,none⟩) t.length cap):=(h.cell 10).trans hv
 have hSD:(Builtin.unsafeSliceData_ #[110] 209 #[.slice (some ⟨k,0,none⟩) t.length cap]).run Tryz.prog w.drew=.ok (.pointer (some ⟨k,0,none⟩)) w.drew :=
  Lib.run_unsafeSliceData_row _ _ _ _ _ _ (by omega)
 have hUS:(Builtin.unsafeString_ #[209,3] 9 #[.pointer (some ⟨k,0,none⟩),.int .i64 t.length]).run Tryz.prog w.drew=.ok (.string ⟨t.toArray⟩) (w.drew.freeze ⟨k,0,none⟩ t.length):=by
  refine Lib.run_unsafeString_row w.drew 209 3 9 5 Tryz.underlying209 cellsByte k cur.size (by have hg':w.drew.heap[k]?=some (.cells cur 5 (0,0)):=hg; simp [World.shape?,hg']) t h0 (by omega) (by unfold maxLen at hcm; omega) ?_
  intro j x hx
  exact hown.cells (g:=k) rfl j (.int .u8 x.toNat) (by simp [Lib.byteCells,hx])
 have hFr:Hid (Fr (fun i=>(Value.slice (some ⟨k,0,none⟩) t.length cap).ownBlock=some i) w (w.drew.freeze ⟨k,0,none⟩ t.length)):=(Fr.refl (fun i=>(Value.slice (some ⟨k,0,none⟩) t.length cap).ownBlock=some i) w).drew.freeze ⟨k,0,none⟩ rfl _
 have mixed:Tryz.prog.follows Departure.mixedOrders=true:=by kernel_rfl
 clear h hown hg htake hcs h0 hr he hv
 go_enter Tryz.func88,Tryz.ntmps88
 go_wp2
 go_region_o
 all_goals (go_wp2; go_ret; exact ⟨rfl,hFr.out⟩)
end Go.Proofs.YtcbadebjpogmlaaGreatDoor
namespace Go.Proofs.YtcbadebjpogmlaaGreatDoor
open Go.RowKit Tr
theorem tkx_add (k:Nat) (l:List UInt8) (b:UInt8):tkx k (l++[b])=if k=3∧9≤(tkx k l).length then tkx k l else tkx k l++[b]:=by
 unfold tkx
 by_cases h:k=3
 ·rw [if_pos h,if_pos h]
  by_cases h9:9≤l.length
  ·have:9≤(l.take 9).length:=by simp; omega
   rw [if_pos ⟨h,this⟩,List.take_append_of_le_length h9]
  have:¬9≤(l.take 9).length:=by simp; omega
  rw [if_neg (fun x=>this x.2),List.take_of_length_le (by simp; omega),List.take_of_length_le (by omega)]
 rw [if_neg h,if_neg h,if_neg (fun x=>h x.1)]
theorem tkx_len (k:Nat) (l:List UInt8):(tkx k l).length≤l.length:=by
 unfold tkx
 split
 ·simp; omega
 exact Nat.le_refl _
set_option maxHeartbeats 2000000 in
set_option maxRecDepth 100000 in
theorem t_addByte {S:World→(Nat→Prop)→List Tok→Prop} {V:List Tok→Tok→Prop} {tell:Value} (hS:Sink tell S V) {w:World} {r s0:Nat} {z:Sn} {ts:List Tok} {E:Nat→Prop} (h:RM S tell r s0 z ts E w) (hk:z.tk.k=2∨z.tk.k=3) (hx:z.tx.length≤4000000) (b:Nat) (hb:b<256) :
 Calls Tryz.prog 175 #[.pointer (some ⟨r,0,none⟩),.int .u8 (b:Int)] w (RP S tell r s0 (sAdd z b) ts E w):=by
 obtain ⟨ov,bp,bv,D,h1,h2,h3,h4⟩:=h.ex
 have c3:w.cell? ⟨r,3,none⟩=some (.int .i64 (z.tk.k:Nat)):=h1.b.cell 3
 have hlx:=tkx_len z.tk.k z.tx
 -- the byte is written
 have WR:(Hid (¬(z.tk.k=3∧9≤(tkx z.tk.k z.tx).length)))→Hid (Calls Tryz.prog 221 #[.pointer (some ⟨r,9,none⟩),.int .u8 (b:Int)] w fun res w'=>res=.returned .nilIface∧∃E',RM S tell r s0 (sAdd z b).z ts E' w'∧Ev E w E' w'):=fun hn=>by
  refine (b_writeByte (l:=tkx z.tk.k z.tx) h1.b rfl rfl rfl h1.p h1.t (by omega) b hb).mono ?_
  rintro res w' ⟨rfl,v',g1,g2,g3,g4⟩
  have kb:∀k,k<w.heap.size→k≠r→bv.ownBlock≠some k→w'.heap[k]?=w.heap[k]?:=fun k hk hn1 hn2=>g3.block k hk (fun x=>x.elim hn1 hn2)
  have ovn:∀k,ov.ownBlock=some k→k≠r∧bv.ownBlock≠some k:=fun k hk=>by
   refine ⟨fun e=>by have:=(h1.o.lt k hk).1; omega,fun e=>?_⟩
   rcases h1.o.2 with ⟨x,_⟩ | ⟨g5,cp5,cu5,x5,_,x6,_⟩
   ·rw [x] at hk; cases hk
   rcases h1.t.2 with ⟨y,_⟩ | ⟨g7,cp7,cu7,y7,_,y8,_⟩
   ·rw [y] at e; cases e
   rw [x5] at hk; rw [y7] at e
   have e1:g5=k:=Option.some.inj hk
   have e2:g7=k:=Option.some.inj e
   subst e1
   subst e2
   rw [x6] at y8
   injection y8 with y8
   injection y8 with _ y9 _
   exact absurd y9 (by decide)
  refine ⟨rfl,fun k=>k=r∨ov.ownBlock=some k∨v'.ownBlock=some k∨D k,⟨ov,.pointer (some ⟨r,9,none⟩),v',D,⟨g1,own_at' h1.o (fun k hk=>kb k (h1.o.lt k hk).2 (ovn k hk).1 (ovn k hk).2),?_,Or.inr rfl,?_⟩,hS.keep h2 (fun k hk=>kb k (hS.lt h2 hk) (h3 k hk).1 (h3 k hk).2.2) g3.size,fun k hk=>?_,fun _=>Iff.rfl⟩,⟨fun k hk=>?_,g3.mono (fun k _ x=>(h4 k).2 (x.elim Or.inl (fun y=>Or.inr (Or.inr (Or.inl y)))))⟩⟩
  ·show World.ownsRow _ _ _ _ _ (tkx z.tk.k (z.tx++[UInt8.ofNat b])).length (Lib.byteCells (tkx z.tk.k (z.tx++[UInt8.ofNat b])))
   rw [tkx_add,if_neg hn.out]
   exact g2
  ·show tkx z.tk.k (z.tx++[UInt8.ofNat b])=[]→_
   rw [tkx_add,if_neg hn.out]
   intro e
   simp at e
  ·refine ⟨(h3 k hk).1,(h3 k hk).2.1,fun e=>?_⟩
   rcases g4 with x | ⟨k2,x,y⟩
   ·rw [x] at e; exact (h3 k hk).2.2 e
   rw [x] at e
   have:k2=k:=Option.some.inj e
   have:=hS.lt h2 hk
   omega
  rcases hk with x | x | x | x
  ·exact Or.inl ((h4 k).2 (Or.inl x))
  ·exact Or.inl ((h4 k).2 (Or.inr (Or.inl x)))
  ·rcases g4 with y | ⟨k2,y,y2⟩
   ·rw [y] at x; exact Or.inl ((h4 k).2 (Or.inr (Or.inr (Or.inl x))))
   rw [y] at x
   have:k2=k:=Option.some.inj x
   exact Or.inr (by omega)
  exact Or.inl ((h4 k).2 (Or.inr (Or.inr (Or.inr x))))
 obtain ⟨ao,cp,hbe⟩:=own_slice h1.t
 have LN:=hide (b_len (w:=w) h1.b (show (rcl s0 z ov bp bv tell)[10]?=some (.slice ao (tkx z.tk.k z.tx).length cp) from congrArg some hbe))
 have fin:∀W:World,W=w→tkx z.tk.k (z.tx++[UInt8.ofNat b])=tkx z.tk.k z.tx→RP S tell r s0 (sAdd z b) ts E w (.returned (.int .i64 6)) W:=fun W hW e=>by
  subst hW
  refine ⟨rfl,E,?_,Ev.refl _ _⟩
  show RM _ _ _ _ _ (ts++[]) _ _
  rw [List.append_nil]
  exact ⟨ov,bp,bv,D,⟨h1.b,h1.o,by show World.ownsRow _ _ _ _ _ (tkx z.tk.k (z.tx++[UInt8.ofNat b])).length (Lib.byteCells (tkx z.tk.k (z.tx++[UInt8.ofNat b]))); rw [e]; exact h1.t,h1.p,by show tkx z.tk.k (z.tx++[UInt8.ofNat b])=[]→_; rw [e]; exact h1.e⟩,h2,h3,h4⟩
 have FIN:=hide fin
 have HA:=hide (tkx_add z.tk.k z.tx (UInt8.ofNat b))
 clear h h1 h2 h3 h4 hS fin
 generalize hL:(tkx z.tk.k z.tx).length=L at *
 rcases hk with hk | hk
 ·rw [hk] at c3
  have W1:=WR (fun x=>by rw [hk] at x; exact absurd x.1 (by decide))
  clear WR hL hbe HA hk FIN
  go_enter Tryz.func175,Tryz.ntmps175
  go_wp2_with fail
  refine (W1.out).mono ?_
  rintro res w1 ⟨rfl,E1,hM,hE⟩
  have M1:=hide hM
  have E1':=hide hE
  clear hM hE
  go_wp2
  go_ret
  exact ⟨rfl,E1,by show RM _ _ _ _ _ (ts++[]) _ _; rw [List.append_nil]; exact M1.out,E1'.out⟩
 rw [hk] at c3
 by_cases h9:9≤L
 ·have e:=HA.out
  rw [if_pos ⟨hk,by omega⟩] at e
  have F1:=hide (FIN.out w rfl e)
  have l9:¬(L:Int)<9:=by omega
  clear WR hL hbe HA hk FIN e
  go_enter Tryz.func175,Tryz.ntmps175
  go_wp2_with fail
  refine (LN.out).mono ?_
  rintro res w1 ⟨rfl,rfl⟩
  go_wp2
  go_ret
  exact F1.out
 have W1:=WR (fun x=>by have:=x.2; omega)
 have l9:(L:Int)<9:=by omega
 clear WR hL hbe HA hk FIN
 go_enter Tryz.func175,Tryz.ntmps175
 go_wp2_with fail
 refine (LN.out).mono ?_
 rintro res w1 ⟨rfl,rfl⟩
 go_wp2_with fail
 refine (W1.out).mono ?_
 rintro res w1 ⟨rfl,E1,hM,hE⟩
 have M1:=hide hM
 have E1':=hide hE
 clear hM hE
 go_wp2
 go_ret
 exact ⟨rfl,E1,by show RM _ _ _ _ _ (ts++[]) _ _; rw [List.append_nil]; exact M1.out,E1'.out⟩
set_option maxHeartbeats 2000000 in
set_option maxRecDepth 100000 in
theorem t_endString {S:World→(Nat→Prop)→List Tok→Prop} {V:List Tok→Tok→Prop} {tell:Value} (hS:Sink tell S V) {w:World} {r s0:Nat} {z:Sn} {ts:List Tok} {E:Nat→Prop} (h:RM S tell r s0 z ts E w) (hk:z.tk.k=2∨z.tk.k=3) (hat:z.at'≤4000000) (hV:VL V ts (sEndS z).ts) :
 Calls Tryz.prog 174 #[.pointer (some ⟨r,0,none⟩)] w (RP S tell r s0 (sEndS z) ts E w):=by
 obtain ⟨ov,bp,bv,D,h1,h2,h3,h4⟩:=h.ex
 obtain ⟨N,first,cp2,htell,hE,hcall⟩:=RM.tell hS
 have ST:=hide (b_string h1.b rfl h1.t h1.e)
 obtain ⟨z1,hz1⟩:∃z1:Sn,z1={ z with st:=4,tk:={ z.tk with t:=z.tx },tx:=[] }:=⟨_,rfl⟩
 have ovn:∀k,ov.ownBlock=some k→k≠r∧bv.ownBlock≠some k:=fun k hk=>by
  refine ⟨fun e=>by have:=(h1.o.lt k hk).1; omega,fun e=>?_⟩
  rcases h1.o.2 with ⟨x,_⟩ | ⟨g5,cp5,cu5,x5,_,x6,_⟩
  ·rw [x] at hk; cases hk
  rcases h1.t.2 with ⟨y,_⟩ | ⟨g7,cp7,cu7,y7,_,y8,_⟩
  ·rw [y] at e; cases e
  rw [x5] at hk; rw [y7] at e
  have e1:g5=k:=Option.some.inj hk
  have e2:g7=k:=Option.some.inj e
  subst e1
  subst e2
  rw [x6] at y8
  injection y8 with y8
  injection y8 with _ y9 _
  exact absurd y9 (by decide)
 have bvn:∀k,bv.ownBlock=some k→k≠r:=fun k hk e=>by have:=(h1.t.lt k hk).1; omega
 have B1:Hid (∀w1,Fr (fun k=>bv.ownBlock=some k) w w1→Blk w1 r (rcl s0 z ov bp bv tell) 115):=fun w1 f1=>h1.b.fr f1 (fun e=>bvn r e rfl)
 have RSET:Hid (∀w1,Blk w1 r ((rcl s0 z ov bp bv tell).setIfInBounds 8 (.string (bsb (tkx z.tk.k z.tx)))) 115→Calls Tryz.prog 219 #[.pointer (some ⟨r,9,none⟩)] w1 fun res w'=>res=.returned (.tuple #[])∧Blk w' r (rcl s0 z1 ov (.pointer none) (.slice none 0 0) tell) 115∧Fr (fun k=>k=r) w1 w'):=fun w1 b1=>by
  refine (b_reset b1 rfl rfl).mono ?_
  rintro res w' ⟨rfl,g1,g2⟩
  exact ⟨rfl,by rw [hz1]; exact g1,g2⟩
 have FIN:Hid (∀w2,Blk w2 r (rcl s0 z1 ov (.pointer none) (.slice none 0 0) tell) 115→Fr (fun k=>k=r∨bv.ownBlock=some k) w w2→∃E',RM S tell r s0 z1 ts E' w2∧Ev E w E' w2):=fun w2 b2 f2=>by
  have kb:∀k,k<w.heap.size→k≠r→bv.ownBlock≠some k→w2.heap[k]?=w.heap[k]?:=fun k hk hn1 hn2=>f2.block k hk (fun x=>x.elim hn1 hn2)
  refine ⟨fun k=>k=r∨ov.ownBlock=some k∨(.slice none 0 0:Value).ownBlock=some k∨D k,⟨ov,.pointer none,.slice none 0 0,D,⟨b2,?_,?_,Or.inl rfl,fun _=>rfl⟩,hS.keep h2 (fun k hk=>kb k (hS.lt h2 hk) (h3 k hk).1 (h3 k hk).2.2) f2.size,fun k hk=>⟨(h3 k hk).1,(h3 k hk).2.1,fun e=>by cases e⟩,fun _=>Iff.rfl⟩,⟨fun k hk=>Or.inl ((h4 k).2 ?_),f2.mono (fun k _ x=>(h4 k).2 (x.elim Or.inl (fun y=>Or.inr (Or.inr (Or.inl y)))))⟩⟩
  ·rw [hz1]; exact own_at' h1.o (fun k hk=>kb k (h1.o.lt k hk).2 (ovn k hk).1 (ovn k hk).2)
  ·rw [hz1]
   have e0:tkx z.tk.k ([]:List UInt8)=[]:=by unfold tkx; split<;>rfl
   show World.ownsRow _ _ _ _ _ (tkx z.tk.k []).length (Lib.byteCells (tkx z.tk.k []))
   rw [e0]
   exact World.ownsRow_nil _ _ _ _
  rcases hk with x | x | x | x
  ·exact Or.inl x
  ·exact Or.inr (Or.inl x)
  ·cases x
  exact Or.inr (Or.inr (Or.inr x))
 have hZ:=hide hz1
 have fz:=h1.b.fz
 have c8:(rcl s0 z ov bp bv tell)[8]?=some (.string (bsb (tkx z.tk.k z.tk.t))):=rfl
 have C8:=hide c8
 have C3:Hid (∀W,Blk W r (rcl s0 z1 ov (.pointer none) (.slice none 0 0) tell) 115→W.cell? ⟨r,3,none⟩=some (.int .i64 (z.tk.k:Nat))):=fun W hW=>by
  have:=hW.cell 3
  rw [hz1] at this
  exact this
 have CC:Hid (∀E W,RM S tell r s0 z1 ts E W→(W.cell? ⟨r,14,none⟩=some tell∧W.cell? ⟨r,3,none⟩=some (.int .i64 (z1.tk.k:Nat))∧W.cell? ⟨r,4,none⟩=some (.int .i64 (z1.tk.of:Nat))∧W.cell? ⟨r,5,none⟩=some (.int .i64 (z1.tk.frm:Nat))∧W.cell? ⟨r,6,none⟩=some (.int .i64 (z1.tk.to:Nat))∧W.cell? ⟨r,7,none⟩=some (.int .i64 z1.tk.n)∧W.cell? ⟨r,8,none⟩=some (.string (bsb (tkx z1.tk.k z1.tk.t))))):=fun E W hW=>by
  obtain ⟨_,_,_,y⟩:=hW.rs
  exact ⟨y.b.cell 14,y.b.cell 3,y.b.cell 4,y.b.cell 5,y.b.cell 6,y.b.cell 7,y.b.cell 8⟩
 have DR:Hid (∀E W n,RM S tell r s0 z1 ts E W→RM S tell r s0 z1 ts E (W.drewN n)):=fun E W n hW=>RM.drewN hS hW n
 have NM:Hid (z.tk.k=2→V ts z1.tk∧sEndS z=⟨z1,[z1.tk]⟩):=fun hk2=>by
  have e:sEndS z=⟨z1,[z1.tk]⟩:=by unfold sEndS; rw [if_neg (by omega),hz1]
  rw [e] at hV
  exact ⟨hV.1,e⟩
 have PL:Hid (z.tk.k=3→∀E W,RM S tell r s0 z1 ts E W→Calls Tryz.prog 180 #[.pointer (some ⟨r,0,none⟩)] W (RP S tell r s0 (sEndS z) ts E W)):=fun hk3 E W hW=>by
  have e:sEndS z=sEndP { z with tk:={ z.tk with t:=z.tx },tx:=[] }:=by unfold sEndS; rw [if_pos hk3]
  rw [e] at hV ⊢
  rw [hz1] at hW
  exact t_endPlain hS (hW.st z.st) hat hV
 have TE:Hid (V ts z1.tk→∀E W,RM S tell r s0 z1 ts E W→Calls Tryz.prog N (first.push (tagg z1.tk)++cp2) W fun res w'=>res=.returned (.tuple #[])∧∃E',RM S tell r s0 z1 (ts++[z1.tk]) E' w'∧Ev E W E' w'):=fun hv E W hW=>hcall _ hW hv
 clear hcall h h1 h2 h3 h4 hV hS ovn bvn hz1 c8
 subst htell
 go_enter Tryz.func174,Tryz.ntmps174
 go_wp2_with fail
 refine (ST.out).mono ?_
 rintro res w1 ⟨rfl,hf1⟩
 have b1:=B1.out w1 hf1
 have d8:w1.cell? ⟨r,8,none⟩=some (.string (bsb (tkx z.tk.k z.tk.t))):=(b1.cell 8).trans C8.out
 have fz1:=b1.fz
 have BB:=hide b1
 have F1:=hide hf1
 clear b1 hf1 ST B1 fz
 go_wp2_with fail
 refine (RSET.out _ (BB.out.set 8 _)).mono ?_
 rintro res w2 ⟨rfl,g1,g2⟩
 have f2:Fr (fun k=>k=r∨bv.ownBlock=some k) w w2:=((F1.out.mono (L:=fun k=>k=r∨bv.ownBlock=some k) (fun _ _ x=>Or.inr x)).setCell ⟨r,8,none⟩ (Or.inl (Or.inl rfl)) _).trans (g2.mono (fun _ _ x=>Or.inl x))
 obtain ⟨E2,hM2,hE2⟩:=FIN.out w2 g1 f2
 have M2:=hide hM2
 have EV2:=hide hE2
 have d3:=C3.out w2 g1
 clear g1 g2 f2 hM2 hE2 FIN RSET F1 BB d8 fz1 C3
 rcases hk with hk | hk
 ·rw [hk] at d3
  obtain ⟨hv,he⟩:=NM.out hk
  have HE:=hide he
  have HV:=hide hv
  clear NM PL he hv
  go_wp2_with fail
  clear d3 hk
  obtain ⟨e14,e3,e4,e5,e6,e7,e8⟩:=CC.out _ _ M2.out
  clear CC
  unfold tagg at TE
  go_region_with (refine (TE.out HV.out _ _ (DR.out _ _ 1 M2.out)).mono ?_; rintro res w3 ⟨rfl,E3,hM3,hE3⟩; have M3:=hide hM3; have EV3:=hide hE3; clear hM3 hE3)
  all_goals
   go_wp2
   go_ret
   rw [HE.out]
   refine ⟨by show _=Ending.returned (.int .i64 (z1.st:Nat)); rw [hZ.out]; rfl,E3,M3.out,(EV2.out.drewN 1).trans EV3.out⟩
 rw [hk] at d3
 have P1:=hide (PL.out hk E2 w2 M2.out)
 clear NM PL CC TE hk
 go_wp2_with fail
 refine (P1.out).mono ?_
 rintro res w3 ⟨rfl,E3,hM3,hE3⟩
 have M3:=hide hM3
 have EV3:=hide hE3
 clear hM3 hE3
 go_wp2
 go_ret
 exact ⟨rfl,E3,M3.out,EV2.out.trans EV3.out⟩
end Go.Proofs.YtcbadebjpogmlaaGreatDoor
namespace Go.Proofs.YtcbadebjpogmlaaGreatDoor
open Go.RowKit Tr
set_option maxHeartbeats 2000000 in
set_option maxRecDepth 100000 in
theorem t_stringByte {S:World→(Nat→Prop)→List Tok→Prop} {V:List Tok→Tok→Prop} {tell:Value} (hS:Sink tell S V) {w:World} {r s0:Nat} {z:Sn} {ts:List Tok} {E:Nat→Prop} (h:RM S tell r s0 z ts E w) (hk:z.tk.k=2∨z.tk.k=3) (hx:z.tx.length≤4000000) (hat:z.at'≤4000000) (b:Nat) (hb:b<256) (hV:VL V ts (sStr z b).ts) :
 Calls Tryz.prog 134 #[.pointer (some ⟨r,0,none⟩),.int .u8 (b:Int)] w (RP S tell r s0 (sStr z b) ts E w):=by
 have KO:=hide (fun w=>t_kindOf (w:=w) b hb)
 have H:=hide h
 rcases kindT_cases b with ⟨c,k⟩ | ⟨c,c',k⟩ | ⟨c,k⟩ | ⟨c,k⟩ | ⟨c,c',k⟩ | ⟨c,k⟩ | ⟨c,k⟩ | ⟨c,c',c2,c3,c4,k⟩
 ·have e:sStr z b=z.to 12:=by unfold sStr; rw [if_pos (by omega)]
  rw [e]
  rw [k] at KO
  clear hV e k h hS c
  go_enter Tryz.func134,Tryz.ntmps134
  go_wp2_with fail
  refine (KO.out _).mono ?_
  rintro res w1 ⟨rfl,rfl⟩
  go_wp2
  go_ret
  exact H.out.to (Ev.refl _ _) 12
 ·have e:sStr z b=z.to 12:=by unfold sStr; rw [if_pos (by omega)]
  rw [e]
  rw [k] at KO
  clear hV e k h hS c
  go_enter Tryz.func134,Tryz.ntmps134
  go_wp2_with fail
  refine (KO.out _).mono ?_
  rintro res w1 ⟨rfl,rfl⟩
  go_wp2
  go_ret
  exact H.out.to (Ev.refl _ _) 12
 ·have e:sStr z b=sAdd z b:=by unfold sStr; rw [if_neg (by omega),if_neg (by omega),if_neg (by omega)]
  rw [e]
  rw [k] at KO
  have AD:=hide (t_addByte hS h hk hx b hb)
  clear hV e k h hS c
  go_enter Tryz.func134,Tryz.ntmps134
  go_wp2_with fail
  refine (KO.out _).mono ?_
  rintro res w1 ⟨rfl,rfl⟩
  go_wp2_with fail
  refine (AD.out).mono ?_
  rintro res w1 ⟨rfl,E1,hM,hE⟩
  have M1:=hide hM
  have E1':=hide hE
  clear hM hE
  go_wp2
  go_ret
  exact ⟨rfl,E1,M1.out,E1'.out⟩
 ·have e:sStr z b=sAdd z b:=by unfold sStr; rw [if_neg (by omega),if_neg (by omega),if_neg (by omega)]
  rw [e]
  rw [k] at KO
  have AD:=hide (t_addByte hS h hk hx b hb)
  clear hV e k h hS c
  go_enter Tryz.func134,Tryz.ntmps134
  go_wp2_with fail
  refine (KO.out _).mono ?_
  rintro res w1 ⟨rfl,rfl⟩
  go_wp2_with fail
  refine (AD.out).mono ?_
  rintro res w1 ⟨rfl,E1,hM,hE⟩
  have M1:=hide hM
  have E1':=hide hE
  clear hM hE
  go_wp2
  go_ret
  exact ⟨rfl,E1,M1.out,E1'.out⟩
 ·have e:sStr z b=sAdd z b:=by unfold sStr; rw [if_neg (by omega),if_neg (by omega),if_neg (by omega)]
  rw [e]
  rw [k] at KO
  have AD:=hide (t_addByte hS h hk hx b hb)
  clear hV e k h hS c
  go_enter Tryz.func134,Tryz.ntmps134
  go_wp2_with fail
  refine (KO.out _).mono ?_
  rintro res w1 ⟨rfl,rfl⟩
  go_wp2_with fail
  refine (AD.out).mono ?_
  rintro res w1 ⟨rfl,E1,hM,hE⟩
  have M1:=hide hM
  have E1':=hide hE
  clear hM hE
  go_wp2
  go_ret
  exact ⟨rfl,E1,M1.out,E1'.out⟩
 ·have e:sStr z b=sEndS z:=by unfold sStr; rw [if_neg (by omega),if_neg (by omega),if_pos c]
  rw [e] at hV ⊢
  rw [k] at KO
  have ES:=hide (t_endString hS h hk hat hV)
  clear hV e k h hS c
  go_enter Tryz.func134,Tryz.ntmps134
  go_wp2_with fail
  refine (KO.out _).mono ?_
  rintro res w1 ⟨rfl,rfl⟩
  go_wp2_with fail
  refine (ES.out).mono ?_
  rintro res w1 ⟨rfl,E1,hM,hE⟩
  have M1:=hide hM
  have E1':=hide hE
  clear hM hE
  go_wp2
  go_ret
  exact ⟨rfl,E1,M1.out,E1'.out⟩
 ·have e:sStr z b=z.to 7:=by unfold sStr; rw [if_neg (by omega),if_pos c]
  rw [e]
  rw [k] at KO
  clear hV e k h hS c
  go_enter Tryz.func134,Tryz.ntmps134
  go_wp2_with fail
  refine (KO.out _).mono ?_
  rintro res w1 ⟨rfl,rfl⟩
  go_wp2
  go_ret
  exact H.out.to (Ev.refl _ _) 7
 have e:sStr z b=sAdd z b:=by unfold sStr; rw [if_neg (by omega),if_neg (by omega),if_neg (by omega)]
 rw [e]
 rw [k] at KO
 have AD:=hide (t_addByte hS h hk hx b hb)
 clear hV e k h hS c
 go_enter Tryz.func134,Tryz.ntmps134
 go_wp2_with fail
 refine (KO.out _).mono ?_
 rintro res w1 ⟨rfl,rfl⟩
 go_wp2_with fail
 refine (AD.out).mono ?_
 rintro res w1 ⟨rfl,E1,hM,hE⟩
 have M1:=hide hM
 have E1':=hide hE
 clear hM hE
 go_wp2
 go_ret
 exact ⟨rfl,E1,M1.out,E1'.out⟩
set_option maxHeartbeats 2000000 in
set_option maxRecDepth 100000 in
theorem t_escapedByte {S:World→(Nat→Prop)→List Tok→Prop} {V:List Tok→Tok→Prop} {tell:Value} (hS:Sink tell S V) {w:World} {r s0:Nat} {z:Sn} {ts:List Tok} {E:Nat→Prop} (h:RM S tell r s0 z ts E w) (hk:z.tk.k=2∨z.tk.k=3) (hx:z.tx.length≤4000000) (b:Nat) (hb:b<256) :
 Calls Tryz.prog 135 #[.pointer (some ⟨r,0,none⟩),.int .u8 (b:Int)] w (RP S tell r s0 (sEsc z b) ts E w):=by
 have KO:=hide (fun w=>t_kindOf (w:=w) b hb)
 have H:=hide h
 have AD:=hide (t_addByte hS h hk hx b hb)
 by_cases h34:b=34
 ·have e:sEsc z b=sAdd z b:=by unfold sEsc; rw [if_neg (by omega)]
  rw [e]
  have k:kindT b=5:=by rw [h34]; rfl
  rw [k] at KO
  clear e k h hS h34
  go_enter Tryz.func135,Tryz.ntmps135
  go_wp2_with fail
  refine (KO.out _).mono ?_
  rintro res w1 ⟨rfl,rfl⟩
  go_wp2_with fail
  refine (AD.out).mono ?_
  rintro res w1 ⟨rfl,E1,hM,hE⟩
  have M1:=hide hM
  have E1':=hide hE
  clear hM hE
  go_wp2
  go_ret
  exact ⟨rfl,E1,M1.out,E1'.out⟩
 by_cases h92:b=92
 ·have e:sEsc z b=sAdd z b:=by unfold sEsc; rw [if_neg (by omega)]
  rw [e]
  have k:kindT b=6:=by rw [h92]; rfl
  rw [k] at KO
  clear e k h hS h34 h92
  go_enter Tryz.func135,Tryz.ntmps135
  go_wp2_with fail
  refine (KO.out _).mono ?_
  rintro res w1 ⟨rfl,rfl⟩
  go_wp2_with fail
  refine (KO.out _).mono ?_
  rintro res w1 ⟨rfl,rfl⟩
  go_wp2_with fail
  refine (AD.out).mono ?_
  rintro res w1 ⟨rfl,E1,hM,hE⟩
  have M1:=hide hM
  have E1':=hide hE
  clear hM hE
  go_wp2
  go_ret
  exact ⟨rfl,E1,M1.out,E1'.out⟩
 have e:sEsc z b=z.to 12:=by unfold sEsc; rw [if_pos ⟨h34,h92⟩]
 rw [e]
 have k5:kindT b≠5∧kindT b≠6:=by
  rcases kindT_cases b with ⟨c,k⟩ | ⟨c,c',k⟩ | ⟨c,k⟩ | ⟨c,k⟩ | ⟨c,c',k⟩ | ⟨c,k⟩ | ⟨c,k⟩ | ⟨c,c',c2,c3,c4,k⟩<;>rw [k]<;>first | exact ⟨by decide,by decide⟩ | omega
 generalize kindT b=kk at *
 have n5:((kk:Int) != 5)=true:=by rw [bne_iff_ne]; omega
 have n6:((kk:Int) != 6)=true:=by rw [bne_iff_ne]; omega
 clear e h hS h34 h92 AD k5
 go_enter Tryz.func135,Tryz.ntmps135
 go_wp2_with fail
 refine (KO.out _).mono ?_
 rintro res w1 ⟨rfl,rfl⟩
 go_wp2_with fail
 refine (KO.out _).mono ?_
 rintro res w1 ⟨rfl,rfl⟩
 go_wp2
 go_ret
 exact H.out.to (Ev.refl _ _) 12
set_option maxHeartbeats 2000000 in
set_option maxRecDepth 100000 in
theorem t_addDigit {S:World→(Nat→Prop)→List Tok→Prop} {V:List Tok→Tok→Prop} {tell:Value} (hS:Sink tell S V) {w:World} {r s0:Nat} {z:Sn} {ts:List Tok} {E:Nat→Prop} (h:RM S tell r s0 z ts E w) (hn:0≤z.tk.n∧z.tk.n≤1000000000) (hz:z.sz≤9) (b:Nat) (hb:isDig b=true) :
 Calls Tryz.prog 177 #[.pointer (some ⟨r,0,none⟩),.int .u8 (b:Int)] w (RP S tell r s0 (sDig z b) ts E w):=by
 obtain ⟨ov,bp,bv,D,h1,h2,h3,h4⟩:=h.ex
 have c7:w.cell? ⟨r,7,none⟩=some (.int .i64 z.tk.n):=h1.b.cell 7
 have c12:w.cell? ⟨r,12,none⟩=some (.int .i64 (z.sz:Nat)):=h1.b.cell 12
 have fz:=h1.b.fz
 have hbd:48≤b∧b≤57:=by simpa [isDig] using hb
 obtain ⟨v,hv⟩:∃v:Int,v=z.tk.n * 10+((b - 48:Nat):Int):=⟨_,rfl⟩
 have hw1:IntKind.i64.wrap (z.tk.n * 10)=z.tk.n * 10:=IntWalk.i64_in _ (by omega)
 have hw2:IntKind.u8.wrap ((b:Int) - 48)=((b - 48:Nat):Int):=by rw [IntWalk.u8_in _ (by omega)]; omega
 have hw3:IntKind.i64.wrap (z.tk.n * 10+((b - 48:Nat):Int))=v:=by rw [IntWalk.i64_in _ (by omega),hv]
 have hw4:IntKind.i64.wrap ((z.sz:Int)+1)=((z.sz+1:Nat):Int):=by rw [IntWalk.i64_in _ (by omega)]; omega
 have f0:∀(a b c:Value),Fr (fun k=>k=r) w (((w.setCell ⟨r,7,none⟩ a).setCell ⟨r,12,none⟩ b).setCell ⟨r,12,none⟩ c):=fun a b c=>(((Fr.refl (fun k=>k=r) w).setCell ⟨r,7,none⟩ (Or.inl rfl) _).setCell ⟨r,12,none⟩ (Or.inl rfl) _).setCell ⟨r,12,none⟩ (Or.inl rfl) _
 have f1:∀(a b:Value),Fr (fun k=>k=r) w ((w.setCell ⟨r,7,none⟩ a).setCell ⟨r,12,none⟩ b):=fun a b=>((Fr.refl (fun k=>k=r) w).setCell ⟨r,7,none⟩ (Or.inl rfl) _).setCell ⟨r,12,none⟩ (Or.inl rfl) _
 have ets:ts++(sDig z b).ts=ts:=by show ts++[]=ts; simp
 by_cases h0:v=0
 ·have R:=RM.set (z':=(sDig z b).z) (s1:=s0) hS h1 h2 h3 h4 (w':=((w.setCell ⟨r,7,none⟩ (.int .i64 v)).setCell ⟨r,12,none⟩ (.int .i64 ((z.sz+1:Nat):Int))).setCell ⟨r,12,none⟩ (.int .i64 9)) (by
   have:=((h1.b.set 7 (.int .i64 v)).set 12 (.int .i64 ((z.sz+1:Nat):Int))).set 12 (.int .i64 9)
   have e:(sDig z b).z={ z with st:=9,tk:={ z.tk with n:=v },sz:=9 }:=by unfold sDig; simp only; rw [← hv,if_pos h0]
   rw [e]
   exact this) (f0 _ _ _) rfl rfl
  have RR:Hid (RP S tell r s0 (sDig z b) ts E w (.returned (.int .i64 9)) (((w.setCell ⟨r,7,none⟩ (.int .i64 v)).setCell ⟨r,12,none⟩ (.int .i64 ((z.sz+1:Nat):Int))).setCell ⟨r,12,none⟩ (.int .i64 9))):=⟨rfl,E,by rw [ets]; exact R.1,R.2⟩
  clear h h1 h2 h3 h4 hS R f0 f1 ets hv
  subst h0
  go_enter Tryz.func177,Tryz.ntmps177
  go_wp2
  go_ret
  exact RR.out
 have R:=RM.set (z':=(sDig z b).z) (s1:=s0) hS h1 h2 h3 h4 (w':=(w.setCell ⟨r,7,none⟩ (.int .i64 v)).setCell ⟨r,12,none⟩ (.int .i64 ((z.sz+1:Nat):Int))) (by
  have:=(h1.b.set 7 (.int .i64 v)).set 12 (.int .i64 ((z.sz+1:Nat):Int))
  have e:(sDig z b).z={ z with st:=9,tk:={ z.tk with n:=v },sz:=z.sz+1 }:=by unfold sDig; simp only; rw [← hv,if_neg h0]
  rw [e]
  exact this) (f1 _ _) rfl rfl
 have RR:Hid (RP S tell r s0 (sDig z b) ts E w (.returned (.int .i64 9)) ((w.setCell ⟨r,7,none⟩ (.int .i64 v)).setCell ⟨r,12,none⟩ (.int .i64 ((z.sz+1:Nat):Int)))):=⟨rfl,E,by rw [ets]; exact R.1,R.2⟩
 have n0:(v == 0)=false:=by rw [beq_eq_false_iff_ne]; exact h0
 clear h h1 h2 h3 h4 hS R f0 f1 ets hv h0
 go_enter Tryz.func177,Tryz.ntmps177
 go_wp2
 go_ret
 exact RR.out
end Go.Proofs.YtcbadebjpogmlaaGreatDoor
