import Derived.Test.YtcbadebjpogmlaaGreatDoorPVf
import Derived.Test.YtcbadebjpogmlaaGreatDoorPBase
namespace Go.Proofs.YtcbadebjpogmlaaGreatDoor
open Go.RowKit Tr
structure VAt (w:World) (b pb:Nat) (c:Tv) (pk i:Nat) (svp:Value):Prop where
 c:∃svc,Blk w b (pcl c.d (.pointer (some ⟨pb,0,none⟩)) i svc) 130
 p:∃dp par ixp,Blk w pb (pcl dp par ixp svp) 130∧DOk dp∧dp.kind=pk
 i:i≤4000000
def TakV (w:World) (f:Value) (x:Sel):Prop:=∃N cap,f=.func (.func N) #[] cap∧(∀args w,(callFunc N args).run Tryz.prog w=.ok (.enter N args) w)∧∀(b pb:Nat) (c:Tv) (pk i L:Nat) (svp:Value),VAt w b pb c pk i svp →
 (x.late=true→(∃ao cp,svp=.slice ao L cp)∧L≤4000000∧∃A D n par ix,PT w A D n par ix c∧A c.d.frm=b) →
 ∀q,Calls Tryz.prog N (#[.pointer (some ⟨b,0,none⟩)]++cap) (w.drewN q) fun r w'=>r=.returned (.bool (takes1 x pk L i c))∧∃k,w'=w.drewN k
structure SelC (w:World) (b:Nat) (k:Int) (nm:ByteArray) (fr to:Int) (met:Value):Prop where
 b:Blk w b #[.int .i64 k,.string nm,.int .i64 fr,.int .i64 to,met] 239
set_option maxHeartbeats 1000000 in
set_option maxRecDepth 100000 in
theorem vt_every (w:World) (x:Sel) (hx:x.sort=1):TakV w (.func (.func 209) #[] #[]) x:=by
 refine ⟨_,_,rfl,fun _ _=>rfl,fun b pb c pk i L svp hv _ q=>?_⟩
 have e:takes1 x pk L i c=true:=by simp [takes1,hx]
 rw [e]
 show Calls Tryz.prog 209 #[.pointer (some ⟨b,0,none⟩)] _ _
 go_enter Tryz.func209,Tryz.ntmps209
 go_wp2
 go_ret
 exact ⟨rfl,q,rfl⟩
set_option maxHeartbeats 1000000 in
set_option maxRecDepth 100000 in
theorem vt_named {w:World} {bb:Nat} {k:Int} {nm:ByteArray} {fr to:Int} {met:Value} (h:SelC w bb k nm fr to met) (x:Sel) (hx:x.sort=2) (hn:x.name=bs nm):TakV w (.func (.func 205) #[] #[.pointer (some ⟨bb,0,none⟩)]) x:=by
 refine ⟨_,_,rfl,fun _ _=>rfl,fun b pb c pk i L svp hv _ q=>?_⟩
 obtain ⟨⟨svc,hc⟩,⟨dp,par,ixp,hp,hd,rfl⟩,_⟩:=hv
 have e:takes1 x dp.kind L i c=(dp.kind == 5 && c.d.name == bs nm):=by simp [takes1,hx,hn]
 rw [e]
 have c1:w.cell? ⟨bb,1,none⟩=some (.string nm):=h.b.cell 1
 have c5:w.cell? ⟨b,5,none⟩=some (.pointer (some ⟨pb,0,none⟩)):=hc.cell 5
 have c7:w.cell? ⟨b,7,none⟩=some (.string (bsb c.d.name)):=hc.cell 7
 have p0:w.cell? ⟨pb,0,none⟩=some (.int .i64 (pkd dp:Nat)):=hp.cell 0
 have hk:=(pkd5 hd).1
 have hs:Hid (((bsb c.d.name).toList == nm.toList)=(c.d.name == bs nm)):=by
  show _=_
  by_cases y:c.d.name=bs nm
  ·rw [beqS' (by rw [bs_bsb]; exact y),y]; simp
  rw [beqS (by rw [bs_bsb]; exact y)]; simp [y]
 clear h hc hp hd e hn hx
 generalize (c.d.name == bs nm)=bq at *
 generalize dp.kind=kk at *
 generalize pkd dp=pp at *
 show Calls Tryz.prog 205 #[.pointer (some ⟨b,0,none⟩),.pointer (some ⟨bb,0,none⟩)] _ _
 by_cases h6:pp=6
 ·have h5:kk=5:=hk.1 h6
  subst h6 h5
  have hs':=hs.out
  clear hk hs
  go_enter Tryz.func205,Tryz.ntmps205
  go_wp2
  go_quiet (fail)
  go_wp2
  go_ret
  exact ⟨by simp,_,drewN3 _ _ _⟩
 have h5:kk≠5:=fun y=>h6 (hk.2 y)
 have e6:((pp:Int) == 6)=false:=beqI (b:=6) h6
 have e5:(kk == 5)=false:=by simpa using h5
 rw [e5]
 clear hk hs h6 h5 e5
 go_enter Tryz.func205,Tryz.ntmps205
 go_wp2
 go_quiet (fail)
 go_wp2
 go_ret
 exact ⟨rfl,_,drewN3 _ _ _⟩
set_option maxHeartbeats 1000000 in
set_option maxRecDepth 100000 in
theorem vt_count {w:World} {bb:Nat} {k:Int} {nm:ByteArray} {fr to:Int} {met:Value} (h:SelC w bb k nm fr to met) (x:Sel) (hx:x.sort=3) (hn:x.n=fr) (h0:0≤fr):TakV w (.func (.func 206) #[] #[.pointer (some ⟨bb,0,none⟩)]) x:=by
 refine ⟨_,_,rfl,fun _ _=>rfl,fun b pb c pk i L svp hv hlate q=>?_⟩
 obtain ⟨⟨svc,hc⟩,⟨dp,par,ixp,hp,hd,rfl⟩,hi⟩:=hv
 have c2:w.cell? ⟨bb,2,none⟩=some (.int .i64 fr):=h.b.cell 2
 have c3:w.cell? ⟨bb,3,none⟩=some (.int .i64 to):=h.b.cell 3
 have c5:w.cell? ⟨b,5,none⟩=some (.pointer (some ⟨pb,0,none⟩)):=hc.cell 5
 have c6:w.cell? ⟨b,6,none⟩=some (.int .i64 (i:Nat)):=hc.cell 6
 have p0:w.cell? ⟨pb,0,none⟩=some (.int .i64 (pkd dp:Nat)):=hp.cell 0
 have p8:w.cell? ⟨pb,8,none⟩=some svp:=hp.cell 8
 have hk:=(pkd5 hd).2.1
 have e:takes1 x dp.kind L i c=(dp.kind == 4 && (i:Int) == fr):=by simp only [takes1,hx]; rw [hn,if_neg (by omega:¬fr<0)]; simp
 rw [e]
 clear h hc hp hd e hlate
 generalize dp.kind=kk at *
 generalize pkd dp=pp at *
 show Calls Tryz.prog 206 #[.pointer (some ⟨b,0,none⟩),.pointer (some ⟨bb,0,none⟩)] _ _
 clear p8 hn
 by_cases h5:pp=5
 ·have h4:kk=4:=hk.1 h5
  subst h5 h4
  clear hk
  go_enter Tryz.func206,Tryz.ntmps206
  go_wp2
  go_quiet (fail)
  go_wp2
  go_ret
  exact ⟨by simp,_,drewN3 _ _ _⟩
 have h4:kk≠4:=fun y=>h5 (hk.2 y)
 have e5:((pp:Int) == 5)=false:=beqI (b:=5) h5
 have e4:(kk == 4)=false:=by simpa using h4
 rw [e4]
 clear hk h5 h4 e4
 go_enter Tryz.func206,Tryz.ntmps206
 go_wp2
 go_quiet (fail)
 go_wp2
 go_ret
 exact ⟨rfl,_,drewN3 _ _ _⟩
set_option maxHeartbeats 1000000 in
set_option maxRecDepth 100000 in
theorem vt_end {w:World} {bb:Nat} {k:Int} {nm:ByteArray} {fr to:Int} {met:Value} (h:SelC w bb k nm fr to met) (x:Sel) (hx:x.sort=3) (hn:x.n=-fr) (h0:0<fr∧fr≤1000):TakV w (.func (.func 207) #[] #[.pointer (some ⟨bb,0,none⟩)]) x:=by
 refine ⟨_,_,rfl,fun _ _=>rfl,fun b pb c pk i L svp hv hlate q=>?_⟩
 obtain ⟨⟨svc,hc⟩,⟨dp,par,ixp,hp,hd,rfl⟩,hi⟩:=hv
 have hl:x.late=true:=by simp [Sel.late,hx]; omega
 obtain ⟨⟨ao,cp,rfl⟩,hL,_⟩:=hlate hl
 have c2:w.cell? ⟨bb,2,none⟩=some (.int .i64 fr):=h.b.cell 2
 have c3:w.cell? ⟨bb,3,none⟩=some (.int .i64 to):=h.b.cell 3
 have c5:w.cell? ⟨b,5,none⟩=some (.pointer (some ⟨pb,0,none⟩)):=hc.cell 5
 have c6:w.cell? ⟨b,6,none⟩=some (.int .i64 (i:Nat)):=hc.cell 6
 have p0:w.cell? ⟨pb,0,none⟩=some (.int .i64 (pkd dp:Nat)):=hp.cell 0
 have p8:w.cell? ⟨pb,8,none⟩=some (.slice ao L cp):=hp.cell 8
 have hk:=(pkd5 hd).2.1
 have e:takes1 x dp.kind L i c=(dp.kind == 4 && (i:Int) == (L:Int) - fr):=by simp only [takes1,hx]; rw [hn,if_pos (by omega:-fr<0),show -fr+(L:Int)=(L:Int) - fr by omega]; simp
 rw [e]
 clear h hc hp hd e hlate
 generalize dp.kind=kk at *
 generalize pkd dp=pp at *
 show Calls Tryz.prog 207 #[.pointer (some ⟨b,0,none⟩),.pointer (some ⟨bb,0,none⟩)] _ _
 have hwr:IntKind.i64.wrap ((L:Int) - fr)=(L:Int) - fr:=IntWalk.i64_in _ (by omega)
 clear hn hl h0
 by_cases h5:pp=5
 ·have h4:kk=4:=hk.1 h5
  subst h5 h4
  clear hk
  go_enter Tryz.func207,Tryz.ntmps207
  go_wp2
  go_quiet (fail)
  go_wp2
  go_ret
  exact ⟨by simp,_,drewN3 _ _ _⟩
 have h4:kk≠4:=fun y=>h5 (hk.2 y)
 have e5:((pp:Int) == 5)=false:=beqI (b:=5) h5
 have e4:(kk == 4)=false:=by simpa using h4
 rw [e4]
 clear hk h5 h4 e4
 go_enter Tryz.func207,Tryz.ntmps207
 go_wp2
 go_quiet (fail)
 go_wp2
 go_ret
 exact ⟨rfl,_,drewN3 _ _ _⟩
set_option maxHeartbeats 1000000 in
set_option maxRecDepth 100000 in
theorem vt_piece {w:World} {bb:Nat} {k:Int} {nm:ByteArray} {fr to:Int} {met:Value} (h:SelC w bb k nm fr to met) (x:Sel) (hx:x.sort=4) (hf:x.frm=fr) (ht:(x.to<0∧4000000<to)∨(0≤x.to∧x.to=to)):TakV w (.func (.func 208) #[] #[.pointer (some ⟨bb,0,none⟩)]) x:=by
 refine ⟨_,_,rfl,fun _ _=>rfl,fun b pb c pk i L svp hv hlate q=>?_⟩
 obtain ⟨⟨svc,hc⟩,⟨dp,par,ixp,hp,hd,rfl⟩,hi⟩:=hv
 have c2:w.cell? ⟨bb,2,none⟩=some (.int .i64 fr):=h.b.cell 2
 have c3:w.cell? ⟨bb,3,none⟩=some (.int .i64 to):=h.b.cell 3
 have c5:w.cell? ⟨b,5,none⟩=some (.pointer (some ⟨pb,0,none⟩)):=hc.cell 5
 have c6:w.cell? ⟨b,6,none⟩=some (.int .i64 (i:Nat)):=hc.cell 6
 have p0:w.cell? ⟨pb,0,none⟩=some (.int .i64 (pkd dp:Nat)):=hp.cell 0
 have p8:w.cell? ⟨pb,8,none⟩=some svp:=hp.cell 8
 have hk:=(pkd5 hd).2.1
 have e:takes1 x dp.kind L i c=(dp.kind == 4 && decide (fr≤(i:Int)) && decide ((i:Int)<to)):=by
  have y:(decide (x.to<0) || decide ((i:Int)<x.to))=decide ((i:Int)<to):=by
   rcases ht with ⟨h1,h2⟩ | ⟨h1,h2⟩
   ·rw [decide_eq_true h1,decide_eq_true (p:=(i:Int)<to) (by omega)]; rfl
   rw [h2,decide_eq_false (p:=to<0) (by omega)]; rfl
  simp only [takes1,hx]
  rw [hf,y]
  simp
 rw [e]
 clear h hc hp hd e hlate
 generalize dp.kind=kk at *
 generalize pkd dp=pp at *
 show Calls Tryz.prog 208 #[.pointer (some ⟨b,0,none⟩),.pointer (some ⟨bb,0,none⟩)] _ _
 clear p8 ht
 by_cases h5:pp=5
 ·have h4:kk=4:=hk.1 h5
  subst h5 h4
  clear hk
  by_cases hfr:fr≤(i:Int)
  ·rw [decide_eq_true hfr]
   go_enter Tryz.func208,Tryz.ntmps208
   go_wp2
   go_quiet (fail)
   go_wp2
   go_ret
   exact ⟨by simp,_,drewN3 _ _ _⟩
  rw [decide_eq_false hfr]
  have hge:((i:Int) ≥ fr)=False:=by simpa using hfr
  go_enter Tryz.func208,Tryz.ntmps208
  go_wp2
  go_quiet (fail)
  go_wp2
  go_ret
  exact ⟨by simp,_,drewN3 _ _ _⟩
 have h4:kk≠4:=fun y=>h5 (hk.2 y)
 have e5:((pp:Int) == 5)=false:=beqI (b:=5) h5
 have e4:(kk == 4)=false:=by simpa using h4
 rw [e4]
 clear hk h5 h4 e4
 go_enter Tryz.func208,Tryz.ntmps208
 go_wp2
 go_quiet (fail)
 go_wp2
 go_ret
 exact ⟨rfl,_,drewN3 _ _ _⟩
theorem vt_where {w:World} {f:Value} {φ:Tv→Bool} (h:CondV w f φ) (x:Sel) (hx:x.sort=5) (hw:x.wh=φ):TakV w f x:=by
 obtain ⟨N,cap,rfl,hE,hN⟩:=h
 refine ⟨N,cap,rfl,hE,fun b pb c pk i L svp _ hlate q=>?_⟩
 obtain ⟨_,_,A,D,n,par,ix,hp,rfl⟩:=hlate (by simp [Sel.late,hx])
 have e:takes1 x pk L i c=φ c:=by simp [takes1,hx,hw]
 rw [e]
 exact hN A D n par ix c hp q
end Go.Proofs.YtcbadebjpogmlaaGreatDoor
namespace Go.Proofs.YtcbadebjpogmlaaGreatDoor
open Go.RowKit Tr
theorem infoVP:(Tryz.prog.info? 71).map (fun i=>(i.zero,i.size,i.bytes))=some (some (.pointer none),1,8):=by kernel_rfl
def takSn (x:Sel) (v:Tv) (m:Nat):List Tv:=(((v.ws.zipIdx).take m).filter (fun p=>takes1 x v.d.kind v.ws.length p.2 p.1)).map (·.1)
theorem takSn_all (x:Sel) (v:Tv):takSn x v v.ws.length=takS x v:=by
 unfold takSn takS
 rw [List.take_of_length_le (by simp)]
theorem takSn_succ (x:Sel) (v:Tv) {m:Nat} (h:m<v.ws.length):takSn x v (m+1)=takSn x v m++(if takes1 x v.d.kind v.ws.length m v.ws[m]=true then [v.ws[m]] else []):=by
 unfold takSn
 rw [List.take_succ_eq_append_getElem (by simpa using h),List.filter_append,List.map_append]
 congr 1
 simp only [List.getElem_zipIdx,Nat.zero_add]
 by_cases hb:takes1 x v.d.kind v.ws.length m v.ws[m]=true
 ·rw [if_pos hb,List.filter_cons_of_pos (by simpa using hb)]; rfl
 rw [if_neg hb,List.filter_cons_of_neg (by simpa using hb)]; rfl
theorem takSn_len (x:Sel) (v:Tv) (m:Nat):(takSn x v m).length≤(takS x v).length:=by
 unfold takSn takS
 rw [List.length_map,List.length_map]
 exact (List.Sublist.filter _ (List.take_sublist _ _)).length_le
theorem dir_take {l:List Sel} {k:Nat} (h:k<l.length) (v:Tv):(l.take (k+1)).flatMap (fun x=>takS x v)=(l.take k).flatMap (fun x=>takS x v)++takS l[k] v:=by
 rw [List.take_succ_eq_append_getElem h,List.flatMap_append]
 simp
theorem dir_len (l:List Sel) (k:Nat) (v:Tv):((l.take k).flatMap (fun x=>takS x v)).length≤(dirS l v).length:=by
 have e:dirS l v=(l.take k++l.drop k).flatMap (fun x=>takS x v):=by rw [List.take_append_drop]; rfl
 rw [e,List.flatMap_append,List.length_append]
 omega
structure PL (w:World) (A:Nat→Nat) (l:List Tv) (sv:Value) (w':World):Prop where
 f:Keeps w w'
 o:w'.ownsRow w.heap.size 71 1 sv l.length (l.map (pvp A))
theorem PL.drewN {w:World} {A:Nat→Nat} {l:List Tv} {sv:Value} {w':World} (h:PL w A l sv w') (k:Nat):PL w A l sv (w'.drewN k):=⟨h.f.drewN k,own_at' h.o (fun _ _=>rfl)⟩
def TakerV (w:World) (f:Value) (F:Tv→List Tv):Prop:=∃N cap,f=.func (.func N) #[] cap∧(∀args w,(callFunc N args).run Tryz.prog w=.ok (.enter N args) w) ∧
 ∀(A:Nat→Nat) (D:Nat→Prop) (n:Nat) (par:Value) (ix:Nat) (t:Tv),PT w A D n par ix t→n≤10→(∀k,D k→k<w.heap.size)→∀(found:List Tv) (sv:Value) (w1:World),PL w A found sv w1→found.length+(F t).length≤1000000000000 →
 Calls Tryz.prog N (#[.pointer (some ⟨A t.d.frm,0,none⟩),sv]++cap) w1 fun r w2=>∃sv2,r=.returned sv2∧PL w A (found++F t) sv2 w2
set_option maxHeartbeats 2000000 in
set_option maxRecDepth 100000 in
theorem v_direct {w:World} {sv:Value} {fs:List Value} {xs:List Sel} {B:Nat} (ho:w.ownsRow B 242 1 sv fs.length fs) (hj:fs.length≤1000) (hl:xs.length=fs.length)
 (h:∀i (h1:i<fs.length) (h2:i<xs.length),∀w',Keeps w w'→TakV w' fs[i] xs[i]) {b:Nat} (hb:Blk w b #[sv] 241):TakerV w (.func (.func 211) #[] #[.pointer (some ⟨b,0,none⟩)]) (dirS xs):=by
 obtain ⟨i0,hi',hz0,hz1,hz2⟩:=info_parts infoVP
 have HI:=hide hi'
 have HZ0:=hide hz0
 have HZ1:=hide hz1
 have HZ2:=hide hz2
 clear hi' hz0 hz1 hz2
 refine ⟨_,_,rfl,fun _ _=>rfl,fun A D n par ix t ht _ hD found sf w1 hP hN=>?_⟩
 have hbl:b<w.heap.size:=hb.lt
 have c0:w1.cell? ⟨b,0,none⟩=some sv:=(hP.f.cell (p:=⟨b,0,none⟩) hbl id).trans (hb.cell 0)
 have HB:Hid (∀wr:World,Keeps w wr→wr.cell? ⟨b,0,none⟩=some sv):=fun wr hk=>(hk.cell (p:=⟨b,0,none⟩) hbl id).trans (hb.cell 0)
 have HH:=hide h
 obtain ⟨svt,hpc⟩:=ht.pc
 have hlt0:=hpc.l
 obtain ⟨t0,tcp,rfl⟩:=own_slice hpc.o
 have hAt:A t.d.frm<w.heap.size:=hpc.b.lt
 have HC:Hid (∀wr:World,Keeps w wr→PC wr A t par ix (.slice t0 t.ws.length tcp)):=fun wr hk=>⟨hpc.b.fr hk id,own_fr hpc.o hk (fun _ _ x=>x),hpc.d,hpc.l⟩
 clear hpc
 have HT:Hid (∀wr:World,Keeps w wr→PT wr A D n par ix t):=fun wr hk=>PT.keep (fun k hk'=>hk.block k (hD k hk') id) _ _ _ _ ht
 have HD:=hide hD
 have HP:=hide hP
 have HN:=hide hN
 obtain ⟨j,hjj⟩:∃j,j=fs.length:=⟨_,rfl⟩
 rw [← hjj] at hj ho hl
 obtain ⟨v0,vcp,rfl⟩:=own_slice ho
 have HO:=hide ho
 have HJ:=hide hjj
 have HL:=hide hl
 obtain ⟨f0,f1,hfe⟩:=own_slice hP.o
 obtain ⟨fl,hfl⟩:∃fl,fl=found.length:=⟨_,rfl⟩
 rw [← hfl] at hfe
 subst hfe
 have HFL:=hide hfl
 clear h hb ht ho hjj hl hD hP hN hfl
 show Calls Tryz.prog 211 #[.pointer (some ⟨A t.d.frm,0,none⟩),.slice f0 fl f1,.pointer (some ⟨b,0,none⟩)] _ _
 go_enter Tryz.func211,Tryz.ntmps211
 go_wp2
 go_loopw [1,7,9,12] (fun o _ _ i wr=>∃(k:Nat),k≤j∧i=.int .i64 k∧PL w A (found++(xs.take k).flatMap (fun x=>takS x t)) o wr) (fun _ _ _ i _=>j - (intOf i).toNat)
 case atStart=>exact ⟨0,Nat.zero_le _,rfl,by simpa using HP.out⟩
 case round =>
  clear HP c0
  obtain ⟨k,hk,rfl,hS⟩:=hrel
  have S:=hide hS
  have c8:wr.cell? ⟨A t.d.frm,8,none⟩=some (.slice t0 t.ws.length tcp):=(HC.out wr hS.f).b.cell 8
  obtain ⟨m0,m1,hme⟩:=own_slice hS.o
  obtain ⟨ml,hml⟩:∃ml,ml=(found++(xs.take k).flatMap (fun x=>takS x t)).length:=⟨_,rfl⟩
  rw [← hml] at hme
  subst hme
  clear hS hml
  by_cases hlt:k<j
  ·have hlf:k<fs.length:=by have:=HJ.out; omega
   have hlp:k<xs.length:=by have:=HL.out; omega
   obtain ⟨g,cap,hv,hbg,hgl⟩:=HO.out.form (by omega)
   simp only [Value.slice.injEq,true_and] at hv
   obtain ⟨rfl,rfl⟩:=hv
   have hcell:wr.cell? ⟨g,k,none⟩=some fs[k]:=(S.out.f.cell (p:=⟨g,k,none⟩) hgl id).trans ((HO.out.cellAt k (by omega)).trans (List.getElem?_eq_getElem hlf))
   have HX:=hide (HH.out k hlf hlp)
   have HDT:=hide (dir_take hlp t)
   have hdl:Hid (((xs.take k).flatMap (fun x=>takS x t)).length+(takS xs[k] t).length≤(dirS xs t).length):=by
    have:=dir_len xs (k+1) t
    rw [dir_take hlp,List.length_append] at this
    exact this
   obtain ⟨N,cp,he,hE,_⟩:=HX.out wr S.out.f
   rw [he] at hcell HX
   generalize xs[k]=x at *
   clear he
   go_wp2
   go_loopw [1,9,21] (fun o _ i wr=>∃(m:Nat),m≤t.ws.length∧i=.int .i64 m∧PL w A (found++(xs.take k).flatMap (fun x=>takS x t)++takSn x t m) o wr) (fun _ _ i _=>t.ws.length - (intOf i).toNat)
   case atStart=>exact ⟨0,Nat.zero_le _,rfl,by simpa [takSn] using S.out⟩
   case round =>
    clear S c8 hcell
    obtain ⟨m,hm,rfl,hS⟩:=hrel
    have S:=hide hS
    obtain ⟨l,hll⟩:∃l,l=found++(xs.take k).flatMap (fun x=>takS x t)++takSn x t m:=⟨_,rfl⟩
    rw [← hll] at S
    obtain ⟨o0,o1,hoe⟩:=own_slice S.out.o
    obtain ⟨ol,hol⟩:∃ol,ol=l.length:=⟨_,rfl⟩
    rw [← hol] at hoe
    subst hoe
    have hoo:=S.out.o
    rw [← hol] at hoo
    have HOO:=hide hoo
    have HLL:=hide hll
    have HOL:=hide hol
    clear hS hoo hll hol
    by_cases hmt:m<t.ws.length
    ·have hmi:(m:Int)<(t.ws.length:Int):=by omega
     have hpc:=HC.out wr S.out.f
     obtain ⟨g2,cap2,hv2,hcell2⟩:=hpc.at_ hmt
     simp only [Value.slice.injEq,true_and] at hv2
     obtain ⟨rfl,rfl⟩:=hv2
     have hkid:=(HT.out wr S.out.f).kid hmt
     obtain ⟨svc,hkc⟩:=hkid.pc
     have hva:VAt wr (A (t.ws[m]).d.frm) (A t.d.frm) t.ws[m] t.d.kind m (.slice (some ⟨g2,0,none⟩) t.ws.length tcp):=⟨⟨svc,hkc.b⟩,⟨t.d,par,ix,hpc.b,hpc.d,rfl⟩,by omega⟩
     obtain ⟨N',cp',he',_,hN'⟩:=HX.out wr S.out.f
     injection he' with he1 _ he3
     injection he1 with he1
     subst he1 he3
     have HC2:=hide (hN' _ _ _ _ _ _ _ hva (fun _=>⟨⟨_,_,rfl⟩,hlt0,A,D,_,_,_,hkid,rfl⟩))
     have HSU:=hide (takSn_succ x t hmt)
     have hsn:=takSn_len x t (m+1)
     have hlen:Hid (ol+(if takes1 x t.d.kind t.ws.length m t.ws[m]=true then 1 else 0)≤1000000000000):=by
      have h1:=hdl.out
      have h2:=HN.out
      rw [HSU.out,List.length_append] at hsn
      show _≤_
      rw [HOL.out,HLL.out,List.length_append,List.length_append]
      split<;>simp_all<;>omega
     clear hpc hkid hkc hva hN' hsn
     generalize t.ws[m]=c at *
     generalize takes1 x t.d.kind t.ws.length m c=bb at *
     cases bb
     ·go_wp2_with fail
      refine (HC2.out 0).mono ?_
      rintro r w3 ⟨rfl,k3,rfl⟩
      have S3:Hid (PL w A (found++(xs.take k).flatMap (fun x=>takS x t)++takSn x t (m+1)) (.slice o0 ol o1) (wr.drewN k3)):=by
       rw [HSU.out]
       simp only [Bool.false_eq_true,if_false,List.append_nil]
       rw [← HLL.out]
       exact S.out.drewN k3
      go_wp2
      go_roundw
      case rel=>exact ⟨m+1,by omega,by go_num,S3.out⟩
      case measure=>simp [intOf]; omega
     have hlen2:ol+1≤1000000000000:=by have:=hlen.out; simpa using this
     go_wp2_with fail
     refine (HC2.out 0).mono ?_
     rintro r w3 ⟨rfl,k3,rfl⟩
     have hown3:(wr.drewN k3).ownsRow w.heap.size 71 1 (.slice o0 ol o1) ol (l.map (pvp A)):=own_at' HOO.out (fun _ _=>rfl)
     have hsz:w.heap.size≤(wr.drewN k3).heap.size:=S.out.f.size
     have F4:=hide (S.out.f.drewN k3)
     generalize wr.drewN k3=w4 at *
     go_wp2_with (at_builtin; refine wpList_append_own _ rfl _ _ 74 rfl w.heap.size 71 i0 _ 1 8 Tryz.underlying74 HI.out HZ0.out HZ1.out HZ2.out rfl (by decide) _ _ _ rfl (hown3.alloc _) ⟨w4.heap.size,0,none⟩ 1 1 [.pointer (some ⟨A c.d.frm,0,none⟩)] rfl rfl ?c1 ?c2 ?c3 ?c4 ?c5 ?_)
     case c1 =>
      intro j u hj
      match j,hj with
      | 0,hj=>simp at hj; subst hj; simp [Addr.add]
     case c2=>intro u hu; simp at hu; subst hu; rfl
     case c3=>unfold maxLen; omega
     case c4=>omega
     case c5=>simp; omega
     intro v' w5 hown5 hgrow _
     have S5:Hid (PL w A (found++(xs.take k).flatMap (fun x=>takS x t)++takSn x t (m+1)) v' w5):=by
      rw [HSU.out]
      simp only [if_true]
      rw [← List.append_assoc,← HLL.out]
      refine ⟨(F4.out.alloc _).grown hgrow (fun q hq=>Or.inl (by have:=(hown3.lt q hq).1; omega)),?_⟩
      rw [List.map_append,List.length_append,← HOL.out]
      exact hown5
     obtain ⟨b5,k5,rfl⟩:=own_slice hown5
     clear hown5 hgrow hown3
     go_wp2
     go_roundw
     case rel=>exact ⟨m+1,by omega,by go_num,S5.out⟩
     case measure=>simp [intOf]; omega
    have hmi:¬(m:Int)<(t.ws.length:Int):=by omega
    have S3:Hid (PL w A (found++(xs.take (k+1)).flatMap (fun x=>takS x t)) (.slice o0 ol o1) wr):=by
     rw [HDT.out,← List.append_assoc,← takSn_all,show t.ws.length=m by omega,← HLL.out]
     exact S.out
    go_wp2
    go_roundw
    case rel=>exact ⟨k+1,by omega,by go_num,S3.out⟩
    case measure=>simp [intOf]; omega
  have HR:Hid (PL w A (found++dirS xs t) (.slice m0 ml m1) wr):=by
   have e:xs.take k=xs:=List.take_of_length_le (by have:=HL.out; omega)
   have:=S.out
   rw [e] at this
   exact this
  go_wp2
  go_ret
  exact ⟨_,rfl,HR.out⟩
end Go.Proofs.YtcbadebjpogmlaaGreatDoor
namespace Go.Proofs.YtcbadebjpogmlaaGreatDoor
open Go.RowKit Tr
theorem PT.all {w:World} {A:Nat→Nat} {D:Nat→Prop}:∀(n:Nat) {par:Value} {ix:Nat} {t:Tv},PT w A D n par ix t→∀m,n≤m→allT m t=allT n t
 | 0,_,_,_,h,_,_=>absurd h id
 | n+1,_,_,t,h,m,hm=>by
  obtain ⟨m,rfl⟩:∃k,m=k+1:=⟨m - 1,by omega⟩
  show t::t.ws.flatMap (allT m)=t::t.ws.flatMap (allT n)
  congr 1
  simp only [List.flatMap]
  congr 1
  refine List.map_congr_left (fun c hc=>?_)
  obtain ⟨i,hi,rfl⟩:=List.getElem_of_mem hc
  exact PT.all n (h.kid hi) m (by omega)
theorem all_take (F:Tv→List Tv) (n:Nat) (ws:List Tv) (k:Nat) (h:k<ws.length):(ws.take (k+1)).flatMap (fun c=>(allT n c).flatMap F)=(ws.take k).flatMap (fun c=>(allT n c).flatMap F)++(allT n ws[k]).flatMap F:=by
 rw [List.take_succ_eq_append_getElem h,List.flatMap_append]
 simp
theorem all_len (F:Tv→List Tv) (n:Nat) (ws:List Tv) (k:Nat):((ws.take k).flatMap (fun c=>(allT n c).flatMap F)).length≤(ws.flatMap (fun c=>(allT n c).flatMap F)).length:=by
 have e:ws.flatMap (fun c=>(allT n c).flatMap F)=(ws.take k++ws.drop k).flatMap (fun c=>(allT n c).flatMap F):=by rw [List.take_append_drop]
 rw [e,List.flatMap_append,List.length_append]
 omega
theorem all_flat (F:Tv→List Tv) (n:Nat) (t:Tv):(allT (n+1) t).flatMap F=F t++t.ws.flatMap (fun c=>(allT n c).flatMap F):=by
 show (t::t.ws.flatMap (allT n)).flatMap F=_
 rw [List.flatMap_cons,List.flatMap_assoc]
set_option maxHeartbeats 2000000 in
set_option maxRecDepth 100000 in
theorem through_at {w:World} {fd:Value} {F:Tv→List Tv} (h:TakerV w fd F) {b2 b3:Nat} (hb2:Blk w b2 #[fd] 124)
 (hb3:Blk w b3 #[.func (.func 210) #[] #[.pointer (some ⟨b2,0,none⟩),.pointer (some ⟨b3,0,none⟩)]] 124) {A:Nat→Nat} {D:Nat→Prop} (hD:∀k,D k→k<w.heap.size) :
 ∀(n:Nat) (par:Value) (ix:Nat) (t:Tv),PT w A D n par ix t→n≤10→∀(found:List Tv) (sv:Value) (w1:World),PL w A found sv w1→found.length+((allT n t).flatMap F).length≤1000000000000 →
 Calls Tryz.prog 210 #[.pointer (some ⟨A t.d.frm,0,none⟩),sv,.pointer (some ⟨b2,0,none⟩),.pointer (some ⟨b3,0,none⟩)] w1 fun r w2=>∃sv2,r=.returned sv2∧PL w A (found++(allT n t).flatMap F) sv2 w2:=by
 intro n
 induction n with
 | zero=>intro par ix t h; exact absurd h id
 | succ n ih =>
  intro par ix t ht hn found sv w1 hP hN
  obtain ⟨N,cap,rfl,hE,hT⟩:=h
  obtain ⟨svt,hpc⟩:=ht.pc
  have hlt0:=hpc.l
  obtain ⟨t0,tcp,rfl⟩:=own_slice hpc.o
  have HC:Hid (∀wr:World,Keeps w wr→PC wr A t par ix (.slice t0 t.ws.length tcp)):=fun wr hk=>⟨hpc.b.fr hk id,own_fr hpc.o hk (fun _ _ x=>x),hpc.d,hpc.l⟩
  have h2l:=hb2.lt
  have h3l:=hb3.lt
  have HB2:Hid (∀wr:World,Keeps w wr→wr.cell? ⟨b2,0,none⟩=some (.func (.func N) #[] cap)):=fun wr hk=>(hk.cell (p:=⟨b2,0,none⟩) h2l id).trans (hb2.cell 0)
  have HB3:Hid (∀wr:World,Keeps w wr→wr.cell? ⟨b3,0,none⟩=some (.func (.func 210) #[] #[.pointer (some ⟨b2,0,none⟩),.pointer (some ⟨b3,0,none⟩)])):=fun wr hk=>(hk.cell (p:=⟨b3,0,none⟩) h3l id).trans (hb3.cell 0)
  have HA:=hide (all_flat F n t)
  rw [HA.out,List.length_append] at hN
  rw [HA.out]
  have hdir:=hide (hT A D (n+1) par ix t ht hn hD found sv w1 hP (by omega))
  have HIH:=hide (fun (k:Nat) (hk:k<t.ws.length)=>ih (pvp A t) k t.ws[k] (ht.kid hk) (by omega))
  have c2:=HB2.out w1 hP.f
  have HN:=hide hN
  obtain ⟨s0,s1,hse⟩:=own_slice hP.o
  obtain ⟨sl,hsl⟩:∃sl,sl=found.length:=⟨_,rfl⟩
  rw [← hsl] at hse
  subst hse
  clear hb2 hb3 hT hpc ht ih hP hN hsl HA
  go_enter Tryz.func210,Tryz.ntmps210
  go_wp2_with fail
  refine (hdir.out).mono ?_
  rintro r w2 ⟨sv2,rfl,hP2⟩
  have S:=hide hP2
  have c8:w2.cell? ⟨A t.d.frm,8,none⟩=some (.slice t0 t.ws.length tcp):=(HC.out w2 hP2.f).b.cell 8
  obtain ⟨a0,a1,hae⟩:=own_slice hP2.o
  obtain ⟨al,hal⟩:∃al,al=(found++F t).length:=⟨_,rfl⟩
  rw [← hal] at hae
  subst hae
  clear hP2 hdir c2 hal
  go_wp2
  go_loopw [1,8,18] (fun o _ i wr=>∃(k:Nat),k≤t.ws.length∧i=.int .i64 k∧PL w A (found++F t++(t.ws.take k).flatMap (fun c=>(allT n c).flatMap F)) o wr) (fun _ _ i _=>t.ws.length - (intOf i).toNat)
  case atStart=>exact ⟨0,Nat.zero_le _,rfl,by simpa using S.out⟩
  case round =>
   clear S c8
   obtain ⟨k,hk,rfl,hS⟩:=hrel
   have S:=hide hS
   obtain ⟨m0,m1,hme⟩:=own_slice hS.o
   obtain ⟨ml,hml⟩:∃ml,ml=(found++F t++(t.ws.take k).flatMap (fun c=>(allT n c).flatMap F)).length:=⟨_,rfl⟩
   rw [← hml] at hme
   subst hme
   have HML:=hide hml
   clear hS hml
   by_cases hlt:k<t.ws.length
   ·have hki:(k:Int)<(t.ws.length:Int):=by omega
    have hpc:=HC.out wr S.out.f
    obtain ⟨g2,cap2,hv2,hcell2⟩:=hpc.at_ hlt
    simp only [Value.slice.injEq,true_and] at hv2
    obtain ⟨rfl,rfl⟩:=hv2
    have c3:=HB3.out wr S.out.f
    have HTK:=hide (all_take F n t.ws k hlt)
    have hsum:(found++F t++(t.ws.take k).flatMap (fun c=>(allT n c).flatMap F)).length+((allT n t.ws[k]).flatMap F).length≤1000000000000:=by
     have h1:=all_len F n t.ws (k+1)
     rw [HTK.out,List.length_append] at h1
     have h2:=HN.out
     rw [List.length_append,List.length_append]
     omega
    have CA:=hide (HIH.out k hlt _ _ wr S.out hsum)
    clear hpc hsum
    generalize t.ws[k]=c at *
    go_wp2_with fail
    refine (CA.out).mono ?_
    rintro r w3 ⟨sv3,rfl,hP3⟩
    have S3:Hid (PL w A (found++F t++(t.ws.take (k+1)).flatMap (fun c=>(allT n c).flatMap F)) sv3 w3):=by
     rw [HTK.out,← List.append_assoc]
     exact hP3
    obtain ⟨a3,a4,hae⟩:=own_slice hP3.o
    obtain ⟨al3,hal⟩:∃al,al=(found++F t++(t.ws.take k).flatMap (fun c=>(allT n c).flatMap F)++(allT n c).flatMap F).length:=⟨_,rfl⟩
    rw [← hal] at hae
    subst hae
    clear hP3 hal CA
    go_wp2
    go_roundw
    case rel=>exact ⟨k+1,by omega,by go_num,S3.out⟩
    case measure=>simp [intOf]; omega
   have hki:¬(k:Int)<(t.ws.length:Int):=by omega
   have HR:Hid (PL w A (found++(F t++t.ws.flatMap (fun c=>(allT n c).flatMap F))) (.slice m0 ml m1) wr):=by
    have e:t.ws.take k=t.ws:=List.take_of_length_le (by omega)
    have:=S.out
    rw [e,List.append_assoc] at this
    exact this
   go_wp2
   go_ret
   exact ⟨_,rfl,HR.out⟩
theorem v_through {w:World} {fd:Value} {F:Tv→List Tv} (h:TakerV w fd F) {b2 b3:Nat} (hb2:Blk w b2 #[fd] 124)
 (hb3:Blk w b3 #[.func (.func 210) #[] #[.pointer (some ⟨b2,0,none⟩),.pointer (some ⟨b3,0,none⟩)]] 124):TakerV w (.func (.func 210) #[] #[.pointer (some ⟨b2,0,none⟩),.pointer (some ⟨b3,0,none⟩)]) (fun t=>(allT 10 t).flatMap F):=by
 refine ⟨_,_,rfl,fun _ _=>Tryz.call210 _ _,fun A D n par ix t ht hn hD found sv w1 hP hN=>?_⟩
 dsimp only at hN ⊢
 rw [PT.all n ht 10 hn] at hN ⊢
 exact through_at h hb2 hb3 hD n par ix t ht hn found sv w1 hP hN
end Go.Proofs.YtcbadebjpogmlaaGreatDoor
namespace Go.Proofs.YtcbadebjpogmlaaGreatDoor
open Go.RowKit Tr
theorem cnt_take {xs:List Sel} {k:Nat} (h:k<xs.length) (pk L i:Nat) (c:Tv):cntS (xs.take (k+1)) pk L i c=cntS (xs.take k) pk L i c+(if takes1 xs[k] pk L i c=true then 1 else 0):=by
 unfold cntS
 rw [List.take_succ_eq_append_getElem h,List.map_append,List.sum_append]
 simp
theorem cnt_le:∀(xs:List Sel) (pk L i:Nat) (c:Tv),cntS xs pk L i c≤xs.length
 | [],_,_,_,_=>Nat.le_refl _
 | x::xs,pk,L,i,c=>by
  have:=cnt_le xs pk L i c
  unfold cntS at *
  simp only [List.map_cons,List.sum_cons,List.length_cons]
  split<;>omega
def LateOk (w:World) (xs:List Sel) (b:Nat) (c:Tv) (L:Nat) (svp:Value):Prop:=xs.any Sel.late=true→(∃ao cp,svp=.slice ao L cp)∧L≤4000000∧∃A D n par ix,PT w A D n par ix c∧A c.d.frm=b
set_option maxHeartbeats 2000000 in
set_option maxRecDepth 100000 in
theorem v_taken {w:World} {sv:Value} {fs:List Value} {xs:List Sel} {B:Nat} (ho:w.ownsRow B 242 1 sv fs.length fs) (hj:fs.length≤1000) (hl:xs.length=fs.length)
 (h:∀i (h1:i<fs.length) (h2:i<xs.length),TakV w fs[i] xs[i]) (nodes:Nat) (hn:nodes≤1000000000000000) {b pb:Nat} {c:Tv} {pk i L:Nat} {svp:Value} (hv:VAt w b pb c pk i svp) (hlate:0<nodes→LateOk w xs b c L svp) (q:Nat) :
 Calls Tryz.prog 213 #[.int .i64 (nodes:Nat),sv,.pointer (some ⟨b,0,none⟩)] (w.drewN q) fun r w'=>r=.returned (.int .i64 ((nodes * cntS xs pk L i c:Nat):Int))∧∃k,w'=w.drewN k:=by
 have HH:=hide h
 have HV:=hide hv
 have HLA:=hide hlate
 obtain ⟨j,hjj⟩:∃j,j=fs.length:=⟨_,rfl⟩
 rw [← hjj] at hj ho hl
 obtain ⟨v0,vcp,rfl⟩:=own_slice ho
 have HO:=hide ho
 have HJ:=hide hjj
 have HL:=hide hl
 clear h ho hjj hl hv hlate
 go_enter Tryz.func213,Tryz.ntmps213
 go_wp2
 go_loopw [7,9,12] (fun s _ i0 wr=>∃k q m:Nat,k≤j∧i0=.int .i64 k∧s=.int .i64 (m:Nat)∧m=nodes * cntS (xs.take k) pk L i c∧wr=w.drewN q) (fun _ _ i0 _=>j - (intOf i0).toNat)
 case atStart=>exact ⟨0,q,0,Nat.zero_le _,rfl,rfl,by simp [cntS],rfl⟩
 case round =>
  obtain ⟨k,q,m,hk,rfl,rfl,hm,rfl⟩:=hrel
  have HM:=hide hm
  clear hm
  by_cases hlt:k<j
  ·have hlf:k<fs.length:=by have:=HJ.out; omega
   have hlp:k<xs.length:=by have:=HL.out; omega
   have HCT:=hide (cnt_take hlp pk L i c)
   have hcl:m≤1000000000000000000:=by
    have h1:=cnt_le (xs.take k) pk L i c
    have h2:=List.length_take_le k xs
    rw [HM.out]
    calc nodes * cntS (xs.take k) pk L i c≤1000000000000000 * 1000:=Nat.mul_le_mul hn (by omega)
     _=_:=rfl
   obtain ⟨g,cap,hv,hbg,hgl⟩:=HO.out.form (by omega)
   simp only [Value.slice.injEq,true_and] at hv
   obtain ⟨rfl,rfl⟩:=hv
   have hcell:w.cell? ⟨g,k,none⟩=some fs[k]:=(HO.out.cellAt k (by omega)).trans (List.getElem?_eq_getElem hlf)
   obtain ⟨N,cp,he,hE,hN⟩:=HH.out k hlf hlp
   rw [he] at hcell
   by_cases h0:nodes=0
   ·subst h0
    have HZ:Hid (m=0 * cntS (xs.take (k+1)) pk L i c):=by show _=_; rw [HM.out]; simp
    clear hN he HCT
    go_wp2
    go_roundw
    case rel=>exact ⟨k+1,q,m,by omega,by go_num,rfl,HZ.out,rfl⟩
    case measure=>simp [intOf]; omega
   have hpos:(0:Int)<(nodes:Int):=by omega
   have H:=hide (hN b pb c pk i L svp HV.out (fun hx=>(HLA.out (by omega)) (List.any_eq_true.2 ⟨_,List.getElem_mem hlp,hx⟩)))
   clear hN he
   generalize takes1 xs[k] pk L i c=bb at *
   cases bb
   ·have HZ:Hid (m=nodes * cntS (xs.take (k+1)) pk L i c):=by show _=_; rw [HCT.out,HM.out]; simp
    clear HCT
    go_wp2_with fail
    refine (H.out _).mono ?_
    rintro r w1 ⟨rfl,k1,rfl⟩
    go_wp2
    go_roundw
    case rel=>exact ⟨k+1,k1,m,by omega,by go_num,rfl,HZ.out,rfl⟩
    case measure=>simp [intOf]; omega
   have HZ:Hid (m+nodes=nodes * cntS (xs.take (k+1)) pk L i c):=by show _=_; rw [HCT.out,HM.out]; simp [Nat.mul_add]
   clear HCT
   go_wp2_with fail
   refine (H.out _).mono ?_
   rintro r w1 ⟨rfl,k1,rfl⟩
   go_wp2
   go_roundw
   case rel=>exact ⟨k+1,k1,m+nodes,by omega,by go_num,by go_num,HZ.out,rfl⟩
   case measure=>simp [intOf]; omega
  have HR:Hid (m=nodes * cntS xs pk L i c):=by
   have e:xs.take k=xs:=List.take_of_length_le (by have:=HL.out; omega)
   have:=HM.out
   rw [e] at this
   exact this
  go_wp2
  go_ret
  exact ⟨by rw [← HR.out]; rfl,q,rfl⟩
def CounterV (w:World) (f:Value) (deep:Bool) (xs:List Sel):Prop:=∃N cap,f=.func (.func N) #[] cap∧(∀args w,(callFunc N args).run Tryz.prog w=.ok (.enter N args) w) ∧
 ∀(its al:Nat),its≤1000000000000000→al≤1000000000000000→∀(b pb:Nat) (c:Tv) (pk i L:Nat) (svp:Value),VAt w b pb c pk i svp→(0<(if deep then al else its)→LateOk w xs b c L svp) →
 Calls Tryz.prog N (#[.agg #[.int .i64 (its:Nat),.int .i64 (al:Nat)],.pointer (some ⟨b,0,none⟩)]++cap) w fun r w'=>r=.returned (.int .i64 (((if deep then al else its) * cntS xs pk L i c:Nat):Int))∧Keeps w w'
theorem VAt.keep {w w':World} {b pb:Nat} {c:Tv} {pk i:Nat} {svp:Value} (h:VAt w b pb c pk i svp) (f:Keeps w w'):VAt w' b pb c pk i svp:=by
 obtain ⟨⟨svc,hc⟩,⟨dp,par,ixp,hp,hd⟩,hi⟩:=h
 exact ⟨⟨svc,hc.fr f id⟩,⟨dp,par,ixp,hp.fr f id,hd⟩,hi⟩
theorem PT.lt {w:World} {A:Nat→Nat} {D:Nat→Prop}:∀(n:Nat) {par:Value} {ix:Nat} {t:Tv},PT w A D n par ix t→PT w A (fun k=>k<w.heap.size) n par ix t
 | 0,_,_,_,h=>h
 | n+1,_,_,_,⟨_,hd,hl,⟨sv,h3,_,h5⟩,h6⟩=>⟨h3.lt,hd,hl,⟨sv,h3,fun k hk=>(h5.lt k hk).2,h5⟩,fun i hi=>PT.lt n (h6 i hi)⟩
theorem PT.up {w w':World} {A:Nat→Nat} {D:Nat→Prop} {n:Nat} {par:Value} {ix:Nat} {t:Tv} (h:PT w A D n par ix t) (f:Keeps w w'):PT w' A (fun k=>k<w.heap.size) n par ix t:=PT.keep (fun k hk=>f.block k hk id) _ _ _ _ (PT.lt n h)
theorem LateOk.keep {w w':World} {xs:List Sel} {b:Nat} {c:Tv} {L:Nat} {svp:Value} (h:LateOk w xs b c L svp) (f:Keeps w w'):LateOk w' xs b c L svp:=fun hx=>by
 obtain ⟨h1,h2,A,D,n,par,ix,h3,h4⟩:=h hx
 exact ⟨h1,h2,A,_,n,par,ix,h3.up f,h4⟩
set_option maxHeartbeats 1000000 in
set_option maxRecDepth 100000 in
theorem v_cntDirect {w:World} {sv:Value} {fs:List Value} {xs:List Sel} {B:Nat} (ho:w.ownsRow B 242 1 sv fs.length fs) (hj:fs.length≤1000) (hl:xs.length=fs.length)
 (h:∀i (h1:i<fs.length) (h2:i<xs.length),∀w',Keeps w w'→TakV w' fs[i] xs[i]) {b:Nat} (hb:Blk w b #[sv] 241):CounterV w (.func (.func 214) #[] #[.pointer (some ⟨b,0,none⟩)]) false xs:=by
 refine ⟨_,_,rfl,fun _ _=>Tryz.call214 _ _,fun its al h1 h2 bv pb c pk i L svp hv hlate=>?_⟩
 have c0:w.cell? ⟨b,0,none⟩=some sv:=hb.cell 0
 obtain ⟨v0,vcp,rfl⟩:=own_slice ho
 obtain ⟨W,hW⟩:∃W,W=w.alloc (.cells #[.int .i64 (its:Nat),.int .i64 (al:Nat)] 200):=⟨_,rfl⟩
 have hK:Keeps w W:=by rw [hW]; exact (Fr.refl _ w).alloc _
 simp only [Bool.false_eq_true,if_false] at hlate ⊢
 have H:=hide (v_taken (own_fr ho hK (fun _ _ x=>x)) hj hl (fun k k1 k2=>h k k1 k2 W hK) its h1 (hv.keep hK) (fun x=>(hlate x).keep hK) 0)
 have HK:=hide hK
 have hbw:b<w.heap.size:=hb.lt
 subst hW
 clear h ho hb hv hlate hK
 show Calls Tryz.prog 214 #[.agg #[.int .i64 (its:Nat),.int .i64 (al:Nat)],.pointer (some ⟨bv,0,none⟩),.pointer (some ⟨b,0,none⟩)] _ _
 go_enter Tryz.func214,Tryz.ntmps214
 go_wp2_with fail
 refine (H.out).mono ?_
 rintro r w1 ⟨rfl,k1,rfl⟩
 have HK1:=hide (HK.out.drewN k1)
 clear HK H c0
 go_wp2
 go_ret
 exact ⟨rfl,HK1.out⟩
set_option maxHeartbeats 1000000 in
set_option maxRecDepth 100000 in
theorem v_cntThrough {w:World} {sv:Value} {fs:List Value} {xs:List Sel} {B:Nat} (ho:w.ownsRow B 242 1 sv fs.length fs) (hj:fs.length≤1000) (hl:xs.length=fs.length)
 (h:∀i (h1:i<fs.length) (h2:i<xs.length),∀w',Keeps w w'→TakV w' fs[i] xs[i]) {b:Nat} (hb:Blk w b #[sv] 241):CounterV w (.func (.func 212) #[] #[.pointer (some ⟨b,0,none⟩)]) true xs:=by
 refine ⟨_,_,rfl,fun _ _=>Tryz.call212 _ _,fun its al h1 h2 bv pb c pk i L svp hv hlate=>?_⟩
 have c0:w.cell? ⟨b,0,none⟩=some sv:=hb.cell 0
 obtain ⟨v0,vcp,rfl⟩:=own_slice ho
 obtain ⟨W,hW⟩:∃W,W=w.alloc (.cells #[.int .i64 (its:Nat),.int .i64 (al:Nat)] 200):=⟨_,rfl⟩
 have hK:Keeps w W:=by rw [hW]; exact (Fr.refl _ w).alloc _
 simp only [if_true] at hlate ⊢
 have H:=hide (v_taken (own_fr ho hK (fun _ _ x=>x)) hj hl (fun k k1 k2=>h k k1 k2 W hK) al h2 (hv.keep hK) (fun x=>(hlate x).keep hK) 0)
 have HK:=hide hK
 have hbw:b<w.heap.size:=hb.lt
 subst hW
 clear h ho hb hv hlate hK
 show Calls Tryz.prog 212 #[.agg #[.int .i64 (its:Nat),.int .i64 (al:Nat)],.pointer (some ⟨bv,0,none⟩),.pointer (some ⟨b,0,none⟩)] _ _
 go_enter Tryz.func212,Tryz.ntmps212
 go_wp2_with fail
 refine (H.out).mono ?_
 rintro r w1 ⟨rfl,k1,rfl⟩
 have HK1:=hide (HK.out.drewN k1)
 clear HK H c0
 go_wp2
 go_ret
 exact ⟨rfl,HK1.out⟩
end Go.Proofs.YtcbadebjpogmlaaGreatDoor
