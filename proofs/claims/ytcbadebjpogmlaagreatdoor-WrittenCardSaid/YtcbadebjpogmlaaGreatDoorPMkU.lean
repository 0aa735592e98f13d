import Derived.Test.YtcbadebjpogmlaaGreatDoorPMkS
import Derived.Test.YtcbadebjpogmlaaGreatDoorPVa
import Derived.Test.YtcbadebjpogmlaaGreatDoorPVg
import Derived.Laws.EntriesVeiled
import Derived.Deep.RegionLaw
import Derived.Deep.AppendLies
namespace Go.Proofs.YtcbadebjpogmlaaGreatDoor
open Go.RowKit Tr
theorem infoSel:(Tryz.prog.info? 239).map (fun i=>(i.zero,i.size,i.bytes))=some (some (.agg #[.int .i64 0,.string ⟨#[]⟩,.int .i64 0,.int .i64 0,.nilFunc]),5,48):=by kernel_rfl
def selCells (l:List SV):List Value:=l.flatMap SV.cells
def SRow (B:Nat) (xs:List Sel) (D:Nat→Prop) (sv:Value) (l:List SV) (w:World):Prop:=RowG 239 5 SV.cells B (fun i w s=>∀x,xs[i]?=some x→SelIs w s x) D sv l w
def SwL (q:ByteArray) (B a0 a j:Nat) (sv:Value) (wr:World):Prop:=∃l xs D,SRow B xs D sv l wr∧xs.length=j∧l.length=j ∧
 ∀m,pSels (bs q) (m+j) a0 []=if bt (bs q) a=44 then pSels (bs q) m (a+1) xs else ⟨xs,a⟩
structure BrL (g:Nat) (q:ByteArray) (p v:Value) (n:Nat) (w0:World) (B q0 c:Nat) (t:St) (j:Nat) (sv:Value) (wr:World):Prop where
 qt:Qt g q p v n w0 t.p wr
 lv:Live (bs q) q0 (c+j) 9 [] 0 t
 row:SwL q B q0 t.p j sv wr
 gb:g<B
 wb:w0.heap.size≤B
 sz:B≤wr.heap.size
 le:j≤t.p
theorem own_five (w:World) (B:Nat) (s:SV) (hB:B≤w.heap.size):(w.alloc (.cells #[.int .i64 s.k,.string s.nm,.int .i64 s.fr,.int .i64 s.to,s.met] 239)).ownsRow B 239 5 (.slice (some ⟨w.heap.size,0,none⟩) 1 1) 1 (selCells [s]) :=
 ⟨rfl,Or.inr ⟨w.heap.size,1,_,rfl,hB,heap_alloc_new w _,Nat.le_refl _,by unfold maxLen; decide,rfl,rfl⟩⟩
set_option maxHeartbeats 2000000 in
set_option maxRecDepth 100000 in
theorem k_bracketed {w:World} {g:Nat} {q:ByteArray} {txt:List UInt8} {n:Nat} {p v:Value} (hq:q.size≤1000) (hf:FinP (bs q)) (he:Er g w) {c:Nat} {t:St} (h:Mk g q t.p txt n p v w) (hl:txt.length≤100000) (T0:tk q t.p ⟨#[91]⟩=true)
 (hok:Live (bs q) (t.p+1) (c+1) 6 [] 0 { t with p:=t.p+1 }) :
 Calls Tryz.prog 159 #[.pointer (some ⟨g,0,none⟩)] w (fun r w'=>∃(t':St) (j:Nat) (sv p' v':Value) (l:List SV) (xs:List Sel) (D:Nat→Prop),Bnd (bs q) (c+j) (T (bs q) (t.p+1)++sub (bs q) (t.p+1) t'.p) t'∧t.p<t'.p∧j≤q.size∧r=.returned sv ∧
  (SRow w.heap.size xs D sv l w'∧xs.length=j∧l.length=j∧pBr (bs q) t.p=⟨xs,t'.p⟩)∧Mk g q t'.p (txt++sub (bs q) t.p t'.p) n p' v' w'∧Fr (KG g v) w w'):=by
 obtain ⟨i0,hi,hz0,hz1,hz2⟩:=info_parts infoSel
 have HI:=hide hi
 have HZ0:=hide hz0
 have HZ1:=hide hz1
 have HZ2:=hide hz2
 have HE:=hide he
 have HF:=hide hf
 have MM:=hide h
 have L:=hide hok
 have c1:w.cell? ⟨g,1,none⟩=some (.int .i64 (t.p:Nat)):=h.b.cell 1
 have htq0:=h.le
 clear h hok he hf hi hz0 hz1 hz2
 go_enter Tryz.func159,Tryz.ntmps159
 go_wp2_with fail
 refine (c_yes MM.out.qt hq _ T0 (t.p+1) rfl).mono ?_
 rintro r w1 ⟨rfl,h1⟩
 have H1:=hide h1
 clear h1 c1
 go_wp2_with fail
 refine (k_selector (t:={ t with p:=t.p+1 }) hq HF.out HE.out L.out H1.out).mono ?_
 rintro r w2 ⟨t2,s2,D2,hl2,hp2,rfl,hft2,hok2,h2⟩
 have S:Hid (BrL g q p v n w w.heap.size (t.p+1) c t2 1 (.slice (some ⟨w2.heap.size,0,none⟩) 1 1) (w2.alloc (.cells #[.int .i64 s2.k,.string s2.nm,.int .i64 s2.fr,.int .i64 s2.to,s2.met] 239))):=by
  refine ⟨h2.alloc _,hl2,⟨[s2],[(pSel (bs q) (t.p+1)).v],D2,RowG.one (hft2.low H1.out.f.size) (fun w' s x he=>?_) (own_five w2 _ s2 h2.f.size),rfl,rfl,fun m=>?_⟩,MM.out.b.lt,Nat.le_refl _,by have:=h2.f.size; simp; omega,by have:=hl2.ge; omega⟩
  ·simp at he; subst he; exact hok2 w' s
  show pSels (bs q) (m+1) (t.p+1) []=_
  rw [pSels,hp2]
  rfl
 obtain ⟨k2,nm2,fr2,to2,met2,hm2⟩:=s2
 simp only [SV.agg] at S ⊢
 clear hft2 hok2 hp2
 clear h2 hl2 H1 L
 go_wp2_with fail
 go_loopw [4] (fun sv wr=>∃(t1:St) (j:Nat),BrL g q p v n w w.heap.size (t.p+1) c t1 j sv wr) (fun _ wr=>q.size - mA g wr)
 case atStart=>exact ⟨t2,1,S.out⟩
 case round =>
  clear S
  obtain ⟨t3,j,hS⟩:=hrel
  have S:=hide hS
  have hjt:=hS.le
  have htq:t3.p≤q.size:=hS.qt.le
  have hge:t.p+1≤t3.p:=hS.lv.ge
  have HM:=hide hS.qt.mA
  obtain ⟨l,xs,D,hrow,hxl,hll,hps⟩:=hS.row
  obtain ⟨ao,cp,hse⟩:=own_slice hrow.o
  rw [hll] at hse
  subst hse
  have R:=hide hrow
  have HXL:=hide hxl
  have HLL:=hide hll
  have HPS:=hide hps
  have e0:=hS.lv.e0
  clear hS hrow hxl hll hps
  by_cases h1:sees (bs q) t3 44=true
  ·have T1:tk q t3.p ⟨#[44]⟩=true:=(tk1 q e0 44).trans h1
   have L1:=hide (fin_live HF.out (sel_comma (Or.inl S.out.lv) h1))
   have B44:=hide (sees_b h1)
   clear h1 e0
   go_wp2_with fail
   refine (c_yes S.out.qt.here hq _ T1 (t3.p+1) rfl).mono ?_
   rintro r w4 ⟨rfl,h4⟩
   have H4:=hide h4
   clear h4
   have E2:=hide (HE.out.keep S.out.qt.f)
   go_wp2_with fail
   refine (k_selector (t:=adv t3) hq HF.out E2.out L1.out.rebase H4.out).mono ?_
   rintro r w5 ⟨t5,s5,D5,hl5,hp5,rfl,hft5,hok5,h5⟩
   have FT5:=hide (hft5.low H4.out.f.size)
   have OK5:=hide hok5
   have PS5:Hid (∀m,pSels (bs q) (m+(j+1)) (t.p+1) []=if bt (bs q) t5.p=44 then pSels (bs q) m (t5.p+1) (xs++[(pSel (bs q) (t3.p+1)).v]) else ⟨xs++[(pSel (bs q) (t3.p+1)).v],t5.p⟩):=fun m=>by
    rw [show m+(j+1)=(m+1)+j by omega,HPS.out (m+1),if_pos B44.out,pSels,show (pSel (bs q) (t3.p+1)).p=t5.p from hp5]
   clear hft5 hok5 hp5
   obtain ⟨k5,nm5,fr5,to5,met5,hm5⟩:=s5
   simp only [SV.agg]
   have hkt:t3.p+1≤t5.p:=hl5.ge
   have hkq:=h5.le
   have L5:Hid (Live (bs q) (t.p+1) (c+(j+1)) 9 [] 0 t5):=L1.out.unbase hl5
   have H5:=hide h5
   have V5:Hid (∀u ∈ [Value.int .i64 k5,.string nm5,.int .i64 fr5,.int .i64 to5,met5],u.oneCell'=true):=(SV.mk k5 nm5 fr5 to5 met5 hm5).one
   have M5:=hide hm5
   have OK6:Hid (OkD D5 w5 (fun w=>SelIs w ⟨k5,nm5,fr5,to5,met5,M5.out⟩ (pSel (bs q) (t3.p+1)).v)):=OK5.out
   clear h5 hl5 H4 L1 OK5 hm5
   have hown5:w5.ownsRow w.heap.size 239 5 (.slice ao j cp) j (selCells l):=own_fr (HLL.out▸R.out.o) H5.out.f (fun k hk e=>by have:=S.out.gb; omega)
   have hB5:w.heap.size≤w5.heap.size:=Nat.le_trans S.out.sz H5.out.f.size
   go_wp2_with (at_builtin; refine wpList_append_own_at _ rfl _ _ 210 rfl w.heap.size 239 i0 _ 5 48 Tryz.underlying210 HI.out HZ0.out HZ1.out HZ2.out rfl (by decide) _ _ _ rfl (hown5.alloc _) ⟨w5.heap.size,0,none⟩ 1 1 [.int .i64 k5,.string nm5,.int .i64 fr5,.int .i64 to5,met5] rfl rfl ?c1 ?c2 ?c3 ?c4 ?c5 ?_)
   case c1 =>
    intro j u hj
    match j,hj with
    | 0,hj=>simp at hj; subst hj; simp [Addr.add]
    | 1,hj=>simp at hj; subst hj; simp [Addr.add]
    | 2,hj=>simp at hj; subst hj; simp [Addr.add]
    | 3,hj=>simp at hj; subst hj; simp [Addr.add]
    | 4,hj=>simp at hj; subst hj; simp [Addr.add]
   case c2=>exact V5.out
   case c3=>unfold maxLen; omega
   case c4=>omega
   case c5=>simp; omega
   intro v' w6 hown6 hgrow _ hvb
   have RR:SwL q w.heap.size (t.p+1) t5.p (j+1) v' w6:=by
    have R1:SRow w.heap.size xs D (.slice ao j cp) l (w5.alloc (.cells #[.int .i64 k5,.string nm5,.int .i64 fr5,.int .i64 to5,met5] 239)):=RowG.fr R.out (H5.out.alloc _).f (fun k hk e=>by have:=S.out.gb; omega)
    have R2:RowG 239 5 SV.cells w.heap.size (fun i w s=>∀x,(xs++[(pSel (bs q) (t3.p+1)).v])[i]?=some x→SelIs w s x) D (.slice ao j cp) l (w5.alloc (.cells #[.int .i64 k5,.string nm5,.int .i64 fr5,.int .i64 to5,met5] 239)) :=
     ⟨R1.o,R1.ft,R1.ne,fun i hi w' s x he=>R1.ok i hi w' s x (by rw [List.getElem?_append_left (by have:=HXL.out; have:=HLL.out; omega)] at he; exact he)⟩
    refine ⟨l++[⟨k5,nm5,fr5,to5,met5,M5.out⟩],xs++[(pSel (bs q) (t3.p+1)).v],fun k=>D k∨D5 k,?_,by simp [HXL.out],by simp [HLL.out],PS5.out⟩
    refine R2.push (A:=wr.heap.size) (fun k hk=>(R.out.o.lt k hk).2) S.out.sz (FT5.out.keep (Sm.alloc FT5.out _)) (fun w' s x he=>?_) (by rw [HLL.out]; exact hown6) hgrow (by simpa using hvb)
    rw [HLL.out,← HXL.out] at he
    simp at he
    subst he
    exact (OK6.out.keep (Sm.alloc FT5.out _)) w' s
   have S2:Hid (BrL g q p v n w w.heap.size (t.p+1) c t5 (j+1) v' w6) :=
    ⟨(S.out.qt.join (H5.out.alloc _)).grown hgrow (fun k hk=>(hown5.lt k hk).1) S.out.gb S.out.wb,L5.out,RR,S.out.gb,S.out.wb,Nat.le_trans hB5 (Nat.le_trans (by simp) hgrow.size),by omega⟩
   clear RR
   clear hown6 hgrow hown5
   go_wp2
   go_roundw
   case rel=>exact ⟨_,_,S2.out⟩
   case measure =>
    have m1:mA g wr=t3.p:=HM.out
    have m2:mA g w6=t5.p:=S2.out.qt.mA
    rw [m1,m2]
    omega
  have h1:sees (bs q) t3 44=false:=by simpa using h1
  have T1:=tk_ne (sign:=⟨#[44]⟩) e0 rfl h1
  have a1:=sel_close (Or.inl S.out.lv) h1
  have a2:Bnd (bs q) (c+j) (T (bs q) (t.p+1)++sub (bs q) (t.p+1) (must (bs q) t3 [93]).p) (must (bs q) t3 [93]):=a1.resolve_right (fun b=>fin_bad HF.out b)
  obtain ⟨T2,e2⟩:=tk_must (sign:=⟨#[93]⟩) a2.e0
  rw [show [93]=nb ⟨#[93]⟩ from rfl,e2] at a2
  have A2:=hide a2
  have NB:=hide (sees_nb e0 h1)
  clear h1 e0 a1 a2 e2
  go_wp2_with fail
  refine (c_no S.out.qt.here hq _ T1).mono ?_
  rintro r w4 ⟨rfl,h4⟩
  have H4:=hide h4
  clear h4
  go_wp2_with fail
  refine (c_yes H4.out hq _ T2 (t3.p+1) rfl).mono ?_
  rintro r w5 ⟨rfl,h5⟩
  have H5:=hide (S.out.qt.join h5)
  have R5:Hid (SRow w.heap.size xs D (.slice ao j cp) l w5):=RowG.fr R.out h5.f (fun k hk e=>by have:=S.out.gb; omega)
  clear h5 H4
  have M5:=hide (MM.out.step H5.out)
  have F5:Hid (Fr (KG g v) w w5):=KG.of H5.out.f
  have d0:w5.cell? ⟨g,0,none⟩=some (.string q):=M5.out.b.cell 0
  have d1:w5.cell? ⟨g,1,none⟩=some (.int .i64 ((t3.p+1:Nat):Int)):=M5.out.b.cell 1
  have hle5:t3.p+1≤q.size:=M5.out.le
  simp at d1
  go_wp2_with fail
  have MD:Hid (Mk g q (t3.p+1) txt n p v w5.drew):=⟨M5.out.b,M5.out.o,M5.out.row,M5.out.le⟩
  have HZ:=hide (show txt.length+(q.extract t.p (t3.p+1)).size≤1000000 by simp [ByteArray.size_extract]; omega)
  go_region_with (go_at_call 86; refine (c_write MD.out _ HZ.out).mono ?_; rintro r w6 ⟨rfl,p6,v6,h6,f6⟩)
  all_goals
   rw [bs_extract] at h6
   have M6:=hide h6
   have F6:=hide (F5.out.drew.trans f6)
   have hne:∀k,w.heap.size≤k→¬KG g v k:=fun k hk x=>by have:=MM.out.lt k x; omega
   have R6:Hid (SRow w.heap.size xs D (.slice ao j cp) l w6):=RowG.fr (RowG.fr (w':=w5.drew) R5.out (K:=fun _=>False) (Fr.refl _ w5).drew (fun _ _ x=>x)) f6 hne
   clear h6 f6
   go_wp2
   go_ret
   have hbr:pBr (bs q) t.p=⟨xs,t3.p+1⟩:=by
    unfold pBr
    rw [bs_len,show q.size+1=(q.size+1 - j)+j by omega,HPS.out,if_neg NB.out]
   exact ⟨{ t3 with p:=t3.p+1 },j,_,p6,v6,l,xs,D,A2.out,by show t.p<t3.p+1; omega,by omega,rfl,⟨R6.out,HXL.out,HLL.out,hbr⟩,M6.out,F6.out⟩
end Go.Proofs.YtcbadebjpogmlaaGreatDoor
namespace Go.Proofs.YtcbadebjpogmlaaGreatDoor
open Go.RowKit Tr
theorem selCells_at (l:List SV) (i c:Nat) (hc:c<5) (h:i<l.length):(selCells l)[i * 5+c]?=(l[i]).cells[c]?:=by
 induction l generalizing i with
 | nil=>cases h
 | cons a l ih =>
  have e:selCells (a::l)=a.cells++selCells l:=rfl
  have ea:a.cells.length=5:=rfl
  rw [e]
  cases i with
  | zero=>rw [List.getElem?_append_left (by omega)]; simp
  | succ i =>
   rw [List.getElem?_append_right (by omega),ea,show (i+1) * 5+c - 5=i * 5+c by omega,ih i (by simpa using h)]
   simp
def FnV (B:Nat) (D0:Nat→Prop) (w:World) (P:World→Value→Prop) (r:Ending) (w':World):Prop:=(∃f D,r=.returned f∧(∀k,D k→D0 k∨w.heap.size≤k)∧Ft D B w'∧OkD D w' (fun w''=>P w'' f))∧Below w.heap.size w w'
set_option maxHeartbeats 1000000 in
theorem tk_1 {B:Nat} {w:World} {nm:ByteArray} {fr to:Int} {met:Value} (hm:met=.nilFunc∨∃f x y,met=.func f x y) {x:Sel} (hB:B≤w.heap.size) (hx:x.sort=2) (hn:x.name=bs nm) :
 Calls Tryz.prog 161 #[.agg #[.int .i64 1,.string nm,.int .i64 fr,.int .i64 to,met]] w (FnV B (fun _=>False) w (fun w f=>TakV w f x)):=by
 rcases hm with rfl | ⟨f,y,z,rfl⟩
 all_goals
  go_enter Tryz.func161,Tryz.ntmps161
  go_wp2
  go_ret
  refine ⟨⟨_,fun k=>k=w.heap.size,rfl,fun k hk=>Or.inr (by omega),Ft.one (Blk.new _ _ _) (by decide) hB,fun w'' s=>?_⟩,((Fr.refl (fun _=>False) w).alloc _).below⟩
  exact vt_named ⟨(Blk.new w _ _).sm s rfl⟩ x hx hn
set_option maxHeartbeats 1000000 in
theorem tk_2 {B:Nat} {w:World} {nm:ByteArray} {fr to:Int} {met:Value} (hm:met=.nilFunc∨∃f x y,met=.func f x y) {x:Sel} (hB:B≤w.heap.size) (hx:x.sort=3) (hn:x.n=fr) (h0:0≤fr) :
 Calls Tryz.prog 161 #[.agg #[.int .i64 2,.string nm,.int .i64 fr,.int .i64 to,met]] w (FnV B (fun _=>False) w (fun w f=>TakV w f x)):=by
 rcases hm with rfl | ⟨f,y,z,rfl⟩
 all_goals
  go_enter Tryz.func161,Tryz.ntmps161
  go_wp2
  go_ret
  refine ⟨⟨_,fun k=>k=w.heap.size,rfl,fun k hk=>Or.inr (by omega),Ft.one (Blk.new _ _ _) (by decide) hB,fun w'' s=>?_⟩,((Fr.refl (fun _=>False) w).alloc _).below⟩
  exact vt_count ⟨(Blk.new w _ _).sm s rfl⟩ x hx hn h0
set_option maxHeartbeats 1000000 in
theorem tk_3 {B:Nat} {w:World} {nm:ByteArray} {fr to:Int} {met:Value} (hm:met=.nilFunc∨∃f x y,met=.func f x y) {x:Sel} (hB:B≤w.heap.size) (hx:x.sort=3) (hn:x.n=-fr) (h0:0<fr∧fr≤1000) :
 Calls Tryz.prog 161 #[.agg #[.int .i64 3,.string nm,.int .i64 fr,.int .i64 to,met]] w (FnV B (fun _=>False) w (fun w f=>TakV w f x)):=by
 rcases hm with rfl | ⟨f,y,z,rfl⟩
 all_goals
  go_enter Tryz.func161,Tryz.ntmps161
  go_wp2
  go_ret
  refine ⟨⟨_,fun k=>k=w.heap.size,rfl,fun k hk=>Or.inr (by omega),Ft.one (Blk.new _ _ _) (by decide) hB,fun w'' s=>?_⟩,((Fr.refl (fun _=>False) w).alloc _).below⟩
  exact vt_end ⟨(Blk.new w _ _).sm s rfl⟩ x hx hn h0
set_option maxHeartbeats 1000000 in
theorem tk_4 {B:Nat} {w:World} {nm:ByteArray} {fr to:Int} {met:Value} (hm:met=.nilFunc∨∃f x y,met=.func f x y) {x:Sel} (hB:B≤w.heap.size) (hx:x.sort=4) (hf:x.frm=fr) (ht:(x.to<0∧4000000<to)∨(0≤x.to∧x.to=to)) :
 Calls Tryz.prog 161 #[.agg #[.int .i64 4,.string nm,.int .i64 fr,.int .i64 to,met]] w (FnV B (fun _=>False) w (fun w f=>TakV w f x)):=by
 rcases hm with rfl | ⟨f,y,z,rfl⟩
 all_goals
  go_enter Tryz.func161,Tryz.ntmps161
  go_wp2
  go_ret
  refine ⟨⟨_,fun k=>k=w.heap.size,rfl,fun k hk=>Or.inr (by omega),Ft.one (Blk.new _ _ _) (by decide) hB,fun w'' s=>?_⟩,((Fr.refl (fun _=>False) w).alloc _).below⟩
  exact vt_piece ⟨(Blk.new w _ _).sm s rfl⟩ x hx hf ht
set_option maxHeartbeats 1000000 in
theorem tk_0 {B:Nat} {w:World} {nm:ByteArray} {fr to:Int} {met:Value} (hm:met=.nilFunc∨∃f x y,met=.func f x y) {x:Sel} (hx:x.sort=1) :
 Calls Tryz.prog 161 #[.agg #[.int .i64 0,.string nm,.int .i64 fr,.int .i64 to,met]] w (FnV B (fun _=>False) w (fun w f=>TakV w f x)):=by
 rcases hm with rfl | ⟨f,y,z,rfl⟩
 all_goals
  go_enter Tryz.func161,Tryz.ntmps161
  go_wp2
  go_ret
  exact ⟨⟨_,fun _=>False,rfl,fun k hk=>hk.elim,Ft.none _ _,fun w'' s=>vt_every w'' x hx⟩,((Fr.refl (fun _=>False) w).alloc _).below⟩
set_option maxHeartbeats 1000000 in
theorem tk_5 {B:Nat} {w:World} {nm:ByteArray} {fr to:Int} {met:Value} {D:Nat→Prop} {x:Sel} (ft:Ft D B w) (ok:OkD D w (fun w=>CondV w met x.wh)) (hx:x.sort=5) :
 Calls Tryz.prog 161 #[.agg #[.int .i64 5,.string nm,.int .i64 fr,.int .i64 to,met]] w (FnV B D w (fun w f=>TakV w f x)):=by
 obtain ⟨N,cap,rfl,_,_⟩:=ok.self
 have FT:=hide ft
 have OK:=hide ok
 clear ft ok
 go_enter Tryz.func161,Tryz.ntmps161
 go_wp2
 go_ret
 have s1:=Sm.alloc FT.out (.cells #[.int .i64 5,.string nm,.int .i64 fr,.int .i64 to,.func (.func N) #[] cap] 239)
 exact ⟨⟨_,D,rfl,fun k hk=>Or.inl hk,FT.out.keep s1,fun w'' s=>vt_where (OK.out w'' (s1.trans s)) x hx rfl⟩,((Fr.refl (fun _=>False) w).alloc _).below⟩
theorem FnV.more {B:Nat} {D0 D1:Nat→Prop} {w:World} {P:World→Value→Prop} (hd:∀k,D0 k→D1 k) {r:Ending} {w':World} (h:FnV B D0 w P r w'):FnV B D1 w P r w':=by
 obtain ⟨⟨f,D,h1,h2,h3⟩,h4⟩:=h
 exact ⟨⟨f,D,h1,fun k hk=>(h2 k hk).imp (hd k) id,h3⟩,h4⟩
theorem m_taking {B:Nat} {w:World} {s:SV} {x:Sel} {D:Nat→Prop} (ft:Ft D B w) (ok:OkD D w (fun w=>SelIs w s x)) (hB:B≤w.heap.size) :
 Calls Tryz.prog 161 #[s.agg] w (FnV B D w (fun w f=>TakV w f x)):=by
 have h:=ok.self
 obtain ⟨k,nm,fr,to,met,hm⟩:=s
 unfold SV.agg
 rcases h with ⟨h1,h2⟩ | ⟨h1,h2,h3⟩ | ⟨h1,h2,h3,h4⟩ | ⟨h1,h2,h3,h4⟩ | ⟨h1,h2,h3,h4⟩ | ⟨h1,h2,h3⟩
 ·obtain rfl:k=0:=h2
  exact (tk_0 hm h1).mono (fun _ _=>FnV.more (fun _ h=>h.elim))
 ·obtain rfl:k=1:=h2
  exact (tk_1 hm hB h1 h3).mono (fun _ _=>FnV.more (fun _ h=>h.elim))
 ·obtain rfl:k=2:=h2
  exact (tk_2 hm hB h1 h3 h4).mono (fun _ _=>FnV.more (fun _ h=>h.elim))
 ·obtain rfl:k=3:=h2
  exact (tk_3 hm hB h1 h3 h4).mono (fun _ _=>FnV.more (fun _ h=>h.elim))
 ·obtain rfl:k=4:=h2
  exact (tk_4 hm hB h1 h3 h4).mono (fun _ _=>FnV.more (fun _ h=>h.elim))
 obtain rfl:k=5:=h2
 refine tk_5 ft (fun w' s=>?_) h1
 rcases ok w' s with ⟨a,_⟩ | ⟨a,_⟩ | ⟨a,_⟩ | ⟨a,_⟩ | ⟨a,_⟩ | ⟨_,_,h⟩
 ·rw [h1] at a; cases a
 ·rw [h1] at a; cases a
 ·rw [h1] at a; cases a
 ·rw [h1] at a; cases a
 ·rw [h1] at a; cases a
 exact h
theorem late_eq {w:World} {s:SV} {x:Sel} (h:SelIs w s x):(s.k == 3 || s.k == 5)=x.late:=by
 rcases h with ⟨h1,h2⟩ | ⟨h1,h2,h3⟩ | ⟨h1,h2,h3,h4⟩ | ⟨h1,h2,h3,h4⟩ | ⟨h1,h2,h3,h4⟩ | ⟨h1,h2,h3⟩
 ·simp [Sel.late,h1,h2]
 ·simp [Sel.late,h1,h2]
 ·simp [Sel.late,h1,h2]; omega
 ·simp [Sel.late,h1,h2]; omega
 ·simp [Sel.late,h1,h2]
 simp [Sel.late,h1,h2]
set_option maxHeartbeats 2000000 in
theorem m_late {w:World} {s:SV} {x:Sel} (h:SelIs w s x):Calls Tryz.prog 162 #[s.agg] w fun r w'=>r=.returned (.bool x.late)∧Below w.heap.size w w':=by
 rw [← late_eq h]
 clear h
 obtain ⟨k,nm,fr,to,met,hm⟩:=s
 unfold SV.agg
 simp only
 clear hm
 by_cases h3:k=3
 ·subst h3
  go_enter Tryz.func162,Tryz.ntmps162
  go_wp2
  go_ret
  exact ⟨rfl,((Fr.refl (fun _=>False) w).alloc _).below⟩
 have e3:(k == 3)=false:=by simpa using h3
 rw [e3]
 go_enter Tryz.func162,Tryz.ntmps162
 go_wp2
 go_ret
 exact ⟨rfl,((Fr.refl (fun _=>False) w).alloc _).below⟩
theorem Ft.up {D:Nat→Prop} {B:Nat} {w w':World} (h:Ft D B w) (f:Keeps w w'):Sm D w w':=Sm.fr h f (fun _ _ x=>x)
theorem m_takeThroughout {B:Nat} {w:World} {f:Value} {F:Tv→List Tv} {D:Nat→Prop} (ft:Ft D B w) (ok:OkD D w (fun w=>TakerV w f F)) (hB:B≤w.heap.size):Calls Tryz.prog 163 #[f] w (FnV B D w (fun w f=>TakerV w f (fun t=>(allT 10 t).flatMap F))):=by
 obtain ⟨N,cap,rfl,_,_⟩:=ok.self
 have FT:=hide ft
 have OK:=hide ok
 clear ft ok
 go_enter Tryz.func163,Tryz.ntmps163
 go_wp2
 go_ret
 have s1:∀(o o':Obj),Sm D w ((w.alloc o).alloc o'):=fun o o'=>Sm.fr (K:=fun _=>False) FT.out (((Fr.refl _ w).alloc o).alloc o') (fun _ _ x=>x)
 have b1:=(Blk.new w #[.func (.func N) #[] cap] 124).alloc (.cells #[.func (.func 210) #[] #[.pointer (some ⟨w.heap.size,0,none⟩),.pointer (some ⟨w.heap.size+1,0,none⟩)]] 124)
 have b2:=Blk.new (w.alloc (.cells #[.func (.func N) #[] cap] 124)) #[.func (.func 210) #[] #[.pointer (some ⟨w.heap.size,0,none⟩),.pointer (some ⟨w.heap.size+1,0,none⟩)]] 124
 have e2:(w.alloc (.cells #[.func (.func N) #[] cap] 124)).heap.size=w.heap.size+1:=by simp
 rw [e2] at b2
 refine ⟨⟨_,fun x=>(D x∨x=w.heap.size)∨x=w.heap.size+1,rfl,fun k hk=>?_,((FT.out.keep (s1 _ _)).or (Ft.one b1 (by decide) hB)).or (Ft.one b2 (by decide) (by omega)),fun w'' s=>?_⟩,((Fr.refl (fun _=>False) w).alloc _ |>.alloc _).below⟩
 ·rcases hk with (hk | hk) | hk
  ·exact Or.inl hk
  ·exact Or.inr (by omega)
  exact Or.inr (by omega)
 exact v_through (OK.out w'' ((s1 _ _).trans (s.less (fun _ x=>Or.inl (Or.inl x))))) (b1.sm s (Or.inl (Or.inr rfl))) (b2.sm s (Or.inr rfl))
theorem m_takeDirect {B:Nat} {w:World} {sv:Value} {fs:List Value} {D:Nat→Prop} {xs:List Sel} (h:Row 242 B (fun i w f=>∀x,xs[i]?=some x→TakV w f x) D sv fs w) (hl:xs.length=fs.length) (hj:fs.length≤1000) (hB:B≤w.heap.size):Calls Tryz.prog 164 #[sv] w (FnV B (fun k=>D k∨sv.ownBlock=some k) w (fun w f=>TakerV w f (dirS xs))):=by
 obtain ⟨ao,cp,hs⟩:=own_slice h.o
 obtain ⟨j,hjj⟩:∃j,j=fs.length:=⟨_,rfl⟩
 rw [← hjj] at hs
 subst hs
 have H:=hide h
 have HL:=hide hl
 have HJ:=hide hj
 clear h hl hj hjj
 go_enter Tryz.func164,Tryz.ntmps164
 go_wp2
 go_ret
 have ft:=H.out.ftr (by decide)
 have ft1:=(ft.keep (Sm.alloc ft _)).or (Ft.one (Blk.new w #[.slice ao j cp] 241) (by decide) hB)
 refine ⟨⟨_,fun x=>(D x∨(.slice ao j cp:Value).ownBlock=some x)∨x=w.heap.size,rfl,fun k hk=>hk.imp id (fun e=>by omega),ft1,fun w'' s=>?_⟩,((Fr.refl (fun _=>False) w).alloc _).below⟩
 have s1:=(Sm.alloc ft _).trans (s.less (fun _=>Or.inl))
 have ft2:=ft1.keep s
 exact v_direct (own_at' H.out.o (fun k hk=>s1 k (Or.inr hk))) HJ.out HL.out (fun i h1 h2 w3 hk3=>H.out.ok i h1 w3 ((s1.less (fun _=>Or.inl)).trans ((ft2.up hk3).less (fun _ x=>Or.inl (Or.inl x)))) _ (List.getElem?_eq_getElem h2)) ((Blk.new w _ _).sm s (Or.inr rfl))
theorem m_countDirect {B:Nat} {w:World} {sv:Value} {fs:List Value} {D:Nat→Prop} {xs:List Sel} (h:Row 242 B (fun i w f=>∀x,xs[i]?=some x→TakV w f x) D sv fs w) (hl:xs.length=fs.length) (hj:fs.length≤1000) (hB:B≤w.heap.size):Calls Tryz.prog 166 #[sv] w (FnV B (fun k=>D k∨sv.ownBlock=some k) w (fun w f=>CounterV w f false xs)):=by
 obtain ⟨ao,cp,hs⟩:=own_slice h.o
 obtain ⟨j,hjj⟩:∃j,j=fs.length:=⟨_,rfl⟩
 rw [← hjj] at hs
 subst hs
 have H:=hide h
 have HL:=hide hl
 have HJ:=hide hj
 clear h hl hj hjj
 go_enter Tryz.func166,Tryz.ntmps166
 go_wp2
 go_ret
 have ft:=H.out.ftr (by decide)
 have ft1:=(ft.keep (Sm.alloc ft _)).or (Ft.one (Blk.new w #[.slice ao j cp] 241) (by decide) hB)
 refine ⟨⟨_,fun x=>(D x∨(.slice ao j cp:Value).ownBlock=some x)∨x=w.heap.size,rfl,fun k hk=>hk.imp id (fun e=>by omega),ft1,fun w'' s=>?_⟩,((Fr.refl (fun _=>False) w).alloc _).below⟩
 have s1:=(Sm.alloc ft _).trans (s.less (fun _=>Or.inl))
 have ft2:=ft1.keep s
 exact v_cntDirect (own_at' H.out.o (fun k hk=>s1 k (Or.inr hk))) HJ.out HL.out (fun i h1 h2 w3 hk3=>H.out.ok i h1 w3 ((s1.less (fun _=>Or.inl)).trans ((ft2.up hk3).less (fun _ x=>Or.inl (Or.inl x)))) _ (List.getElem?_eq_getElem h2)) ((Blk.new w _ _).sm s (Or.inr rfl))
theorem m_countThroughout {B:Nat} {w:World} {sv:Value} {fs:List Value} {D:Nat→Prop} {xs:List Sel} (h:Row 242 B (fun i w f=>∀x,xs[i]?=some x→TakV w f x) D sv fs w) (hl:xs.length=fs.length) (hj:fs.length≤1000) (hB:B≤w.heap.size):Calls Tryz.prog 165 #[sv] w (FnV B (fun k=>D k∨sv.ownBlock=some k) w (fun w f=>CounterV w f true xs)):=by
 obtain ⟨ao,cp,hs⟩:=own_slice h.o
 obtain ⟨j,hjj⟩:∃j,j=fs.length:=⟨_,rfl⟩
 rw [← hjj] at hs
 subst hs
 have H:=hide h
 have HL:=hide hl
 have HJ:=hide hj
 clear h hl hj hjj
 go_enter Tryz.func165,Tryz.ntmps165
 go_wp2
 go_ret
 have ft:=H.out.ftr (by decide)
 have ft1:=(ft.keep (Sm.alloc ft _)).or (Ft.one (Blk.new w #[.slice ao j cp] 241) (by decide) hB)
 refine ⟨⟨_,fun x=>(D x∨(.slice ao j cp:Value).ownBlock=some x)∨x=w.heap.size,rfl,fun k hk=>hk.imp id (fun e=>by omega),ft1,fun w'' s=>?_⟩,((Fr.refl (fun _=>False) w).alloc _).below⟩
 have s1:=(Sm.alloc ft _).trans (s.less (fun _=>Or.inl))
 have ft2:=ft1.keep s
 exact v_cntThrough (own_at' H.out.o (fun k hk=>s1 k (Or.inr hk))) HJ.out HL.out (fun i h1 h2 w3 hk3=>H.out.ok i h1 w3 ((s1.less (fun _=>Or.inl)).trans ((ft2.up hk3).less (fun _ x=>Or.inl (Or.inl x)))) _ (List.getElem?_eq_getElem h2)) ((Blk.new w _ _).sm s (Or.inr rfl))
end Go.Proofs.YtcbadebjpogmlaaGreatDoor
namespace Go.Proofs.YtcbadebjpogmlaaGreatDoor
open Go.RowKit Tr
theorem infoTaking:(Tryz.prog.info? 242).map (fun i=>(i.zero,i.size,i.bytes))=some (some .nilFunc,1,8):=by kernel_rfl
theorem Row.push2 {T:TypeId} {B:Nat} {P:Nat→World→Value→Prop} {D D2:Nat→Prop} {sv sv':Value} {fs:List Value} {f:Value} {W W':World} (h:Row T B P D sv fs W) (n2:∀k,D2 k→sv.ownBlock≠some k)
 (ft:Ft D2 B W) (ok:OkD D2 W (fun w'=>P fs.length w' f)) (ho:W'.ownsRow B T 1 sv' (fs.length+1) (fs++[f])) (hg:W.grownBy W' sv.ownBlock) (hb:sv'.ownBlock=sv.ownBlock∨sv'.ownBlock=some W.heap.size) :
 Row T B P (fun k=>D k∨D2 k) sv' (fs++[f]) W':=by
 have s1:Sm D W W':=Sm.grown h.ft hg h.ne
 have s2:Sm D2 W W':=Sm.grown ft hg n2
 refine ⟨by simpa using ho,(h.ft.keep s1).or (ft.keep s2),fun k hk e=>?_,fun i hi=>?_⟩
 ·rcases hb with x | x
  ·rw [x] at e
   exact hk.elim (fun y=>h.ne k y e) (fun y=>n2 k y e)
  rw [x] at e
  have e2:W.heap.size=k:=Option.some.inj e
  have:k<W.heap.size:=hk.elim (fun y=>h.ft.lt y) (fun y=>ft.lt y)
  omega
 by_cases hl:i<fs.length
 ·have:=((h.ok i hl).keep s1).more (D':=fun k=>D k∨D2 k) (fun k=>Or.inl)
  rw [show (fs++[f])[i]=fs[i] from List.getElem_append_left hl]
  exact this
 have e:i=fs.length:=by simp at hi; omega
 subst e
 have:=(ok.keep s2).more (D':=fun k=>D k∨D2 k) (fun k=>Or.inr)
 rw [show (fs++[f])[fs.length]=f by simp]
 exact this
structure TdL (w:World) (B:Nat) (xs:List Sel) (D:Nat→Prop) (sv:Value) (fs:List Value) (i:Nat) (wr:World):Prop where
 bl:Below w.heap.size w wr
 bk:Blk wr w.heap.size #[.nilFunc,.nilFunc,.bool false] 128
 row:Row 242 B (fun i w f=>∀x,xs[i]?=some x→TakV w f x) D sv fs wr
 fl:fs.length=i
 nd:∀k,D k→k≠w.heap.size
 nr:∀k,sv.ownBlock=some k→w.heap.size<k
theorem TdL.below {w:World} {B:Nat} {xs:List Sel} {D:Nat→Prop} {sv:Value} {fs:List Value} {i:Nat} {wr w1:World} (h:TdL w B xs D sv fs i wr) (f:Below wr.heap.size wr w1):TdL w B xs D sv fs i w1 :=
 ⟨(((Fr.of_below (K:=fun _=>False) h.bl)).trans (Fr.of_below f)).below,h.bk.fr (Fr.of_below (K:=fun _=>False) f) id,h.row.below f,h.fl,h.nd,h.nr⟩
theorem TdL.alloc {w:World} {B:Nat} {xs:List Sel} {D:Nat→Prop} {sv:Value} {fs:List Value} {i:Nat} {wr:World} (h:TdL w B xs D sv fs i wr) (o:Obj):TdL w B xs D sv fs i (wr.alloc o):=h.below ((Fr.refl (fun _=>False) wr).alloc o).below
theorem TdL.next {w:World} {B:Nat} {xs:List Sel} {D D2:Nat→Prop} {sv sv':Value} {fs:List Value} {i:Nat} {W W':World} {f:Value} {x:Sel} (h:TdL w B xs D sv fs i W) (hx:xs[i]?=some x) (ft:Ft D2 B W) (ok:OkD D2 W (fun w'=>TakV w' f x))
 (n2:∀k,D2 k→k≠w.heap.size∧sv.ownBlock≠some k) (hg:W.grownBy W' sv.ownBlock) (ho:W'.ownsRow B 242 1 sv' (i+1) (fs++[f])) (hb:sv'.ownBlock=sv.ownBlock∨sv'.ownBlock=some W.heap.size) :
 TdL w B xs (fun k=>D k∨D2 k) sv' (fs++[f]) (i+1) W':=by
 have hne:¬sv.ownBlock=some w.heap.size:=fun e=>by have:=h.nr _ e; omega
 have hlt:=h.bk.lt
 refine ⟨?_,(hg.block w.heap.size h.bk.lt (fun e=>hne e.symm)).trans h.bk,h.row.push2 (fun k hk=>(n2 k hk).2) ft (fun w' s x' he=>?_) (by rw [h.fl]; exact ho) hg hb,by simp [h.fl],fun k hk=>hk.elim (h.nd k) (fun y=>(n2 k y).1),fun k hk=>?_⟩
 ·have f1:Fr (fun _=>False) w W':=(Fr.of_below h.bl).grown hg (fun k hk=>Or.inl (by have:=h.nr k hk; omega))
  exact f1.below
 ·rw [h.fl,hx] at he
  cases he
  exact ok w' s
 rcases hb with e | e
 ·rw [e] at hk; exact h.nr k hk
 rw [e] at hk
 have:W.heap.size=k:=Option.some.inj hk
 omega
set_option maxHeartbeats 1000000 in
theorem ret_so {R:Ending→World→Prop} {a:Act} {W:World} {g:Nat} {x0 x1 x2:Value} (hd:a.defers=[]) (ha:a.tmps[4]?.getD undef=.pointer (some ⟨g,0,none⟩))
 (hB:Blk W g #[x0,x1,x2] 128) (hR:R (.returned (.agg #[x0,x1,x2])) W):bodyPost Tryz.prog Tryz.f116 R .ret a W:=by
 have k0:=hB.cell 0
 have k1:=hB.cell 1
 have k2:=hB.cell 2
 simp at k0 k1 k2
 refine bodyPost_ret (v:=.agg #[x0,x1,x2]) ?_ hd hR
 simp [results,Tryz.results116,go_sem,ha,k0,k1,k2]
structure SgV (w:World) (f f':Value) (x:Sg):Prop where
 t:TakerV w f (segS x)
 c:CounterV w f' x.deep x.l
def SgB (B:Nat) (w:World) (x:Sg) (r:Ending) (w':World):Prop:=(∃f f' D,r=.returned (.agg #[f,f',.bool x.late])∧Ft D B w'∧OkD D w' (fun w=>SgV w f f' x))∧Below w.heap.size w w'
theorem any_take {xs:List Sel} {k:Nat} {x:Sel} (h:xs[k]?=some x):(xs.take (k+1)).any Sel.late=((xs.take k).any Sel.late || x.late):=by
 obtain ⟨hk,rfl⟩:=List.getElem?_eq_some_iff.1 h
 rw [List.take_succ_eq_append_getElem hk,List.any_append]
 simp
set_option maxHeartbeats 2000000 in
set_option maxRecDepth 100000 in
theorem m_segmentOf {w:World} {B j cp:Nat} {ao:Option Addr} {l:List SV} {xs:List Sel} {D0:Nat→Prop} (th:Bool) (h:SRow B xs D0 (.slice ao j cp) l w) (hxl:xs.length=j) (hlen:l.length=j) (hj:j≤1000) (hB:B≤w.heap.size) :
 Calls Tryz.prog 116 #[.bool th,.slice ao j cp] w (SgB B w ⟨th,xs⟩):=by
 obtain ⟨i0,hi,hz0,hz1,hz2⟩:=info_parts infoTaking
 have HI:=hide hi
 have HZ0:=hide hz0
 have HZ1:=hide hz1
 have HZ2:=hide hz2
 have HS:=hide h
 have ho0:w.ownsRow B 239 5 (.slice ao j cp) j (selCells l):=hlen▸h.o
 have H:=hide ho0
 have HX:=hide hxl
 clear h hi hz0 hz1 hz2 ho0 hxl
 have S:Hid (TdL w B xs (fun _=>False) (.slice none 0 0) [] 0 (w.alloc (.cells #[.nilFunc,.nilFunc,.bool false] 128))) :=
  ⟨((Fr.refl (fun _=>False) w).alloc _).below,Blk.new _ _ _,Row.nil _ _ _ _,rfl,fun _ h=>h.elim,fun k hk=>by cases hk⟩
 go_enter Tryz.func116,Tryz.ntmps116
 go_wp2
 go_loopw [5,6,8,11] (fun sv lt _ i wr=>∃(k:Nat) (fs:List Value) (D:Nat→Prop),k≤j∧i=.int .i64 k∧lt=.bool ((xs.take k).any Sel.late)∧TdL w B xs D sv fs k wr) (fun _ _ _ i _=>j - (intOf i).toNat)
 case atStart=>exact ⟨0,[],_,Nat.zero_le _,rfl,rfl,S.out⟩
 case round =>
  clear S
  obtain ⟨k,fs,D,hk,rfl,rfl,hS⟩:=hrel
  have S:=hide hS
  clear hS
  by_cases hlt:k<j
  ·obtain ⟨g,cap,hv,hbg,hgl⟩:=H.out.form (by omega)
   simp only [Value.slice.injEq,true_and] at hv
   obtain ⟨rfl,rfl⟩:=hv
   have hgw:∀c:Nat,wr.cell? ⟨g,c,none⟩=w.cell? ⟨g,c,none⟩:=fun c=>S.out.bl.cell (p:=⟨g,c,none⟩) hgl
   have hcell:∀c:Nat,c<5→wr.cell? ⟨g,k * 5+c,none⟩=(l[k]).cells[c]?:=fun c hc=>((hgw _).trans (H.out.cellAt (k * 5+c) (by omega))).trans (selCells_at l k c hc (by omega))
   have kc0:=hcell 0 (by decide)
   have kc1:=hcell 1 (by decide)
   have kc2:=hcell 2 (by decide)
   have kc3:=hcell 3 (by decide)
   have kc4:=hcell 4 (by decide)
   clear hcell hgw
   have hkx:k<xs.length:=by have:=HX.out; omega
   obtain ⟨x,hx⟩:∃x,xs[k]?=some x:=⟨_,List.getElem?_eq_getElem hkx⟩
   have OKS:Hid (OkD D0 w (fun w=>SelIs w l[k] x)):=fun w' s=>HS.out.ok k (by omega) w' s x hx
   have FT0:=hide HS.out.ft
   have HXX:=hide hx
   have HAT:=hide (any_take hx)
   clear hx
   generalize l[k]=s at *
   simp only [SV.cells,List.getElem?_cons_zero,List.getElem?_cons_succ,Nat.add_zero] at kc0 kc1 kc2 kc3 kc4
   have sm:∀W,Below w.heap.size w W→Sm D0 w W:=fun W hb=>Sm.fr (K:=fun _=>False) FT0.out (Fr.of_below hb) (fun _ _ y=>y)
   have TK:Hid (∀W,Below w.heap.size w W→Calls Tryz.prog 161 #[s.agg] W (FnV B D0 W (fun w f=>TakV w f x))):=fun W hb=>m_taking (FT0.out.keep (sm W hb)) (OKS.out.keep (sm W hb)) (Nat.le_trans hB hb.size)
   have LT:Hid (∀W,Below w.heap.size w W→Calls Tryz.prog 162 #[s.agg] W fun r w'=>r=.returned (.bool x.late)∧Below W.heap.size W w'):=fun W hb=>m_late (OKS.out W (sm W hb))
   have D0lt:Hid (∀k,D0 k→k<w.heap.size):=fun k hk=>FT0.out.lt hk
   clear sm OKS FT0
   have hmm:=s.hm
   unfold SV.agg at TK LT
   generalize s.k=sk at *
   generalize s.nm=sn at *
   generalize s.fr=sf at *
   generalize s.to=st at *
   generalize s.met=sm at *
   obtain ⟨b0,k0,hbe⟩:=own_slice S.out.row.o
   rw [S.out.fl] at hbe
   subst hbe
   generalize hlb:(xs.take k).any Sel.late=lb at *
   clear hlb
   rcases hmm with rfl | ⟨f0,x0,y0,rfl⟩
   all_goals
    go_wp2_with fail
    refine (TK.out _ (S.out.alloc _).bl).mono ?_
    rintro r w1 ⟨⟨v1,D1,rfl,hd1,hft1,hok1⟩,hb1⟩
    obtain ⟨N1,cap1,rfl,_,_⟩:=hok1.self
    have S1:=hide ((S.out.alloc _).below hb1)
    have B1:=hide ((Blk.new wr _ 239).fr (Fr.of_below (K:=fun _=>False) hb1) id)
    have hlt1:wr.heap.size<w1.heap.size:=B1.out.lt
    have hsz1:w.heap.size<wr.heap.size:=S.out.bk.lt
    have hne1:Hid ((.slice b0 k k0:Value).ownBlock≠some wr.heap.size):=fun e=>by have:=(S.out.row.o.lt _ e).2; omega
    have ND:Hid (∀q,D1 q→q≠w.heap.size∧(.slice b0 k k0:Value).ownBlock≠some q):=fun q hq=>by
     rcases hd1 q hq with y | y
     ·have y1:=D0lt.out q y
      exact ⟨by omega,fun e=>by have:=S.out.nr q e; omega⟩
     simp at y
     exact ⟨by omega,fun e=>by have:=(S.out.row.o.lt _ e).2; omega⟩
    have FT1:=hide hft1
    have OK1:=hide hok1
    have own1:w1.ownsRow B 242 1 (.slice b0 k k0) k fs:=S1.out.fl▸S1.out.row.o
    clear hb1 kc0 kc1 kc2 kc3 kc4 hd1 hft1 hok1
    go_wp2_with (at_builtin; refine wpList_append_own_at _ rfl _ _ 241 rfl B 242 i0 .nilFunc 1 8 Tryz.underlying241 HI.out HZ0.out HZ1.out HZ2.out rfl (by decide) _ _ _ rfl (own1.alloc _) ⟨w1.heap.size,0,none⟩ 1 1 [.func (.func N1) #[] cap1] rfl rfl ?c1 ?c2 ?c3 ?c4 ?c5 ?_)
    case c1 =>
     intro j u hj
     match j,hj with
     | 0,hj=>simp at hj; subst hj; simp [Addr.add]
    case c2=>intro u hu; simp at hu; subst hu; rfl
    case c3=>unfold maxLen; omega
    case c4=>omega
    case c5=>simp; omega
    intro v' w5 hown5 hgrow _ hvb
    have S5:=hide ((S1.out.alloc _).next HXX.out (FT1.out.keep (Sm.alloc FT1.out _)) (OK1.out.keep (Sm.alloc FT1.out _)) ND.out hgrow hown5 (by simpa using hvb))
    have B5:=hide ((hgrow.block _ (Blk.alloc B1.out _).lt (fun e=>hne1.out e.symm)).trans (Blk.alloc B1.out _))
    obtain ⟨b5,k5,rfl⟩:=own_slice hown5
    clear hown5 hgrow S1 B1 own1
    have z0:=Blk.cell B5.out 0
    have z1:=Blk.cell B5.out 1
    have z2:=Blk.cell B5.out 2
    have z3:=Blk.cell B5.out 3
    have z4:=Blk.cell B5.out 4
    simp at z0 z1 z2 z3 z4
    cases lb
    ·go_wp2_with fail
     refine (LT.out _ S5.out.bl).mono ?_
     rintro r w6 ⟨rfl,hb6⟩
     have S6:=hide (S5.out.below hb6)
     clear hb6 S5 B5 z0 z1 z2 z3 z4
     go_wp2
     go_roundw
     case rel=>exact ⟨k+1,_,_,by omega,by go_num,by rw [HAT.out]; simp,S6.out⟩
     case measure=>simp [intOf]; omega
    go_wp2
    go_roundw
    case rel=>exact ⟨k+1,_,_,by omega,by go_num,by rw [HAT.out]; simp,S5.out⟩
    case measure=>simp [intOf]; omega
  have hkj:k=j:=by omega
  subst hkj
  obtain ⟨b0,k0,hbe⟩:=own_slice S.out.row.o
  rw [S.out.fl] at hbe
  subst hbe
  have hge:w.heap.size<wr.heap.size:=S.out.bk.lt
  have hfl:fs.length=k:=S.out.fl
  have hall:(xs.take k).any Sel.late=Sg.late ⟨th,xs⟩:=by rw [List.take_of_length_le (by have:=HX.out; omega)]; rfl
  rw [hall]
  have hD:Hid (∀q,D q∨(.slice b0 k k0:Value).ownBlock=some q→q≠w.heap.size):=fun q hq=>hq.elim (S.out.nd q) (fun e=>by have:=S.out.nr q e; omega)
  have FF:=hide hfl
  clear hall hfl
  generalize hlb:Sg.late ⟨th,xs⟩=lb at *
  have HLB:=hide hlb
  clear hlb
  cases th
  ·have eS:segS ⟨false,xs⟩=dirS xs:=by funext v; simp [segS]
   have ES:=hide eS
   clear eS
   go_wp2_with fail
   refine (m_takeDirect S.out.row (by have:=HX.out; have:=FF.out; omega) (by have:=FF.out; omega) (by omega)).mono ?_
   rintro r w1 ⟨⟨f1,D1,rfl,hd,hft,hok⟩,hb⟩
   obtain ⟨N1,cap1,rfl,_,_⟩:=hok.self
   have ND1:Hid (∀q,D1 q→q≠w.heap.size):=fun q hq=>(hd q hq).elim (hD.out q) (fun e=>by omega)
   have FT1:=hide hft
   have OK1:=hide hok
   have BB1:=hide hb
   have S1:=hide (S.out.below hb)
   have hge1:w.heap.size<w1.heap.size:=S1.out.bk.lt
   clear hd hft hok hb
   go_wp2_with fail
   refine (m_countDirect S1.out.row (by have:=HX.out; have:=FF.out; omega) (by have:=FF.out; omega) (by omega)).mono ?_
   rintro r w2 ⟨⟨f2,D2,rfl,hd,hft,hok⟩,hb⟩
   obtain ⟨N2,cap2,rfl,_,_⟩:=hok.self
   have ND2:Hid (∀q,D2 q→q≠w.heap.size):=fun q hq=>(hd q hq).elim (hD.out q) (fun e=>by omega)
   have FT2:=hide hft
   have OK2:=hide hok
   have BBc:=hide hb
   have S2:=hide (S1.out.below hb)
   have hge2:w.heap.size<w2.heap.size:=S2.out.bk.lt
   clear hd hft hok hb
   have z0:=S2.out.bk.cell 0
   have z1:=S2.out.bk.cell 1
   have z2:=S2.out.bk.cell 2
   have hfz:=S2.out.bk.fz
   simp at z0 z1 z2
   go_wp2
   refine ret_so rfl rfl (((S2.out.bk.set 0 _).set 1 _).set 2 _) ?_
   have hr:∀{DD:Nat→Prop} (_:∀q,DD q→q≠w.heap.size) {W:World} (x:Sm DD w2 W) (i:Nat) (y:Value),Sm DD w2 (W.setCell ⟨w.heap.size,i,none⟩ y):=fun hn _ x i y k hk=>(Below.heap_setCell _ _ _ _ (by show k≠w.heap.size; exact hn k hk)).trans (x k hk)
   have s5:∀{DD:Nat→Prop} (_:∀q,DD q→q≠w.heap.size) (a b c:Value),Sm DD w2 (((w2.setCell ⟨w.heap.size,0,none⟩ a).setCell ⟨w.heap.size,1,none⟩ b).setCell ⟨w.heap.size,2,none⟩ c):=fun hn a b c=>hr hn (hr hn (hr hn (fun _ _=>rfl) 0 a) 1 b) 2 c
   have sA:=Sm.trans (Sm.fr (K:=fun _=>False) FT1.out (Fr.of_below BBc.out) (fun _ _ y=>y)) (s5 ND1.out (.func (.func N1) #[] cap1) (.func (.func N2) #[] cap2) (.bool lb))
   have sB:=s5 ND2.out (.func (.func N1) #[] cap1) (.func (.func N2) #[] cap2) (.bool lb)
   refine ⟨⟨.func (.func N1) #[] cap1,.func (.func N2) #[] cap2,fun k=>D1 k∨D2 k,by rw [HLB.out],(FT1.out.keep sA).or (FT2.out.keep sB),fun w'' s=>⟨?_,?_⟩⟩,?_⟩
   ·have:=OK1.out w'' (sA.trans (s.less (fun _=>Or.inl)))
    rw [ES.out]; exact this
   ·exact OK2.out w'' (sB.trans (s.less (fun _=>Or.inr)))
   exact ((((Fr.of_below (K:=fun _=>False) S2.out.bl).setCell ⟨w.heap.size,0,none⟩ (Or.inr (Nat.le_refl _)) _).setCell ⟨w.heap.size,1,none⟩ (Or.inr (Nat.le_refl _)) _).setCell ⟨w.heap.size,2,none⟩ (Or.inr (Nat.le_refl _)) _).below
  have eS:segS ⟨true,xs⟩=fun t=>(allT 10 t).flatMap (dirS xs):=by funext v; simp [segS]
  have ES:=hide eS
  clear eS
  go_wp2_with fail
  refine (m_takeDirect S.out.row (by have:=HX.out; have:=FF.out; omega) (by have:=FF.out; omega) (by omega)).mono ?_
  rintro r w1 ⟨⟨f1,D1,rfl,hd,hft,hok⟩,hb⟩
  obtain ⟨N1,cap1,rfl,_,_⟩:=hok.self
  have ND1:Hid (∀q,D1 q→q≠w.heap.size):=fun q hq=>(hd q hq).elim (hD.out q) (fun e=>by omega)
  have FT1:=hide hft
  have OK1:=hide hok
  have BB1:=hide hb
  have S1:=hide (S.out.below hb)
  have hge1:w.heap.size<w1.heap.size:=S1.out.bk.lt
  clear hd hft hok hb
  go_wp2_with fail
  refine (m_takeThroughout FT1.out OK1.out (by omega)).mono ?_
  rintro r w3 ⟨⟨f3,D3,rfl,hd,hft,hok⟩,hb⟩
  obtain ⟨N3,cap3,rfl,_,_⟩:=hok.self
  have ND3:Hid (∀q,D3 q→q≠w.heap.size):=fun q hq=>(hd q hq).elim (ND1.out q) (fun e=>by omega)
  have FT3:=hide hft
  have OK3:=hide hok
  have BB3:=hide hb
  have S3:=hide (S1.out.below hb)
  have hge3:w.heap.size<w3.heap.size:=S3.out.bk.lt
  clear hd hft hok hb
  go_wp2_with fail
  refine (m_countThroughout S3.out.row (by have:=HX.out; have:=FF.out; omega) (by have:=FF.out; omega) (by omega)).mono ?_
  rintro r w2 ⟨⟨f2,D2,rfl,hd,hft,hok⟩,hb⟩
  obtain ⟨N2,cap2,rfl,_,_⟩:=hok.self
  have ND2:Hid (∀q,D2 q→q≠w.heap.size):=fun q hq=>(hd q hq).elim (hD.out q) (fun e=>by omega)
  have FT2:=hide hft
  have OK2:=hide hok
  have BBc:=hide hb
  have S2:=hide (S3.out.below hb)
  have hge2:w.heap.size<w2.heap.size:=S2.out.bk.lt
  clear hd hft hok hb
  have z0:=S2.out.bk.cell 0
  have z1:=S2.out.bk.cell 1
  have z2:=S2.out.bk.cell 2
  have hfz:=S2.out.bk.fz
  simp at z0 z1 z2
  go_wp2
  refine ret_so rfl rfl (((S2.out.bk.set 0 _).set 1 _).set 2 _) ?_
  have hr:∀{DD:Nat→Prop} (_:∀q,DD q→q≠w.heap.size) {W:World} (x:Sm DD w2 W) (i:Nat) (y:Value),Sm DD w2 (W.setCell ⟨w.heap.size,i,none⟩ y):=fun hn _ x i y k hk=>(Below.heap_setCell _ _ _ _ (by show k≠w.heap.size; exact hn k hk)).trans (x k hk)
  have s5:∀{DD:Nat→Prop} (_:∀q,DD q→q≠w.heap.size) (a b c:Value),Sm DD w2 (((w2.setCell ⟨w.heap.size,0,none⟩ a).setCell ⟨w.heap.size,1,none⟩ b).setCell ⟨w.heap.size,2,none⟩ c):=fun hn a b c=>hr hn (hr hn (hr hn (fun _ _=>rfl) 0 a) 1 b) 2 c
  have sA:=Sm.trans (Sm.fr (K:=fun _=>False) FT3.out (Fr.of_below BBc.out) (fun _ _ y=>y)) (s5 ND3.out (.func (.func N3) #[] cap3) (.func (.func N2) #[] cap2) (.bool lb))
  have sB:=s5 ND2.out (.func (.func N3) #[] cap3) (.func (.func N2) #[] cap2) (.bool lb)
  refine ⟨⟨.func (.func N3) #[] cap3,.func (.func N2) #[] cap2,fun k=>D3 k∨D2 k,by rw [HLB.out],(FT3.out.keep sA).or (FT2.out.keep sB),fun w'' s=>⟨?_,?_⟩⟩,?_⟩
  ·have:=OK3.out w'' (sA.trans (s.less (fun _=>Or.inl)))
   rw [ES.out]; exact this
  ·exact OK2.out w'' (sB.trans (s.less (fun _=>Or.inr)))
  exact ((((Fr.of_below (K:=fun _=>False) S2.out.bl).setCell ⟨w.heap.size,0,none⟩ (Or.inr (Nat.le_refl _)) _).setCell ⟨w.heap.size,1,none⟩ (Or.inr (Nat.le_refl _)) _).setCell ⟨w.heap.size,2,none⟩ (Or.inr (Nat.le_refl _)) _).below
end Go.Proofs.YtcbadebjpogmlaaGreatDoor
namespace Go.Proofs.YtcbadebjpogmlaaGreatDoor
open Go.RowKit Tr
theorem Mk.below {g:Nat} {q:ByteArray} {a:Nat} {t:List UInt8} {n:Nat} {p v:Value} {w w':World} (h:Mk g q a t n p v w) (f:Below w.heap.size w w'):Mk g q a t n p v w' :=
 ⟨h.b.fr (Fr.of_below (K:=fun _=>False) f) id,h.o,own_below h.row f,h.le⟩
theorem Mk.setN {g:Nat} {q:ByteArray} {a:Nat} {t:List UInt8} {n:Nat} {p v:Value} {w:World} (h:Mk g q a t n p v w) (n':Nat):Mk g q a t n' p v (w.setCell ⟨g,4,none⟩ (.int .i64 (n':Nat))) :=
 ⟨h.b.set 4 _,h.o,own_fr h.row ((Fr.refl (fun k=>k=g) w).setCell ⟨g,4,none⟩ (Or.inl rfl) _) (fun k hk e=>by omega),h.le⟩
end Go.Proofs.YtcbadebjpogmlaaGreatDoor
