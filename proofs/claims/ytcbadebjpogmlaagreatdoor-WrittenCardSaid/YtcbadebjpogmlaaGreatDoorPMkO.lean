import Derived.Test.YtcbadebjpogmlaaGreatDoorPMkJ
import Derived.Laws.AppendOwn
import Derived.Maps.AppendAt
namespace Go.Proofs.YtcbadebjpogmlaaGreatDoor
open Go.RowKit Tr
theorem infoLead:(Tryz.prog.info? 320).map (fun i=>(i.zero,i.size,i.bytes))=some (some .nilFunc,1,8):=by kernel_rfl
theorem Qt.grown {g:Nat} {q:ByteArray} {p v:Value} {n:Nat} {w0 w w':World} {a B:Nat} {row:Option Nat} (h:Qt g q p v n w0 a w) (hg:w.grownBy w' row) (hr:∀k,row=some k→B≤k) (hgB:g<B) (hwB:w0.heap.size≤B):Qt g q p v n w0 a w' :=
 ⟨(hg.block g h.b.lt (fun e=>by have:=hr g e.symm; omega)).trans h.b,h.f.grown hg (fun k hk=>Or.inl (by have:=hr k hk; omega)),h.le⟩
def RwL (q:ByteArray) (B a0 a j:Nat) (sv:Value) (wr:World):Prop:=∃fs l D,Row 320 B (fun i w f=>∀st,l[i]?=some st→StepV w f st) D sv fs wr∧l.length=j∧fs.length=j∧pSteps (bs q) (q.size+1) a0 []=pSteps (bs q) (q.size+1 - j) a l
theorem RwL.fr {q:ByteArray} {B a0 a j:Nat} {sv:Value} {wr w':World} (h:RwL q B a0 a j sv wr) {K:Nat→Prop} (f:Fr K wr w') (hk:∀k,B≤k→¬K k):RwL q B a0 a j sv w':=by
 obtain ⟨fs,l,D,h1,h2⟩:=h
 exact ⟨fs,l,D,h1.fr f hk,h2⟩
theorem RwL.next {q:ByteArray} {B a0 a a' j g:Nat} {sv sv':Value} {wr w1 w2:World} {fs:List Value} {l:List StA} {D D2:Nat→Prop} {f:Value} {st:StA}
 (R:Row 320 B (fun i w f=>∀st,l[i]?=some st→StepV w f st) D sv fs wr) (hl:l.length=j) (hf:fs.length=j) (hps:pSteps (bs q) (q.size+1) a0 []=pSteps (bs q) (q.size+1 - j) a l)
 (h1:Fr (fun k=>k=g) wr w1) (hgB:g<B) (hsz:B≤wr.heap.size) (hjq:j≤q.size) (ft:Ft D2 wr.heap.size w1) (ok:OkD D2 w1 (fun w=>StepV w f st)) (hst:∀m l,pSteps (bs q) (m+1) a l=pSteps (bs q) m a' (l++[st]))
 (hg:w1.grownBy w2 sv.ownBlock) (hown:w2.ownsRow B 320 1 sv' (j+1) (fs++[f])) (hb:sv'.ownBlock=sv.ownBlock∨sv'.ownBlock=some w1.heap.size):RwL q B a0 a' (j+1) sv' w2:=by
 have R1:=R.fr h1 (fun k hk e=>by omega)
 refine ⟨fs++[f],l++[st],fun k=>D k∨D2 k,?_,by simp [hl],by simp [hf],?_⟩
 ·have R2:Row 320 B (fun i w f=>∀st',(l++[st])[i]?=some st'→StepV w f st') D sv fs w1:=⟨R1.o,R1.ft,R1.ne,fun i hi w' s st' he=>R1.ok i hi w' s st' (by rw [List.getElem?_append_left (by omega)] at he; exact he)⟩
  refine R2.push (A:=wr.heap.size) (fun k hk=>(R.o.lt k hk).2) hsz ft (fun w' s st' he=>?_) (by rw [hf]; exact hown) hg hb
  rw [hf,← hl] at he
  simp at he
  subst he
  exact ok w' s
 rw [hps,show q.size+1 - j=(q.size+1 - (j+1))+1 by omega]
 exact hst _ _
structure StL (g:Nat) (q:ByteArray) (p v:Value) (n:Nat) (w0:World) (B q0 c:Nat) (o:List UInt8) (d:Nat) (a0:Nat) (t:St) (j:Nat) (sv:Value) (wr:World):Prop where
 qt:Qt g q p v n w0 t.p wr
 lv:Live (bs q) q0 c 11 o d t
 row:RwL q B a0 t.p j sv wr
 gb:g<B
 wb:w0.heap.size≤B
 sz:B≤wr.heap.size
 le:j≤t.p
theorem own_below {w w':World} {base:Nat} {e:TypeId} {sz:Nat} {v:Value} {n:Nat} {xs:List Value} (h:w.ownsRow base e sz v n xs) (f:Below w.heap.size w w'):w'.ownsRow base e sz v n xs :=
 own_fr h (Fr.of_below (K:=fun _=>False) f) (fun _ _ x=>x)
theorem Qt.here {g:Nat} {q:ByteArray} {p v:Value} {n:Nat} {w0 w:World} {a:Nat} (h:Qt g q p v n w0 a w):Qt g q p v n w a w:=⟨h.b,Fr.refl _ _,h.le⟩
theorem Qt.join {g:Nat} {q:ByteArray} {p v:Value} {n:Nat} {w0 w w':World} {a a':Nat} (h:Qt g q p v n w0 a w) (k:Qt g q p v n w a' w'):Qt g q p v n w0 a' w':=⟨k.b,h.f.trans k.f,k.le⟩
theorem Er.keep {g:Nat} {w0 w:World} (h:Er g w0) (f:Fr (fun k=>k=g) w0 w):Er g w:=by
 obtain ⟨⟨ev,h1,h2⟩,h3,h4⟩:=h
 exact ⟨⟨ev,(f.cell (p:=⟨6,0,none⟩) h4 h3).trans h1,h2⟩,h3,Nat.lt_of_lt_of_le h4 f.size⟩
set_option maxHeartbeats 2000000 in
theorem k_steps {w:World} {g:Nat} {q:ByteArray} {p v:Value} {n:Nat} {w0:World} (hq:q.size≤1000) (hf:FinP (bs q)) (he:Er g w0) {q0 c d:Nat} {o:List UInt8} {t:St} (hok:Live (bs q) q0 c 11 o d t) (h:Qt g q p v n w0 t.p w) :
 Calls Tryz.prog 277 #[.pointer (some ⟨g,0,none⟩)] w (fun r w'=>∃t' sv fs l D,Live (bs q) q0 c 11 o d t'∧(bt (bs q) t'.p≠46∧bt (bs q) t'.p≠91)∧r=.returned sv∧Row 320 w0.heap.size (fun i w f=>∀st,l[i]?=some st→StepV w f st) D sv fs w'∧l.length=fs.length∧fs.length≤1000∧pSteps (bs q) (q.size+1) t.p []=⟨l,t'.p⟩∧Qt g q p v n w0 t'.p w'):=by
 obtain ⟨i0,hi,hz0,hz1,hz2⟩:=info_parts infoLead
 have HI:=hide hi
 have HZ0:=hide hz0
 have HZ1:=hide hz1
 have HZ2:=hide hz2
 have HE:=hide he
 have HF:=hide hf
 have S:Hid (StL g q p v n w0 w.heap.size q0 c o d t.p t 0 (.slice none 0 0) w):=⟨h,hok,⟨[],[],_,Row.nil _ _ _ _,rfl,rfl,rfl⟩,h.b.lt,h.f.size,Nat.le_refl _,Nat.zero_le _⟩
 clear h hok he hf hi hz0 hz1 hz2
 generalize w.heap.size=B at *
 obtain ⟨a0,ha0⟩:∃a0,a0=t.p:=⟨_,rfl⟩
 rw [← ha0] at S ⊢
 clear ha0
 go_enter Tryz.func277,Tryz.ntmps277
 go_wp2
 go_loopw [3] (fun sv wr=>∃(t:St) (j:Nat),StL g q p v n w0 B q0 c o d a0 t j sv wr) (fun _ wr=>q.size - mA g wr)
 case atStart=>exact ⟨t,0,S.out⟩
 case round =>
  clear S
  obtain ⟨t,j,hS⟩:=hrel
  have S:=hide hS
  have hjt:=hS.le
  have htq:t.p≤q.size:=hS.qt.le
  have HM:=hide hS.qt.mA
  obtain ⟨fs,l,D,hrow,hll,hfl,hps⟩:=hS.row
  obtain ⟨ao,cp,hse⟩:=own_slice hrow.o
  rw [hfl] at hse
  subst hse
  have R:=hide hrow
  have HLL:=hide hll
  have HFL:=hide hfl
  have HPS:=hide hps
  have e0:=hS.lv.e0
  clear hS hrow hll hfl hps
  by_cases h1:sees (bs q) t 46=true
  ·have T0:tk q t.p ⟨#[46]⟩=true:=(tk1 q e0 46).trans h1
   have L1:=hide (fin_live HF.out (ok_dot (Or.inl S.out.lv) h1))
   have B46:=hide (sees_b h1)
   clear h1 e0
   go_wp2_with fail
   refine (c_yes S.out.qt.here hq _ T0 (t.p+1) rfl).mono ?_
   rintro r w1 ⟨rfl,h1⟩
   have H1:=hide h1
   clear h1
   go_wp2_with fail
   refine (c_run_isLetter H1.out hq).mono ?_
   rintro r w2 ⟨k,hk,rfl,h2⟩
   have e1:=word_eq (t:=adv t) S.out.lv.e0 L1.out.e0 (fin_nolet HF.out L1.out) hk
   have hkt:t.p<k:=by have:=hk.ge; omega
   have L2:Hid (Live (bs q) q0 c 11 o d { adv t with p:=k }):=by rw [← e1]; exact L1.out
   have hkq:=h2.le
   have H2:=hide h2
   have HST:Hid (∀m l,pSteps (bs q) (m+1) t.p l=pSteps (bs q) m k (l++[⟨true,bs (q.extract (t.p+1) k),0⟩])):=fun m l=>by
    rw [pSteps,if_pos B46.out,hk.eq (by decide),bs_extract]
   clear h2 H1 L1 e1 hk
   go_wp2_with fail
   refine (m_toMember _ _ H2.out.f.size).mono ?_
   rintro r w3 ⟨⟨f3,D3,rfl,hft3,hok3⟩,hb3⟩
   obtain ⟨N3,cap3,rfl,_,_⟩:=hok3.self
   have FT3:=hide hft3
   have OK3:=hide hok3
   have H3:=hide (H2.out.below hb3)
   clear H2 hb3 hft3 hok3
   have hown3:w3.ownsRow B 320 1 (.slice ao j cp) j fs:=own_fr (HFL.out▸R.out.o) H3.out.f (fun k hk e=>by have:=S.out.gb; omega)
   have hB3:B≤w3.heap.size:=Nat.le_trans S.out.sz H3.out.f.size
   go_wp2_with (at_builtin; refine wpList_append_own_at _ rfl _ _ 322 rfl B 320 i0 .nilFunc 1 8 Tryz.underlying322 HI.out HZ0.out HZ1.out HZ2.out rfl (by decide) _ _ _ rfl (hown3.alloc _) ⟨w3.heap.size,0,none⟩ 1 1 [.func (.func N3) #[] cap3] rfl rfl ?c1 ?c2 ?c3 ?c4 ?c5 ?_)
   case c1 =>
    intro j u hj
    match j,hj with
    | 0,hj=>simp at hj; subst hj; simp [Addr.add]
   case c2=>intro u hu; simp at hu; subst hu; rfl
   case c3=>unfold maxLen; omega
   case c4=>omega
   case c5=>simp; omega
   intro v' w4 hown4 hgrow _ hvb
   have S2:Hid (StL g q p v n w0 B q0 c o d a0 { adv t with p:=k } (j+1) v' w4) :=
    ⟨(S.out.qt.join (H3.out.alloc _)).grown hgrow (fun k hk=>(hown3.lt k hk).1) S.out.gb S.out.wb,L2.out,RwL.next R.out HLL.out HFL.out HPS.out (H3.out.alloc _).f S.out.gb S.out.sz (by omega) (FT3.out.keep (Sm.alloc FT3.out _)) (OK3.out.keep (Sm.alloc FT3.out _)) HST.out hgrow hown4 (by simpa using hvb),S.out.gb,S.out.wb,Nat.le_trans hB3 (Nat.le_trans (by simp) hgrow.size),by simp only; omega⟩
   clear hown4 hgrow hown3
   go_wp2
   go_roundw
   case rel=>exact ⟨_,_,S2.out⟩
   case measure =>
    have m1:mA g wr=t.p:=HM.out
    have m2:mA g w4=k:=S2.out.qt.mA
    rw [m1,m2]
    omega
  have h1:sees (bs q) t 46=false:=by simpa using h1
  have T0:=tk_ne (sign:=⟨#[46]⟩) e0 rfl h1
  by_cases h2:sees (bs q) t 91=true
  ·have T1:tk q t.p ⟨#[91]⟩=true:=(tk1 q e0 91).trans h2
   have HB:=hide h2
   clear h1 e0 h2
   go_wp2_with fail
   refine (c_no S.out.qt.here hq _ T0).mono ?_
   rintro r w1 ⟨rfl,h1⟩
   have H1:=hide h1
   clear h1
   go_wp2_with fail
   refine (c_yes H1.out hq _ T1 (t.p+1) rfl).mono ?_
   rintro r w2 ⟨rfl,h2⟩
   have H2:=hide h2
   clear h2 H1
   have E2:=hide (HE.out.keep S.out.qt.f)
   go_wp2_with fail
   refine (k_element hq HF.out E2.out S.out.lv HB.out H2.out).mono ?_
   rintro r w3 ⟨k,hkt,T2,hl,st,⟨⟨f3,D3,rfl,hft3,hok3⟩,h3⟩,hst⟩
   obtain ⟨N3,cap3,rfl,_,_⟩:=hok3.self
   have FT3:=hide hft3
   have OK3:=hide hok3
   have HST:=hide hst
   have hkq:=h3.le
   have L2:=hide hl
   have H3:=hide h3
   clear H2 h3 hl hft3 hok3 hst
   have hown3:w3.ownsRow B 320 1 (.slice ao j cp) j fs:=own_fr (HFL.out▸R.out.o) H3.out.f (fun k hk e=>by have:=S.out.gb; omega)
   have hB3:B≤w3.heap.size:=Nat.le_trans S.out.sz H3.out.f.size
   go_wp2_with (at_builtin; refine wpList_append_own_at _ rfl _ _ 322 rfl B 320 i0 .nilFunc 1 8 Tryz.underlying322 HI.out HZ0.out HZ1.out HZ2.out rfl (by decide) _ _ _ rfl (hown3.alloc _) ⟨w3.heap.size,0,none⟩ 1 1 [.func (.func N3) #[] cap3] rfl rfl ?c1 ?c2 ?c3 ?c4 ?c5 ?_)
   case c1 =>
    intro j u hj
    match j,hj with
    | 0,hj=>simp at hj; subst hj; simp [Addr.add]
   case c2=>intro u hu; simp at hu; subst hu; rfl
   case c3=>unfold maxLen; omega
   case c4=>omega
   case c5=>simp; omega
   intro v' w4 hown4 hgrow _ hvb
   have H4:Hid (Qt g q p v n w0 k w4):=(S.out.qt.join (H3.out.alloc _)).grown hgrow (fun k hk=>(hown3.lt k hk).1) S.out.gb S.out.wb
   have R4:Hid (RwL q B a0 (k+1) (j+1) v' w4):=RwL.next R.out HLL.out HFL.out HPS.out (H3.out.alloc _).f S.out.gb S.out.sz (by omega) (FT3.out.keep (Sm.alloc FT3.out _)) (OK3.out.keep (Sm.alloc FT3.out _)) HST.out hgrow hown4 (by simpa using hvb)
   have hs4:B≤w4.heap.size:=Nat.le_trans hB3 (Nat.le_trans (by simp) hgrow.size)
   clear hown4 hgrow hown3
   go_wp2_with fail
   refine (c_yes H4.out.here hq _ T2 (k+1) rfl).mono ?_
   rintro r w5 ⟨rfl,h5⟩
   have S2:Hid (StL g q p v n w0 B q0 c o d a0 { t with p:=k+1 } (j+1) v' w5) :=
    ⟨H4.out.join h5,L2.out,R4.out.fr h5.f (fun k hk e=>by have:=S.out.gb; omega),S.out.gb,S.out.wb,Nat.le_trans hs4 h5.f.size,by simp only; omega⟩
   clear h5
   go_wp2
   go_roundw
   case rel=>exact ⟨_,_,S2.out⟩
   case measure =>
    have m1:mA g wr=t.p:=HM.out
    have m2:mA g w5=k+1:=S2.out.qt.mA
    rw [m1,m2]
    omega
  have h2:sees (bs q) t 91=false:=by simpa using h2
  have T1:=tk_ne (sign:=⟨#[91]⟩) e0 rfl h2
  have hb:bt (bs q) t.p≠46∧bt (bs q) t.p≠91:=by
   simp [sees,e0] at h1 h2
   exact ⟨h1,h2⟩
  have HB:=hide hb
  clear h1 h2 hb e0
  go_wp2_with fail
  refine (c_no S.out.qt.here hq _ T0).mono ?_
  rintro r w1 ⟨rfl,h1⟩
  have H1:=hide h1
  clear h1
  go_wp2_with fail
  refine (c_no H1.out hq _ T1).mono ?_
  rintro r w2 ⟨rfl,h2⟩
  have H2:=hide h2
  clear h2 H1
  go_wp2
  go_ret
  have hend:pSteps (bs q) (q.size+1) a0 []=⟨l,t.p⟩:=by
   rw [HPS.out,show q.size+1 - j=(q.size - j)+1 by omega,pSteps,if_neg HB.out.1,if_neg HB.out.2]
  exact ⟨t,_,fs,l,D,S.out.lv,HB.out,rfl,(R.out.fr H2.out.f (fun k hk e=>by have:=S.out.gb; omega)).low S.out.wb,by rw [HLL.out,HFL.out],by rw [HFL.out]; omega,hend,S.out.qt.join H2.out⟩
end Go.Proofs.YtcbadebjpogmlaaGreatDoor
namespace Go.Proofs.YtcbadebjpogmlaaGreatDoor
open Go.RowKit Tr
def FnM (g:Nat) (q:ByteArray) (p v:Value) (n:Nat) (w0:World) (B q0 c X:Nat) (o:List UInt8) (d:Nat) (R:PS (Tv→Bool)) (r:Ending) (w':World):Prop :=
 ∃t' f D,Live (bs q) q0 c X o d t'∧R.p=t'.p∧r=.returned f∧Ft D B w'∧OkD D w' (fun w=>CondV w f R.v)∧Qt g q p v n w0 t'.p w'
set_option maxHeartbeats 1000000 in
theorem te_eq {w:World} {g:Nat} {q:ByteArray} {p v:Value} {n:Nat} (hq:q.size≤1000) (hf:FinP (bs q)) (he:Er g w) {q0 c d:Nat} {o:List UInt8} {t:St} (h:Qt g q p v n w t.p w) {f:Value} {D0:Nat→Prop} {l:List StA} {B:Nat} (ft:Ft D0 B w) (ok:OkD D0 w (fun w=>LeadV w f l)) (hB:B≤w.heap.size) (hgB:g<B)
 (T0:tk q t.p ⟨#[61,61]⟩=true) (hok:Live (bs q) q0 c 17 o d { t with p:=t.p+2 }) {R:PS (Tv→Bool)} (hR:R=⟨fun t'=>sameT (pConst (bs q) (t.p+2)).v (leadT t' l),(pConst (bs q) (t.p+2)).p⟩) :
 Calls Tryz.prog 275 #[.pointer (some ⟨g,0,none⟩),f] w (FnM g q p v n w B q0 c 18 o d R):=by
 obtain ⟨N0,cap0,rfl,_,_⟩:=ok.self
 have FT:=hide ft
 have OK:=hide ok
 have H:=hide h
 have HR:=hide hR
 have HE:=hide he
 have HF:=hide hf
 have L:=hide hok
 clear h he hf hok ft ok hR
 go_enter Tryz.func275,Tryz.ntmps275
 go_wp2_with fail
 refine (c_yes H.out hq _ T0 (t.p+2) rfl).mono ?_
 rintro r w1 ⟨rfl,h1⟩
 clear H
 have H:=hide h1
 clear h1
 go_wp2_with fail
 refine (k_constant (t:={ t with p:=t.p+2 }) hq HF.out HE.out L.out H.out).mono ?_
 rintro r w1 ⟨t2,kt,hl,hpc,hko,⟨b,rfl,hbge,hblk⟩,h1⟩
 have L2:=hide hl
 have PC:=hide hpc
 have KK:=hide hko
 have BL:=hide hblk
 have S1:Hid (Sm D0 w w1):=Sm.fr FT.out h1.f (fun k hk e=>by omega)
 have hsz1:w.heap.size≤w1.heap.size:=h1.f.size
 clear H L hl hpc hko hblk
 have H:=hide h1
 clear h1
 go_wp2_with fail
 refine (m_isEqual (FT.out.keep S1.out) (OK.out.keep S1.out) (Nat.le_trans hB hsz1) BL.out (Nat.le_trans hB hbge) KK.out).mono ?_
 rintro r w2 ⟨⟨f2,D2,rfl,hft2,hok2⟩,hb2⟩
 obtain ⟨N2,cap2,rfl,_,_⟩:=hok2.self
 have FT2:=hide hft2
 have OK2:=hide hok2
 have H2:=hide (H.out.below hb2)
 have le2:=hide hb2.size
 clear hft2 hok2 hb2
 go_wp2
 go_ret
 exact ⟨t2,_,_,L2.out,by rw [HR.out]; exact congrArg PS.p PC.out,rfl,FT2.out,by rw [HR.out]; exact (congrArg PS.v PC.out).symm▸OK2.out,H2.out⟩
set_option maxHeartbeats 1000000 in
theorem te_ne {w:World} {g:Nat} {q:ByteArray} {p v:Value} {n:Nat} (hq:q.size≤1000) (hf:FinP (bs q)) (he:Er g w) {q0 c d:Nat} {o:List UInt8} {t:St} (h:Qt g q p v n w t.p w) {f:Value} {D0:Nat→Prop} {l:List StA} {B:Nat} (ft:Ft D0 B w) (ok:OkD D0 w (fun w=>LeadV w f l)) (hB:B≤w.heap.size) (hgB:g<B)
 (T0:tk q t.p ⟨#[61,61]⟩=false) (T1:tk q t.p ⟨#[33,61]⟩=true) (hok:Live (bs q) q0 c 17 o d { t with p:=t.p+2 }) {R:PS (Tv→Bool)} (hR:R=⟨fun t'=>!(sameT (pConst (bs q) (t.p+2)).v (leadT t' l)),(pConst (bs q) (t.p+2)).p⟩) :
 Calls Tryz.prog 275 #[.pointer (some ⟨g,0,none⟩),f] w (FnM g q p v n w B q0 c 18 o d R):=by
 obtain ⟨N0,cap0,rfl,_,_⟩:=ok.self
 have FT:=hide ft
 have OK:=hide ok
 have H:=hide h
 have HR:=hide hR
 have HE:=hide he
 have HF:=hide hf
 have L:=hide hok
 clear h he hf hok ft ok hR
 go_enter Tryz.func275,Tryz.ntmps275
 go_wp2_with fail
 refine (c_no H.out hq _ T0).mono ?_
 rintro r w1 ⟨rfl,h1⟩
 clear H
 have H:=hide h1
 clear h1
 go_wp2_with fail
 refine (c_yes H.out hq _ T1 (t.p+2) rfl).mono ?_
 rintro r w1 ⟨rfl,h1⟩
 clear H
 have H:=hide h1
 clear h1
 go_wp2_with fail
 refine (k_constant (t:={ t with p:=t.p+2 }) hq HF.out HE.out L.out H.out).mono ?_
 rintro r w1 ⟨t2,kt,hl,hpc,hko,⟨b,rfl,hbge,hblk⟩,h1⟩
 have L2:=hide hl
 have PC:=hide hpc
 have KK:=hide hko
 have BL:=hide hblk
 have S1:Hid (Sm D0 w w1):=Sm.fr FT.out h1.f (fun k hk e=>by omega)
 have hsz1:w.heap.size≤w1.heap.size:=h1.f.size
 clear H L hl hpc hko hblk
 have H:=hide h1
 clear h1
 go_wp2_with fail
 refine (m_isEqual (FT.out.keep S1.out) (OK.out.keep S1.out) (Nat.le_trans hB hsz1) BL.out (Nat.le_trans hB hbge) KK.out).mono ?_
 rintro r w2 ⟨⟨f2,D2,rfl,hft2,hok2⟩,hb2⟩
 obtain ⟨N2,cap2,rfl,_,_⟩:=hok2.self
 have FT2:=hide hft2
 have OK2:=hide hok2
 have H2:=hide (H.out.below hb2)
 have le2:=hide hb2.size
 clear hft2 hok2 hb2
 go_wp2_with fail
 refine (m_notMet FT2.out OK2.out (Nat.le_trans hB (Nat.le_trans hsz1 le2.out))).mono ?_
 rintro r w3 ⟨⟨f3,D3,rfl,hft3,hok3⟩,hb3⟩
 obtain ⟨N3,cap3,rfl,_,_⟩:=hok3.self
 have FT3:=hide hft3
 have OK3:=hide hok3
 have H3:=hide (H2.out.below hb3)
 clear hft3 hok3 hb3 H2
 go_wp2
 go_ret
 exact ⟨t2,_,_,L2.out,by rw [HR.out]; exact congrArg PS.p PC.out,rfl,FT3.out,by rw [HR.out]; exact (congrArg PS.v PC.out).symm▸OK3.out,H3.out⟩
set_option maxHeartbeats 1000000 in
theorem te_lt {w:World} {g:Nat} {q:ByteArray} {p v:Value} {n:Nat} (hq:q.size≤1000) (hf:FinP (bs q)) (he:Er g w) {q0 c d:Nat} {o:List UInt8} {t:St} (h:Qt g q p v n w t.p w) {f:Value} {D0:Nat→Prop} {l:List StA} {B:Nat} (ft:Ft D0 B w) (ok:OkD D0 w (fun w=>LeadV w f l)) (hB:B≤w.heap.size) (hgB:g<B)
 (T0:tk q t.p ⟨#[61,61]⟩=false) (T1:tk q t.p ⟨#[33,61]⟩=false) (T2:tk q t.p ⟨#[60,61]⟩=false) (T3:tk q t.p ⟨#[60]⟩=true) (hok:Live (bs q) q0 c 17 o d { t with p:=t.p+1 }) {R:PS (Tv→Bool)} (hR:R=⟨fun t'=>lessT (pConst (bs q) (t.p+1)).v (leadT t' l),(pConst (bs q) (t.p+1)).p⟩) :
 Calls Tryz.prog 275 #[.pointer (some ⟨g,0,none⟩),f] w (FnM g q p v n w B q0 c 18 o d R):=by
 obtain ⟨N0,cap0,rfl,_,_⟩:=ok.self
 have FT:=hide ft
 have OK:=hide ok
 have H:=hide h
 have HR:=hide hR
 have HE:=hide he
 have HF:=hide hf
 have L:=hide hok
 clear h he hf hok ft ok hR
 go_enter Tryz.func275,Tryz.ntmps275
 go_wp2_with fail
 refine (c_no H.out hq _ T0).mono ?_
 rintro r w1 ⟨rfl,h1⟩
 clear H
 have H:=hide h1
 clear h1
 go_wp2_with fail
 refine (c_no H.out hq _ T1).mono ?_
 rintro r w1 ⟨rfl,h1⟩
 clear H
 have H:=hide h1
 clear h1
 go_wp2_with fail
 refine (c_no H.out hq _ T2).mono ?_
 rintro r w1 ⟨rfl,h1⟩
 clear H
 have H:=hide h1
 clear h1
 go_wp2_with fail
 refine (c_yes H.out hq _ T3 (t.p+1) rfl).mono ?_
 rintro r w1 ⟨rfl,h1⟩
 clear H
 have H:=hide h1
 clear h1
 go_wp2_with fail
 refine (k_constant (t:={ t with p:=t.p+1 }) hq HF.out HE.out L.out H.out).mono ?_
 rintro r w1 ⟨t2,kt,hl,hpc,hko,⟨b,rfl,hbge,hblk⟩,h1⟩
 have L2:=hide hl
 have PC:=hide hpc
 have KK:=hide hko
 have BL:=hide hblk
 have S1:Hid (Sm D0 w w1):=Sm.fr FT.out h1.f (fun k hk e=>by omega)
 have hsz1:w.heap.size≤w1.heap.size:=h1.f.size
 clear H L hl hpc hko hblk
 have H:=hide h1
 clear h1
 go_wp2_with fail
 refine (m_isLess (FT.out.keep S1.out) (OK.out.keep S1.out) (Nat.le_trans hB hsz1) BL.out (Nat.le_trans hB hbge) KK.out).mono ?_
 rintro r w2 ⟨⟨f2,D2,rfl,hft2,hok2⟩,hb2⟩
 obtain ⟨N2,cap2,rfl,_,_⟩:=hok2.self
 have FT2:=hide hft2
 have OK2:=hide hok2
 have H2:=hide (H.out.below hb2)
 have le2:=hide hb2.size
 clear hft2 hok2 hb2
 go_wp2
 go_ret
 exact ⟨t2,_,_,L2.out,by rw [HR.out]; exact congrArg PS.p PC.out,rfl,FT2.out,by rw [HR.out]; exact (congrArg PS.v PC.out).symm▸OK2.out,H2.out⟩
set_option maxHeartbeats 1000000 in
theorem te_none {w:World} {g:Nat} {q:ByteArray} {p v:Value} {n:Nat} (hq:q.size≤1000) {q0 c d:Nat} {o:List UInt8} {t:St} (h:Qt g q p v n w t.p w) {f:Value} {D0:Nat→Prop} {l:List StA} {B:Nat} (ft:Ft D0 B w) (ok:OkD D0 w (fun w=>LeadV w f l)) (hB:B≤w.heap.size) (hgB:g<B)
 (T0:tk q t.p ⟨#[61,61]⟩=false) (T1:tk q t.p ⟨#[33,61]⟩=false) (T2:tk q t.p ⟨#[60,61]⟩=false) (T3:tk q t.p ⟨#[60]⟩=false) (hok:Live (bs q) q0 c 18 o d t) {R:PS (Tv→Bool)} (hR:R=⟨fun t'=>(leadT t' l).isSome,t.p⟩) :
 Calls Tryz.prog 275 #[.pointer (some ⟨g,0,none⟩),f] w (FnM g q p v n w B q0 c 18 o d R):=by
 obtain ⟨N0,cap0,rfl,_,_⟩:=ok.self
 have FT:=hide ft
 have OK:=hide ok
 have H:=hide h
 have HR:=hide hR
 have L:=hide hok
 clear h hok ft ok hR
 go_enter Tryz.func275,Tryz.ntmps275
 go_wp2_with fail
 refine (c_no H.out hq _ T0).mono ?_
 rintro r w1 ⟨rfl,h1⟩
 clear H
 have H:=hide h1
 clear h1
 go_wp2_with fail
 refine (c_no H.out hq _ T1).mono ?_
 rintro r w1 ⟨rfl,h1⟩
 clear H
 have H:=hide h1
 clear h1
 go_wp2_with fail
 refine (c_no H.out hq _ T2).mono ?_
 rintro r w1 ⟨rfl,h1⟩
 clear H
 have H:=hide h1
 clear h1
 go_wp2_with fail
 refine (c_no H.out hq _ T3).mono ?_
 rintro r w1 ⟨rfl,h1⟩
 clear H
 have H:=hide h1
 clear h1
 have S1:Hid (Sm D0 w w1):=Sm.fr FT.out H.out.f (fun k hk e=>by omega)
 have hsz1:w.heap.size≤w1.heap.size:=H.out.f.size
 go_wp2_with fail
 refine (m_isThere (FT.out.keep S1.out) (OK.out.keep S1.out) (Nat.le_trans hB hsz1)).mono ?_
 rintro r w2 ⟨⟨f2,D2,rfl,hft2,hok2⟩,hb2⟩
 obtain ⟨N2,cap2,rfl,_,_⟩:=hok2.self
 have FT2:=hide hft2
 have OK2:=hide hok2
 have H2:=hide (H.out.below hb2)
 clear hft2 hok2 hb2
 go_wp2
 go_ret
 exact ⟨t,_,_,L.out,by rw [HR.out],rfl,FT2.out,by rw [HR.out]; exact OK2.out,H2.out⟩
set_option maxHeartbeats 1000000 in
theorem te_le {w:World} {g:Nat} {q:ByteArray} {p v:Value} {n:Nat} (hq:q.size≤1000) (hf:FinP (bs q)) (he:Er g w) {q0 c d:Nat} {o:List UInt8} {t:St} (h:Qt g q p v n w t.p w) {f:Value} {D0:Nat→Prop} {l:List StA} {B:Nat} (ft:Ft D0 B w) (ok:OkD D0 w (fun w=>LeadV w f l)) (hB:B≤w.heap.size) (hgB:g<B)
 (T0:tk q t.p ⟨#[61,61]⟩=false) (T1:tk q t.p ⟨#[33,61]⟩=false) (T2:tk q t.p ⟨#[60,61]⟩=true) (hok:Live (bs q) q0 c 17 o d { t with p:=t.p+2 }) {R:PS (Tv→Bool)} (hR:R=⟨fun t'=>sameT (pConst (bs q) (t.p+2)).v (leadT t' l) || lessT (pConst (bs q) (t.p+2)).v (leadT t' l),(pConst (bs q) (t.p+2)).p⟩) :
 Calls Tryz.prog 275 #[.pointer (some ⟨g,0,none⟩),f] w (FnM g q p v n w B q0 c 18 o d R):=by
 obtain ⟨N0,cap0,rfl,_,_⟩:=ok.self
 have FT:=hide ft
 have OK:=hide ok
 have H:=hide h
 have HR:=hide hR
 have HE:=hide he
 have HF:=hide hf
 have L:=hide hok
 clear h he hf hok ft ok hR
 go_enter Tryz.func275,Tryz.ntmps275
 go_wp2_with fail
 refine (c_no H.out hq _ T0).mono ?_
 rintro r w1 ⟨rfl,h1⟩
 clear H
 have H:=hide h1
 clear h1
 go_wp2_with fail
 refine (c_no H.out hq _ T1).mono ?_
 rintro r w1 ⟨rfl,h1⟩
 clear H
 have H:=hide h1
 clear h1
 go_wp2_with fail
 refine (c_yes H.out hq _ T2 (t.p+2) rfl).mono ?_
 rintro r w1 ⟨rfl,h1⟩
 clear H
 have H:=hide h1
 clear h1
 go_wp2_with fail
 refine (k_constant (t:={ t with p:=t.p+2 }) hq HF.out HE.out L.out H.out).mono ?_
 rintro r w1 ⟨t2,kt,hl,hpc,hko,⟨b,rfl,hbge,hblk⟩,h1⟩
 have L2:=hide hl
 have PC:=hide hpc
 have KK:=hide hko
 have BL:=hide hblk
 have S1:Hid (Sm D0 w w1):=Sm.fr FT.out h1.f (fun k hk e=>by omega)
 have hsz1:w.heap.size≤w1.heap.size:=h1.f.size
 clear H L hl hpc hko hblk
 have H:=hide h1
 clear h1
 go_wp2_with fail
 refine (m_isLess (FT.out.keep S1.out) (OK.out.keep S1.out) (Nat.le_trans hB hsz1) BL.out (Nat.le_trans hB hbge) KK.out).mono ?_
 rintro r w2 ⟨⟨f2,D2,rfl,hft2,hok2⟩,hb2⟩
 obtain ⟨N2,cap2,rfl,_,_⟩:=hok2.self
 have FT2:=hide hft2
 have OK2:=hide hok2
 have H2:=hide (H.out.below hb2)
 have le2:=hide hb2.size
 have B2:=hide hb2
 clear hft2 hok2 hb2
 have S2:Hid (Sm D0 w w2):=S1.out.trans (Sm.fr (K:=fun _=>False) (FT.out.keep S1.out) (Fr.of_below B2.out) (fun _ _ x=>x))
 have BL2:=hide (BL.out.fr (Fr.of_below (K:=fun _=>False) B2.out) id)
 have hsz2:w.heap.size≤w2.heap.size:=Nat.le_trans hsz1 le2.out
 go_wp2_with fail
 refine (m_isEqual (FT.out.keep S2.out) (OK.out.keep S2.out) (Nat.le_trans hB hsz2) BL2.out (Nat.le_trans hB hbge) KK.out).mono ?_
 rintro r w3 ⟨⟨f3,D3,rfl,hft3,hok3⟩,hb3⟩
 obtain ⟨N3,cap3,rfl,_,_⟩:=hok3.self
 have hbl3:Sm D2 w2 w3:=Sm.fr (K:=fun _=>False) FT2.out (Fr.of_below hb3) (fun _ _ x=>x)
 have FT4:=hide ((FT2.out.keep hbl3).or hft3)
 have OKA:=hide ((OK2.out.keep hbl3).more (D':=fun k=>D2 k∨D3 k) (fun _=>Or.inl))
 have OKB:=hide (hok3.more (D':=fun k=>D2 k∨D3 k) (fun _=>Or.inr))
 have H3:=hide (H2.out.below hb3)
 have hsz3:w2.heap.size≤w3.heap.size:=hb3.size
 clear hft3 hok3 hb3 H2 hbl3 FT2 OK2 B2
 have RW:Hid (Row 237 B (fun i w f=>∀φ,[fun t'=>lessT kt (leadT t' l),fun t'=>sameT kt (leadT t' l)][i]?=some φ→CondV w f φ) (fun k=>D2 k∨D3 k) (.slice (some ⟨w3.heap.size,0,none⟩) 2 2) [.func (.func N2) #[] cap2,.func (.func N3) #[] cap3] (w3.alloc (.cells #[.func (.func N2) #[] cap2,.func (.func N3) #[] cap3] 237))):=by
  have s:=Sm.alloc FT4.out (.cells #[.func (.func N2) #[] cap2,.func (.func N3) #[] cap3] 237)
  refine ⟨⟨rfl,Or.inr ⟨w3.heap.size,2,_,rfl,by omega,heap_alloc_new w3 _,Nat.le_refl _,by unfold maxLen; decide,rfl,rfl⟩⟩,FT4.out.keep s,fun k hk e=>?_,fun i hi w' s' φ he=>?_⟩
  ·have h1:=FT4.out.lt hk
   have h2:w3.heap.size=k:=Option.some.inj e
   omega
  match i,hi with
  | 0,_=>simp at he; subst he; exact (OKA.out.keep s) w' s'
  | 1,_=>simp at he; subst he; exact (OKB.out.keep s) w' s'
 go_wp2_with fail
 refine (m_oneMet RW.out rfl (by show 2≤1000; decide) (by simp; omega)).mono ?_
 rintro r w5 ⟨⟨f5,D5,rfl,hft5,hok5⟩,hb5⟩
 obtain ⟨N5,cap5,rfl,_,_⟩:=hok5.self
 have FT5:=hide hft5
 have OK5:=hide hok5
 have H5:=hide ((H3.out.alloc _).below hb5)
 clear hft5 hok5 hb5 H3 RW
 go_wp2
 go_ret
 refine ⟨t2,_,_,L2.out,by rw [HR.out]; exact congrArg PS.p PC.out,rfl,FT5.out,?_,H5.out⟩
 have eR:R.v=fun t'=>[fun t'=>lessT kt (leadT t' l),fun t'=>sameT kt (leadT t' l)].any (fun φ=>φ t'):=by
  rw [HR.out]
  funext t'
  rw [congrArg PS.v PC.out]
  simp [Bool.or_comm]
 rw [eR]
 exact OK5.out
theorem k_test {w:World} {g:Nat} {q:ByteArray} {p v:Value} {n:Nat} (hq:q.size≤1000) (hf:FinP (bs q)) (he:Er g w) {q0 c d:Nat} {o:List UInt8} {t:St} (hok:Live (bs q) q0 c 11 o d t) (hb:bt (bs q) t.p≠46∧bt (bs q) t.p≠91) (h:Qt g q p v n w t.p w) {f:Value} {D0:Nat→Prop} {l:List StA} {B:Nat} (ft:Ft D0 B w) (ok:OkD D0 w (fun w=>LeadV w f l)) (hB:B≤w.heap.size) (hgB:g<B) :
 Calls Tryz.prog 275 #[.pointer (some ⟨g,0,none⟩),f] w (FnM g q p v n w B q0 c 18 o d (pOp (bs q) l t.p)):=by
 have e0:=hok.e0
 by_cases h1:sees (bs q) t 61=true
 ·have a1:=fin_live hf (ok_eq 61 (Or.inl rfl) (Or.inl hok) h1)
  obtain ⟨a2,a3⟩:=tk_must (sign:=⟨#[61,61]⟩) a1.e0
  rw [show [61,61]=nb ⟨#[61,61]⟩ from rfl,a3] at a1
  exact te_eq hq hf he h ft ok hB hgB a2 a1 (by unfold pOp; rw [if_pos (sees_b h1)])
 have h1:sees (bs q) t 61=false:=by simpa using h1
 have T0:=tk_ne (sign:=⟨#[61,61]⟩) e0 rfl h1
 by_cases h2:sees (bs q) t 33=true
 ·have a1:=fin_live hf (ok_eq 33 (Or.inr rfl) (Or.inl hok) h2)
  obtain ⟨a2,a3⟩:=tk_must (sign:=⟨#[33,61]⟩) a1.e0
  rw [show [33,61]=nb ⟨#[33,61]⟩ from rfl,a3] at a1
  exact te_ne hq hf he h ft ok hB hgB T0 a2 a1 (by unfold pOp; rw [if_neg (sees_nb e0 h1),if_pos (sees_b h2)])
 have h2:sees (bs q) t 33=false:=by simpa using h2
 have T1:=tk_ne (sign:=⟨#[33,61]⟩) e0 rfl h2
 by_cases h3:sees (bs q) t 60=true
 ·have a1:=fin_live hf (ok_less (Or.inl hok) h3)
  have e1:must (bs q) t [60]=adv t:=by show must1 (bs q) t 60=adv t; unfold must1; rw [if_pos h3]
  rw [e1] at a1
  have b1:=(sees_e h3).2
  by_cases h4:sees (bs q) (adv t) 61=true
  ·have e2:has (bs q) (adv t) 61=adv (adv t):=by unfold has; rw [if_pos h4]
   rw [e2] at a1
   have T2:tk q t.p ⟨#[60,61]⟩=true:=by
    rw [tk_pfx]
    have b2:bt (bs q) (t.p+1)=61:=(sees_e h4).2
    show (bt (bs q) t.p == 60 && (bt (bs q) (t.p+1) == 61 && true))=true
    rw [b1,b2]; decide
   exact te_le hq hf he h ft ok hB hgB T0 T1 T2 a1 (by unfold pOp; rw [if_neg (sees_nb e0 h1),if_neg (sees_nb e0 h2),if_pos (sees_b h3),if_pos (show bt (bs q) (t.p+1)=61 from sees_b h4)])
  have h4:sees (bs q) (adv t) 61=false:=by simpa using h4
  have e2:has (bs q) (adv t) 61=adv t:=by unfold has; rw [if_neg (by rw [h4]; decide)]
  rw [e2] at a1
  have T2:tk q t.p ⟨#[60,61]⟩=false:=by
   rw [tk_pfx]
   have b2:(bt (bs q) (t.p+1) == 61)=false:=by simpa [sees,adv,e0] using h4
   show (bt (bs q) t.p == 60 && (bt (bs q) (t.p+1) == 61 && true))=false
   rw [b2]; simp
  have T3:tk q t.p ⟨#[60]⟩=true:=(tk1 q e0 60).trans h3
  exact te_lt hq hf he h ft ok hB hgB T0 T1 T2 T3 a1 (by unfold pOp; rw [if_neg (sees_nb e0 h1),if_neg (sees_nb e0 h2),if_pos (sees_b h3),if_neg (show ¬bt (bs q) (t.p+1)=61 from sees_nb (t:=adv t) e0 h4)])
 have h3:sees (bs q) t 60=false:=by simpa using h3
 have T2:=tk_ne (sign:=⟨#[60,61]⟩) e0 rfl h3
 have T3:=tk_ne (sign:=⟨#[60]⟩) e0 rfl h3
 have a1:=fin_live hf (ok_bare (Or.inl hok) (fun _=>hb) h1 h2 h3)
 exact te_none hq h ft ok hB hgB T0 T1 T2 T3 a1 (by unfold pOp; rw [if_neg (sees_nb e0 h1),if_neg (sees_nb e0 h2),if_neg (sees_nb e0 h3)])
end Go.Proofs.YtcbadebjpogmlaaGreatDoor
