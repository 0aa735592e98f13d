import Derived.Test.YtcbadebjpogmlaaGreatDoorPMkO
namespace Go.Proofs.YtcbadebjpogmlaaGreatDoor
open Go.RowKit Tr
theorem infoCond:(Tryz.prog.info? 237).map (fun i=>(i.zero,i.size,i.bytes))=some (some .nilFunc,1,8):=by kernel_rfl
def bd (q:ByteArray) (m a:Nat):Nat:=4 * (q.size - a)+(if m≤2 then m+1 else 1)
theorem all_1 (φ:Tv→Bool):(fun t=>[φ].all (fun φ=>φ t))=φ:=by funext t; simp
theorem any_1 (φ:Tv→Bool):(fun t=>[φ].any (fun φ=>φ t))=φ:=by funext t; simp
theorem all_s (l:List (Tv→Bool)) (φ:Tv→Bool):(fun t=>(l++[φ]).all (fun φ=>φ t))=fun t=>l.all (fun φ=>φ t) && φ t:=by funext t; simp
theorem any_s (l:List (Tv→Bool)) (φ:Tv→Bool):(fun t=>(l++[φ]).any (fun φ=>φ t))=fun t=>l.any (fun φ=>φ t) || φ t:=by funext t; simp
theorem bd_pos {q:ByteArray} {m a N:Nat} (h:bd q m a≤N):∃N2,N=N2+1:=⟨N - 1,by unfold bd at h; split at h<;>omega⟩
theorem bd_in {q:ByteArray} {m m' m1 a b N:Nat} (h:bd q m a≤N+1) (hab:a≤b) (hm:m=1∧m'=0∧m1=3∨m=2∧m'=1∧m1=4):bd q m1 b≤N∧bd q m' a≤N:=by
 rcases hm with ⟨rfl,rfl,rfl⟩ | ⟨rfl,rfl,rfl⟩<;>simp [bd] at *<;>omega
theorem bd_on {q:ByteArray} {m' m1 a b N:Nat} (h:bd q m1 a≤N+1) (hab:a+2≤b) (hb:b≤q.size) (hm:m'=0∧m1=3∨m'=1∧m1=4):bd q m1 b≤N∧bd q m' (a+2)≤N:=by
 rcases hm with ⟨rfl,rfl⟩ | ⟨rfl,rfl⟩<;>simp [bd] at *<;>omega
def CdM (g:Nat) (q:ByteArray) (p v:Value) (n:Nat) (w0:World) (q0 c:Nat) (o:List UInt8) (d:Nat) (l:List Nat) (m a:Nat) (r:Ending) (w':World):Prop :=
 ∃t' f D φ,Live (bs q) q0 c 18 o d t'∧(∀b ∈ l,bt (bs q) t'.p≠b)∧(∀N φ0,bd q m a≤N→pC (bs q) N m a φ0=⟨φ,t'.p⟩)∧r=.returned f∧Ft D w0.heap.size w'∧OkD D w' (fun w=>CondV w f φ)∧Qt g q p v n w0 t'.p w'
def CdC (g:Nat) (q:ByteArray) (p v:Value) (n:Nat) (f:FuncId) (m:Nat) (l:List Nat) (tr:Bool) (k:Nat):Prop :=
 ∀(w:World) (q0 c d:Nat) (o:List UInt8) (t:St),Er g w→Live (bs q) q0 c 10 o d t→(tr=true→trimR o=o)→q.size<t.p+k→Qt g q p v n w t.p w →
  Calls Tryz.prog f #[.pointer (some ⟨g,0,none⟩)] w (CdM g q p v n w q0 c o d l m t.p)
def RcL (q:ByteArray) (B m0 a0 m1 a:Nat) (ψ:List (Tv→Bool)→Tv→Bool) (j:Nat) (sv:Value) (wr:World):Prop:=∃fs φs D,Row 237 B (fun i w f=>∀φ,φs[i]?=some φ→CondV w f φ) D sv fs wr∧φs.length=j∧fs.length=j ∧
 ∀N φ0,bd q m0 a0≤N→∃N',bd q m1 a≤N'∧pC (bs q) N m0 a0 φ0=pC (bs q) N' m1 a (ψ φs)
theorem RcL.next {q:ByteArray} {B m0 a0 m1 a a' j g:Nat} {ψ:List (Tv→Bool)→Tv→Bool} {sv sv':Value} {wr w1 w2:World} {fs:List Value} {φs:List (Tv→Bool)} {D D2:Nat→Prop} {f:Value} {φ:Tv→Bool}
 (R:Row 237 B (fun i w f=>∀φ,φs[i]?=some φ→CondV w f φ) D sv fs wr) (hl:φs.length=j) (hf:fs.length=j) (hps:∀N φ0,bd q m0 a0≤N→∃N',bd q m1 a≤N'∧pC (bs q) N m0 a0 φ0=pC (bs q) N' m1 a (ψ φs))
 (h1:Fr (fun k=>k=g) wr w1) (hgB:g<B) (hsz:B≤wr.heap.size) (ft:Ft D2 wr.heap.size w1) (ok:OkD D2 w1 (fun w=>CondV w f φ)) (hst:∀N,bd q m1 a≤N→∃N',bd q m1 a'≤N'∧pC (bs q) N m1 a (ψ φs)=pC (bs q) N' m1 a' (ψ (φs++[φ])))
 (hg:w1.grownBy w2 sv.ownBlock) (hown:w2.ownsRow B 237 1 sv' (j+1) (fs++[f])) (hb:sv'.ownBlock=sv.ownBlock∨sv'.ownBlock=some w1.heap.size):RcL q B m0 a0 m1 a' ψ (j+1) sv' w2:=by
 have R1:=R.fr h1 (fun k hk e=>by omega)
 refine ⟨fs++[f],φs++[φ],fun k=>D k∨D2 k,?_,by simp [hl],by simp [hf],fun N φ0 hN=>?_⟩
 ·have R2:Row 237 B (fun i w f=>∀φ',(φs++[φ])[i]?=some φ'→CondV w f φ') D sv fs w1:=⟨R1.o,R1.ft,R1.ne,fun i hi w' s φ' he=>R1.ok i hi w' s φ' (by rw [List.getElem?_append_left (by omega)] at he; exact he)⟩
  refine R2.push (A:=wr.heap.size) (fun k hk=>(R.o.lt k hk).2) hsz ft (fun w' s φ' he=>?_) (by rw [hf]; exact hown) hg hb
  rw [hf,← hl] at he
  simp at he
  subst he
  exact ok w' s
 obtain ⟨N1,h1,h2⟩:=hps N φ0 hN
 obtain ⟨N2,h3,h4⟩:=hst N1 h1
 exact ⟨N2,h3,h2.trans h4⟩
structure CoL (g:Nat) (q:ByteArray) (p v:Value) (n:Nat) (w0:World) (q0 c:Nat) (o:List UInt8) (d:Nat) (l:List Nat) (b0 m0 m1:Nat) (ψ:List (Tv→Bool)→Tv→Bool) (t:St) (j:Nat) (sv:Value) (wr:World):Prop where
 qt:Qt g q p v n w0 t.p wr
 lv:Live (bs q) q0 c 18 o d t
 nb:∀b ∈ l,bt (bs q) t.p≠b
 row:RcL q w0.heap.size m0 b0 m1 t.p ψ j sv wr
 gb:g<w0.heap.size
 le:2 * j≤t.p+2
 ge:b0≤t.p
set_option maxHeartbeats 2000000 in
theorem k_conjunction {g:Nat} {q:ByteArray} {p v:Value} {n:Nat} (hq:q.size≤1000) (hf:FinP (bs q)) {k:Nat} (hs:CdC g q p v n 265 0 [] true k):CdC g q p v n 256 1 [38] true k:=by
 intro w q0 c d o t he hok htr hk h
 obtain ⟨i0,hi,hz0,hz1,hz2⟩:=info_parts infoCond
 have HI:=hide hi
 have HZ0:=hide hz0
 have HZ1:=hide hz1
 have HZ2:=hide hz2
 have HE:=hide he
 have HF:=hide hf
 have HS:=hide hs
 have HT:=hide (htr rfl)
 have H:=hide h
 have L:=hide hok
 have K:=hide hk
 have hgw:g<w.heap.size:=h.b.lt
 have htq0:t.p≤q.size:=h.le
 clear h hok he hf hi hz0 hz1 hz2 hs htr hk
 go_enter Tryz.func256,Tryz.ntmps256
 go_wp2_with fail
 refine (HS.out w t.p c d o t HE.out L.out.rebase (fun _=>HT.out) K.out H.out).mono ?_
 rintro r w1 ⟨t1,f1,D1,φ1,hl,hn,hpc,rfl,hft,hok,h1⟩
 obtain ⟨N1,cap1,rfl,_,_⟩:=hok.self
 have hle1:=h1.le
 have hge1:=hl.ge
 have S:Hid (CoL g q p v n w q0 c o d [] t.p 1 3 (fun l t=>l.all (fun φ=>φ t)) t1 1 (.slice (some ⟨w1.heap.size,0,none⟩) 1 1) (w1.alloc (.cells #[.func (.func N1) #[] cap1] 237))):=by
  refine ⟨h1.alloc _,L.out.unbase hl,hn,⟨[.func (.func N1) #[] cap1],[φ1],D1,Row.one h1.f.size hft (fun w' s φ he=>?_),rfl,rfl,fun N φ0 hN=>?_⟩,hgw,by omega,hge1⟩
  ·simp at he; subst he; exact hok w' s
  obtain ⟨N,rfl⟩:=bd_pos hN
  have hbb:=bd_in hN hge1 (Or.inl ⟨rfl,rfl,rfl⟩)
  refine ⟨N,hbb.1,?_⟩
  rw [pC,hpc N φ0 hbb.2]
  show _=pC (bs q) N 3 t1.p (fun t=>[φ1].all (fun φ=>φ t))
  rw [all_1]
 clear h1 hl hn H hft hok hpc hle1 hge1
 go_wp2_with fail
 go_loopw [3] (fun sv wr=>∃(t1:St) (j:Nat),CoL g q p v n w q0 c o d [] t.p 1 3 (fun l t=>l.all (fun φ=>φ t)) t1 j sv wr) (fun _ wr=>q.size - mA g wr)
 case atStart=>exact ⟨t1,1,S.out⟩
 case round =>
  clear S
  obtain ⟨t2,j,hS⟩:=hrel
  have S:=hide hS
  have hjt:=hS.le
  have hge:=hS.ge
  have htq:t2.p≤q.size:=hS.qt.le
  have HM:=hide hS.qt.mA
  obtain ⟨fs,φs,D,hrow,hll,hfl,hps⟩:=hS.row
  obtain ⟨ao,cp,hse⟩:=own_slice hrow.o
  rw [hfl] at hse
  subst hse
  have R:=hide hrow
  have HLL:=hide hll
  have HFL:=hide hfl
  have HPS:=hide hps
  have e0:=hS.lv.e0
  clear hS hrow hll hfl hps
  by_cases h1:sees (bs q) t2 38=true
  ·obtain ⟨o1,o2⟩:=ok_and HT.out (Or.inl S.out.lv) h1
   have L1:=fin_live HF.out o1
   have o3:=o2 L1.e0
   obtain ⟨T0,e1⟩:=tk_must (sign:=⟨#[38,38]⟩) L1.e0
   rw [show [38,38]=nb ⟨#[38,38]⟩ from rfl,e1] at L1
   have L2:=hide L1
   have BOP:=hide (sees_b h1)
   clear h1 e0 o1 o2 o3 e1 L1
   go_wp2_with fail
   refine (c_yes S.out.qt.here hq _ T0 (t2.p+2) rfl).mono ?_
   rintro r w2 ⟨rfl,h2⟩
   have H2:=hide h2
   clear h2
   have E2:=hide (HE.out.keep (S.out.qt.join H2.out).f)
   have KK:=hide (show q.size<(t2.p+2)+k by have:=K.out; omega)
   go_wp2_with fail
   refine (HS.out w2 (t2.p+2) c d o { t2 with p:=t2.p+2 } E2.out L2.out.rebase (fun _=>HT.out) KK.out H2.out.here).mono ?_
   rintro r w3 ⟨t3,f3,D3,φ3,hl,hn,hpc,rfl,hft,hok,h3⟩
   obtain ⟨N3,cap3,rfl,_,_⟩:=hok.self
   have hkt:t2.p+2≤t3.p:=hl.ge
   have hkq:=h3.le
   have L3:=hide (L2.out.unbase hl)
   have N3':=hide hn
   have H3:=hide (H2.out.join h3)
   have FT3:=hide (hft.low H2.out.f.size)
   have OK3:=hide hok
   have PC3:=hide hpc
   clear H2 h3 hl hn hft hok hpc
   have hown3:w3.ownsRow w.heap.size 237 1 (.slice ao j cp) j fs:=own_fr (HFL.out▸R.out.o) H3.out.f (fun k hk e=>by omega)
   have hsr:w.heap.size≤wr.heap.size:=S.out.qt.f.size
   have hB3:w.heap.size≤w3.heap.size:=Nat.le_trans hsr H3.out.f.size
   go_wp2_with (at_builtin; refine wpList_append_own_at _ rfl _ _ 300 rfl w.heap.size 237 i0 .nilFunc 1 8 Tryz.underlying300 HI.out HZ0.out HZ1.out HZ2.out rfl (by decide) _ _ _ rfl (hown3.alloc _) ⟨w3.heap.size,0,none⟩ 1 1 [.func (.func N3) #[] cap3] rfl rfl ?c1 ?c2 ?c3 ?c4 ?c5 ?_)
   case c1 =>
    intro j u hj
    match j,hj with
    | 0,hj=>simp at hj; subst hj; simp [Addr.add]
   case c2=>intro u hu; simp at hu; subst hu; rfl
   case c3=>unfold maxLen; omega
   case c4=>omega
   case c5=>simp; omega
   intro v' w4 hown4 hgrow _ hvb
   have hst:∀N,bd q 3 t2.p≤N→∃N',bd q 3 t3.p≤N'∧pC (bs q) N 3 t2.p (fun t=>φs.all (fun φ=>φ t))=pC (bs q) N' 3 t3.p (fun t=>(φs++[φ3]).all (fun φ=>φ t)):=by
    intro N hN
    obtain ⟨N,rfl⟩:=bd_pos hN
    have hbb:=bd_on hN hkt hkq (Or.inl ⟨rfl,rfl⟩)
    refine ⟨N,hbb.1,?_⟩
    rw [pC,if_pos BOP.out,PC3.out N _ hbb.2,all_s]
   have S2:Hid (CoL g q p v n w q0 c o d [] t.p 1 3 (fun l t=>l.all (fun φ=>φ t)) t3 (j+1) v' w4) :=
    ⟨(S.out.qt.join (H3.out.alloc _)).grown hgrow (fun k hk=>(hown3.lt k hk).1) hgw (Nat.le_refl _),L3.out,N3'.out,RcL.next R.out HLL.out HFL.out HPS.out (H3.out.alloc _).f hgw hsr (FT3.out.keep (Sm.alloc FT3.out _)) (OK3.out.keep (Sm.alloc FT3.out _)) hst hgrow hown4 (by simpa using hvb),hgw,by omega,by omega⟩
   clear hown4 hgrow hown3 hst
   go_wp2
   go_roundw
   case rel=>exact ⟨_,_,S2.out⟩
   case measure =>
    have m1:mA g wr=t2.p:=HM.out
    have m2:mA g w4=t3.p:=S2.out.qt.mA
    rw [m1,m2]
    omega
  have h1:sees (bs q) t2 38=false:=by simpa using h1
  have T0:=tk_ne (sign:=⟨#[38,38]⟩) e0 rfl h1
  have hb:bt (bs q) t2.p≠38:=by simpa [sees,e0] using h1
  have HB:=hide hb
  clear h1 hb e0
  go_wp2_with fail
  refine (c_no S.out.qt.here hq _ T0).mono ?_
  rintro r w2 ⟨rfl,h2⟩
  have H2:=hide h2
  have R2:=hide (R.out.fr h2.f (fun k hk e=>by omega))
  have hsz2:w.heap.size≤w2.heap.size:=(S.out.qt.join h2).f.size
  clear h2
  go_wp2_with fail
  refine (m_allMet R2.out (by rw [HLL.out,HFL.out]) (by rw [HFL.out]; omega) hsz2).mono ?_
  rintro r w3 ⟨⟨f3,D3,rfl,hft,hok⟩,hb3⟩
  obtain ⟨N3,cap3,rfl,_,_⟩:=hok.self
  have H3:=hide (S.out.qt.join (H2.out.below hb3))
  have FT3:=hide hft
  have OK3:=hide hok
  clear H2 hb3 hft hok
  go_wp2
  go_ret
  refine ⟨t2,_,_,_,S.out.lv,fun b hb=>?_,fun N φ0 hN=>?_,rfl,FT3.out,OK3.out,H3.out⟩
  ·simp only [List.mem_cons,List.mem_nil_iff,or_false] at hb
   rw [hb]; exact HB.out
  obtain ⟨N',h1,h2⟩:=HPS.out N φ0 hN
  rw [h2]
  obtain ⟨N',rfl⟩:=bd_pos h1
  rw [pC,if_neg HB.out]
set_option maxHeartbeats 2000000 in
theorem k_condition {g:Nat} {q:ByteArray} {p v:Value} {n:Nat} (hq:q.size≤1000) (hf:FinP (bs q)) {k:Nat} (hs:CdC g q p v n 256 1 [38] true k):CdC g q p v n 243 2 [38,124] true k:=by
 intro w q0 c d o t he hok htr hk h
 obtain ⟨i0,hi,hz0,hz1,hz2⟩:=info_parts infoCond
 have HI:=hide hi
 have HZ0:=hide hz0
 have HZ1:=hide hz1
 have HZ2:=hide hz2
 have HE:=hide he
 have HF:=hide hf
 have HS:=hide hs
 have HT:=hide (htr rfl)
 have H:=hide h
 have L:=hide hok
 have K:=hide hk
 have hgw:g<w.heap.size:=h.b.lt
 have htq0:t.p≤q.size:=h.le
 clear h hok he hf hi hz0 hz1 hz2 hs htr hk
 go_enter Tryz.func243,Tryz.ntmps243
 go_wp2_with fail
 refine (HS.out w t.p c d o t HE.out L.out.rebase (fun _=>HT.out) K.out H.out).mono ?_
 rintro r w1 ⟨t1,f1,D1,φ1,hl,hn,hpc,rfl,hft,hok,h1⟩
 obtain ⟨N1,cap1,rfl,_,_⟩:=hok.self
 have hle1:=h1.le
 have hge1:=hl.ge
 have S:Hid (CoL g q p v n w q0 c o d [38] t.p 2 4 (fun l t=>l.any (fun φ=>φ t)) t1 1 (.slice (some ⟨w1.heap.size,0,none⟩) 1 1) (w1.alloc (.cells #[.func (.func N1) #[] cap1] 237))):=by
  refine ⟨h1.alloc _,L.out.unbase hl,hn,⟨[.func (.func N1) #[] cap1],[φ1],D1,Row.one h1.f.size hft (fun w' s φ he=>?_),rfl,rfl,fun N φ0 hN=>?_⟩,hgw,by omega,hge1⟩
  ·simp at he; subst he; exact hok w' s
  obtain ⟨N,rfl⟩:=bd_pos hN
  have hbb:=bd_in hN hge1 (Or.inr ⟨rfl,rfl,rfl⟩)
  refine ⟨N,hbb.1,?_⟩
  rw [pC,hpc N φ0 hbb.2]
  show _=pC (bs q) N 4 t1.p (fun t=>[φ1].any (fun φ=>φ t))
  rw [any_1]
 clear h1 hl hn H hft hok hpc hle1 hge1
 go_wp2_with fail
 go_loopw [3] (fun sv wr=>∃(t1:St) (j:Nat),CoL g q p v n w q0 c o d [38] t.p 2 4 (fun l t=>l.any (fun φ=>φ t)) t1 j sv wr) (fun _ wr=>q.size - mA g wr)
 case atStart=>exact ⟨t1,1,S.out⟩
 case round =>
  clear S
  obtain ⟨t2,j,hS⟩:=hrel
  have S:=hide hS
  have hjt:=hS.le
  have hge:=hS.ge
  have htq:t2.p≤q.size:=hS.qt.le
  have HM:=hide hS.qt.mA
  obtain ⟨fs,φs,D,hrow,hll,hfl,hps⟩:=hS.row
  obtain ⟨ao,cp,hse⟩:=own_slice hrow.o
  rw [hfl] at hse
  subst hse
  have R:=hide hrow
  have HLL:=hide hll
  have HFL:=hide hfl
  have HPS:=hide hps
  have e0:=hS.lv.e0
  clear hS hrow hll hfl hps
  by_cases h1:sees (bs q) t2 124=true
  ·obtain ⟨o1,o2⟩:=ok_or HT.out (Or.inl S.out.lv) h1
   have L1:=fin_live HF.out o1
   have o3:=o2 L1.e0
   obtain ⟨T0,e1⟩:=tk_must (sign:=⟨#[124,124]⟩) L1.e0
   rw [show [124,124]=nb ⟨#[124,124]⟩ from rfl,e1] at L1
   have L2:=hide L1
   have BOP:=hide (sees_b h1)
   clear h1 e0 o1 o2 o3 e1 L1
   go_wp2_with fail
   refine (c_yes S.out.qt.here hq _ T0 (t2.p+2) rfl).mono ?_
   rintro r w2 ⟨rfl,h2⟩
   have H2:=hide h2
   clear h2
   have E2:=hide (HE.out.keep (S.out.qt.join H2.out).f)
   have KK:=hide (show q.size<(t2.p+2)+k by have:=K.out; omega)
   go_wp2_with fail
   refine (HS.out w2 (t2.p+2) c d o { t2 with p:=t2.p+2 } E2.out L2.out.rebase (fun _=>HT.out) KK.out H2.out.here).mono ?_
   rintro r w3 ⟨t3,f3,D3,φ3,hl,hn,hpc,rfl,hft,hok,h3⟩
   obtain ⟨N3,cap3,rfl,_,_⟩:=hok.self
   have hkt:t2.p+2≤t3.p:=hl.ge
   have hkq:=h3.le
   have L3:=hide (L2.out.unbase hl)
   have N3':=hide hn
   have H3:=hide (H2.out.join h3)
   have FT3:=hide (hft.low H2.out.f.size)
   have OK3:=hide hok
   have PC3:=hide hpc
   clear H2 h3 hl hn hft hok hpc
   have hown3:w3.ownsRow w.heap.size 237 1 (.slice ao j cp) j fs:=own_fr (HFL.out▸R.out.o) H3.out.f (fun k hk e=>by omega)
   have hsr:w.heap.size≤wr.heap.size:=S.out.qt.f.size
   have hB3:w.heap.size≤w3.heap.size:=Nat.le_trans hsr H3.out.f.size
   go_wp2_with (at_builtin; refine wpList_append_own_at _ rfl _ _ 300 rfl w.heap.size 237 i0 .nilFunc 1 8 Tryz.underlying300 HI.out HZ0.out HZ1.out HZ2.out rfl (by decide) _ _ _ rfl (hown3.alloc _) ⟨w3.heap.size,0,none⟩ 1 1 [.func (.func N3) #[] cap3] rfl rfl ?c1 ?c2 ?c3 ?c4 ?c5 ?_)
   case c1 =>
    intro j u hj
    match j,hj with
    | 0,hj=>simp at hj; subst hj; simp [Addr.add]
   case c2=>intro u hu; simp at hu; subst hu; rfl
   case c3=>unfold maxLen; omega
   case c4=>omega
   case c5=>simp; omega
   intro v' w4 hown4 hgrow _ hvb
   have hst:∀N,bd q 4 t2.p≤N→∃N',bd q 4 t3.p≤N'∧pC (bs q) N 4 t2.p (fun t=>φs.any (fun φ=>φ t))=pC (bs q) N' 4 t3.p (fun t=>(φs++[φ3]).any (fun φ=>φ t)):=by
    intro N hN
    obtain ⟨N,rfl⟩:=bd_pos hN
    have hbb:=bd_on hN hkt hkq (Or.inr ⟨rfl,rfl⟩)
    refine ⟨N,hbb.1,?_⟩
    rw [pC,if_pos BOP.out,PC3.out N _ hbb.2,any_s]
   have S2:Hid (CoL g q p v n w q0 c o d [38] t.p 2 4 (fun l t=>l.any (fun φ=>φ t)) t3 (j+1) v' w4) :=
    ⟨(S.out.qt.join (H3.out.alloc _)).grown hgrow (fun k hk=>(hown3.lt k hk).1) hgw (Nat.le_refl _),L3.out,N3'.out,RcL.next R.out HLL.out HFL.out HPS.out (H3.out.alloc _).f hgw hsr (FT3.out.keep (Sm.alloc FT3.out _)) (OK3.out.keep (Sm.alloc FT3.out _)) hst hgrow hown4 (by simpa using hvb),hgw,by omega,by omega⟩
   clear hown4 hgrow hown3 hst
   go_wp2
   go_roundw
   case rel=>exact ⟨_,_,S2.out⟩
   case measure =>
    have m1:mA g wr=t2.p:=HM.out
    have m2:mA g w4=t3.p:=S2.out.qt.mA
    rw [m1,m2]
    omega
  have h1:sees (bs q) t2 124=false:=by simpa using h1
  have T0:=tk_ne (sign:=⟨#[124,124]⟩) e0 rfl h1
  have hb:bt (bs q) t2.p≠124:=by simpa [sees,e0] using h1
  have HB:=hide hb
  clear h1 hb e0
  go_wp2_with fail
  refine (c_no S.out.qt.here hq _ T0).mono ?_
  rintro r w2 ⟨rfl,h2⟩
  have H2:=hide h2
  have R2:=hide (R.out.fr h2.f (fun k hk e=>by omega))
  have hsz2:w.heap.size≤w2.heap.size:=(S.out.qt.join h2).f.size
  clear h2
  go_wp2_with fail
  refine (m_oneMet R2.out (by rw [HLL.out,HFL.out]) (by rw [HFL.out]; omega) hsz2).mono ?_
  rintro r w3 ⟨⟨f3,D3,rfl,hft,hok⟩,hb3⟩
  obtain ⟨N3,cap3,rfl,_,_⟩:=hok.self
  have H3:=hide (S.out.qt.join (H2.out.below hb3))
  have FT3:=hide hft
  have OK3:=hide hok
  clear H2 hb3 hft hok
  go_wp2
  go_ret
  refine ⟨t2,_,_,_,S.out.lv,fun b hb=>?_,fun N φ0 hN=>?_,rfl,FT3.out,OK3.out,H3.out⟩
  ·simp only [List.mem_cons,List.mem_nil_iff,or_false] at hb
   have hn:=S.out.nb
   simp only [List.mem_cons,List.mem_nil_iff,or_false] at hn
   rcases hb with rfl | rfl
   ·exact hn _ rfl
   exact HB.out
  obtain ⟨N',h1,h2⟩:=HPS.out N φ0 hN
  rw [h2]
  obtain ⟨N',rfl⟩:=bd_pos h1
  rw [pC,if_neg HB.out]
end Go.Proofs.YtcbadebjpogmlaaGreatDoor
namespace Go.Proofs.YtcbadebjpogmlaaGreatDoor
open Go.RowKit Tr
theorem bt_lt {q:ByteArray} {a b:Nat} (h:bt (bs q) a=b) (hb:b<256):a<q.size:=by
 rcases Nat.lt_or_ge a q.size with x | x
 ·exact x
 rw [btB_ge (by omega)] at h; omega
theorem CdC.weak {g:Nat} {q:ByteArray} {p v:Value} {n:Nat} {f:FuncId} {m:Nat} {l:List Nat} {k:Nat} (h:CdC g q p v n f m l false k):CdC g q p v n f m l true k :=
 fun w q0 c d o t he hok _ hk hq=>h w q0 c d o t he hok (fun x=>by cases x) hk hq
theorem fin_push {q:ByteArray} (hf:FinP (bs q)) {q0 c d:Nat} {o:List UInt8} {t:St} (x:UInt8) (hx:x=33∨x=40) (h:Live (bs q) q0 c 10 o d t) (hb:sees (bs q) t x.toNat=true):Live (bs q) q0 c 10 (o++[x]) d (adv t):=by
 by_cases ho:o.length=6
 ·have:=fin_live hf (ok_deep x.toNat (by rcases hx with rfl | rfl; exact Or.inl rfl; exact Or.inr rfl) (Or.inl h) hb ho)
  have:=this.e0
  simp [wrong,h.e0] at this
 exact live_push x hx (Or.inl h) hb ho
set_option maxHeartbeats 1000000 in
theorem pa_bang {g:Nat} {q:ByteArray} {p v:Value} {n k:Nat} (hq:q.size≤1000) (hs:CdC g q p v n 265 0 [] false k) {w:World} {q0 c d:Nat} {o:List UInt8} {t:St} (he:Er g w) (h:Qt g q p v n w t.p w)
 (T0:tk q t.p ⟨#[33]⟩=true) (b33:Hid (bt (bs q) t.p=33)) (hok:Live (bs q) q0 c 10 (o++[33]) d (adv t)) (hk:q.size<t.p+1+k) :
 Calls Tryz.prog 265 #[.pointer (some ⟨g,0,none⟩)] w (CdM g q p v n w q0 c o d [] 0 t.p):=by
 have HG:=hide h.b.lt
 have HLE:=hide h.le
 have H:=hide h
 have HE:=hide he
 have HS:=hide hs
 have L:=hide hok
 have K:=hide hk
 clear h he hs hok hk
 go_enter Tryz.func265,Tryz.ntmps265
 go_wp2_with fail
 refine (c_yes H.out hq _ T0 (t.p+1) rfl).mono ?_
 rintro r w1 ⟨rfl,h1⟩
 clear H
 have H:=hide h1
 clear h1
 go_wp2_with fail
 refine (HS.out w1 q0 c d (o++[33]) (adv t) (HE.out.keep H.out.f) L.out (fun x=>by cases x) K.out H.out.here).mono ?_
 rintro r w2 ⟨t2,f2,D2,φ2,hl,_,hpc,rfl,hft,hok,h2⟩
 obtain ⟨N2,cap2,rfl,_,_⟩:=hok.self
 have L2:=hide hl
 have H2:=hide (H.out.join h2)
 have FT2:=hide (hft.low H.out.f.size)
 have OK2:=hide hok
 have PC2:=hide hpc
 clear h2 hl H hft hok hpc
 go_wp2_with fail
 refine (m_notMet FT2.out OK2.out H2.out.f.size).mono ?_
 rintro r w3 ⟨⟨f3,D3,rfl,hft,hok⟩,hb3⟩
 obtain ⟨N3,cap3,rfl,_,_⟩:=hok.self
 have H3:=hide (H2.out.below hb3)
 have FT3:=hide hft
 have OK3:=hide hok
 clear H2 hb3 hft hok
 go_wp2
 go_ret
 refine ⟨t2,_,_,_,?_,fun b hb=>by (cases hb),fun N φ0 hN=>?_,rfl,FT3.out,OK3.out,H3.out⟩
 ·rcases ok_unbang (Or.inl L2.out) with x | x
  ·exact x
  exact absurd L2.out.e0 x.ne
 obtain ⟨N,rfl⟩:=bd_pos hN
 have hx:bd q 0 (t.p+1)≤N:=by have:=bt_lt b33.out (by decide); simp [bd] at *; omega
 have:=PC2.out N φ0 hx
 rw [pC,if_pos b33.out,show t.p+1=(adv t).p from rfl,this]
set_option maxHeartbeats 1000000 in
theorem pa_open {g:Nat} {q:ByteArray} {p v:Value} {n k:Nat} (hq:q.size≤1000) (hf:FinP (bs q)) (hs:CdC g q p v n 243 2 [38,124] true k) {w:World} {q0 c d:Nat} {o:List UInt8} {t:St} (he:Er g w) (h:Qt g q p v n w t.p w)
 (T0:tk q t.p ⟨#[33]⟩=false) (T1:tk q t.p ⟨#[40]⟩=true) (b40:Hid (bt (bs q) t.p=40)) (hok:Live (bs q) q0 c 10 (o++[40]) d (adv t)) (hk:q.size<t.p+1+k) :
 Calls Tryz.prog 265 #[.pointer (some ⟨g,0,none⟩)] w (CdM g q p v n w q0 c o d [] 0 t.p):=by
 have HG:=hide h.b.lt
 have HLE:=hide h.le
 have H:=hide h
 have HE:=hide he
 have HF:=hide hf
 have HS:=hide hs
 have L:=hide hok
 have K:=hide hk
 clear h he hs hok hk hf
 go_enter Tryz.func265,Tryz.ntmps265
 go_wp2_with fail
 refine (c_no H.out hq _ T0).mono ?_
 rintro r w1 ⟨rfl,h1⟩
 clear H
 have H:=hide h1
 clear h1
 go_wp2_with fail
 refine (c_yes H.out hq _ T1 (t.p+1) rfl).mono ?_
 rintro r w1 ⟨rfl,h1⟩
 clear H
 have H:=hide h1
 clear h1
 go_wp2_with fail
 refine (HS.out w1 q0 c d (o++[40]) (adv t) (HE.out.keep H.out.f) L.out (fun _=>trimR_open o) K.out H.out.here).mono ?_
 rintro r w2 ⟨t2,f2,D2,φ2,hl,hn,hpc,rfl,hft,hok,h2⟩
 obtain ⟨N2,cap2,rfl,_,_⟩:=hok.self
 have a1:=fin_live HF.out (ok_close (Or.inl hl) (fun _=>⟨hn 38 (by simp),hn 124 (by simp)⟩))
 obtain ⟨T2,e2⟩:=tk_must (sign:=⟨#[41]⟩) a1.e0
 rw [show [41]=nb ⟨#[41]⟩ from rfl,e2] at a1
 have L2:=hide a1
 have H2:=hide (H.out.join h2)
 have FT2:=hide (hft.low H.out.f.size)
 have OK2:=hide hok
 have PC2:=hide hpc
 have hgw:g<w.heap.size:=HG.out
 clear h2 hl H hn a1 e2 hft hok hpc
 go_wp2_with fail
 refine (c_yes H2.out.here hq _ T2 (t2.p+1) rfl).mono ?_
 rintro r w3 ⟨rfl,h3⟩
 have S3:Sm D2 w2 w3:=Sm.fr FT2.out h3.f (fun k hk e=>by omega)
 have FT3:=hide (FT2.out.keep S3)
 have OK3:=hide (OK2.out.keep S3)
 have H3:=hide (H2.out.join h3)
 clear h3 H2 S3
 go_wp2
 go_ret
 refine ⟨_,_,_,_,L2.out,fun b hb=>by (cases hb),fun N φ0 hN=>?_,rfl,FT3.out,OK3.out,H3.out⟩
 obtain ⟨N,rfl⟩:=bd_pos hN
 have hx:bd q 2 (t.p+1)≤N:=by have:=bt_lt b40.out (by decide); simp [bd] at *; omega
 have:=PC2.out N φ0 hx
 rw [pC,if_neg (by rw [b40.out]; decide),if_pos b40.out,show t.p+1=(adv t).p from rfl,this]
 rfl
set_option maxHeartbeats 1000000 in
theorem pa_at {g:Nat} {q:ByteArray} {p v:Value} {n:Nat} (hq:q.size≤1000) (hf:FinP (bs q)) {w:World} {q0 c d:Nat} {o:List UInt8} {t:St} (he:Er g w) (h:Qt g q p v n w t.p w)
 (T0:tk q t.p ⟨#[33]⟩=false) (T1:tk q t.p ⟨#[40]⟩=false) (T2:tk q t.p ⟨#[64]⟩=true) (b64:Hid (bt (bs q) t.p≠33∧bt (bs q) t.p≠40)) (hok:Live (bs q) q0 c 11 o d { t with p:=t.p+1 }) :
 Calls Tryz.prog 265 #[.pointer (some ⟨g,0,none⟩)] w (CdM g q p v n w q0 c o d [] 0 t.p):=by
 have HG:=hide h.b.lt
 have HLE:=hide h.le
 have H:=hide h
 have HE:=hide he
 have HF:=hide hf
 have L:=hide hok
 clear h he hok hf
 go_enter Tryz.func265,Tryz.ntmps265
 go_wp2_with fail
 refine (c_no H.out hq _ T0).mono ?_
 rintro r w1 ⟨rfl,h1⟩
 clear H
 have H:=hide h1
 clear h1
 go_wp2_with fail
 refine (c_no H.out hq _ T1).mono ?_
 rintro r w1 ⟨rfl,h1⟩
 clear H
 have H:=hide h1
 clear h1
 go_wp2_with fail
 refine (c_yes H.out hq _ T2 (t.p+1) rfl).mono ?_
 rintro r w1 ⟨rfl,h1⟩
 clear H
 have H:=hide h1
 clear h1
 go_wp2_with fail
 refine (k_steps (t:={ t with p:=t.p+1 }) hq HF.out HE.out L.out H.out).mono ?_
 rintro r w2 ⟨t2,sv,fs,l,D,hl,hb,rfl,hrow,hll,hfl,hps,h2⟩
 obtain ⟨ao,cp,hse⟩:=own_slice hrow.o
 have L2:=hide hl
 have B2:=hide hb
 have H2:=hide h2
 have R2:=hide hrow
 have PS2:=hide hps
 clear h2 hl hb H hrow hps
 have M2:=hide (m_leadBy R2.out hll hfl H2.out.f.size)
 have FL:=hide hfl
 obtain ⟨j,hjj⟩:∃j,j=fs.length:=⟨_,rfl⟩
 rw [← hjj] at hse
 subst hse
 clear hjj hll hfl R2
 go_wp2_with fail
 refine (M2.out).mono ?_
 rintro r w3 ⟨⟨f3,D3,rfl,hft,hok⟩,hb3⟩
 obtain ⟨N3,cap3,rfl,_,_⟩:=hok.self
 have H3:=hide (H2.out.below hb3)
 have FT3:=hide hft
 have OK3:=hide hok
 clear H2 hb3 hft hok M2
 go_wp2_with fail
 refine (k_test hq HF.out (HE.out.keep H3.out.f) L2.out B2.out H3.out.here FT3.out OK3.out H3.out.f.size HG.out).mono ?_
 rintro r w4 ⟨t4,f4,D4,hl,hrp,rfl,hft,hok,h4⟩
 obtain ⟨N4,cap4,rfl,_,_⟩:=hok.self
 have L4:=hide hl
 have H4:=hide (H3.out.join h4)
 have FT4:=hide hft
 have OK4:=hide hok
 have RP:=hide hrp
 clear h4 hl H3 hft hok hrp
 go_wp2
 go_ret
 refine ⟨t4,_,_,_,L4.out,fun b hb=>by (cases hb),fun N φ0 hN=>?_,rfl,FT4.out,OK4.out,H4.out⟩
 obtain ⟨N,rfl⟩:=bd_pos hN
 have e:pTest (bs q) t.p=pOp (bs q) l t2.p:=by
  unfold pTest
  rw [bs_len,show pSteps (bs q) (q.size+1) (t.p+1) []=⟨l,t2.p⟩ from PS2.out]
 rw [pC,if_neg b64.out.1,if_neg b64.out.2,e,← RP.out]
theorem k_part {g:Nat} {q:ByteArray} {p v:Value} {n:Nat} (hq:q.size≤1000) (hf:FinP (bs q)):∀k,CdC g q p v n 265 0 [] false k:=by
 intro k
 induction k with
 | zero =>
  intro w q0 c d o t _ hok _ hk _
  have:=hok.le
  rw [bs_len] at this
  omega
 | succ k ih =>
  intro w q0 c d o t he hok _ hk h
  have e0:=hok.e0
  by_cases h1:sees (bs q) t 33=true
  ·exact pa_bang hq ih he h ((tk1 q e0 33).trans h1) (hide (sees_b h1)) (fin_push hf 33 (Or.inl rfl) hok h1) (by omega)
  have h1:sees (bs q) t 33=false:=by simpa using h1
  have T0:=tk_ne (sign:=⟨#[33]⟩) e0 rfl h1
  by_cases h2:sees (bs q) t 40=true
  ·exact pa_open hq hf (k_condition hq hf (k_conjunction hq hf ih.weak)) he h T0 ((tk1 q e0 40).trans h2) (hide (sees_b h2)) (fin_push hf 40 (Or.inr rfl) hok h2) (by omega)
  have h2:sees (bs q) t 40=false:=by simpa using h2
  have T1:=tk_ne (sign:=⟨#[40]⟩) e0 rfl h2
  have a1:=fin_live hf (ok_at (Or.inl hok) h1 h2)
  obtain ⟨T2,e2⟩:=tk_must (sign:=⟨#[64]⟩) a1.e0
  rw [show [64]=nb ⟨#[64]⟩ from rfl,e2] at a1
  exact pa_at hq hf he h T0 T1 T2 (hide ⟨sees_nb e0 h1,sees_nb e0 h2⟩) a1
theorem k_cond {g:Nat} {q:ByteArray} {p v:Value} {n:Nat} (hq:q.size≤1000) (hf:FinP (bs q)) {w:World} {q0 c d:Nat} {t:St} (he:Er g w) (hok:Live (bs q) q0 c 10 [] d t) (h:Qt g q p v n w t.p w) :
 Calls Tryz.prog 243 #[.pointer (some ⟨g,0,none⟩)] w (CdM g q p v n w q0 c [] d [38,124] 2 t.p) :=
 k_condition hq hf (k_conjunction hq hf (k_part hq hf (q.size+1)).weak) w q0 c d [] t he hok (fun _=>trimR_nil) (by omega) h
end Go.Proofs.YtcbadebjpogmlaaGreatDoor
