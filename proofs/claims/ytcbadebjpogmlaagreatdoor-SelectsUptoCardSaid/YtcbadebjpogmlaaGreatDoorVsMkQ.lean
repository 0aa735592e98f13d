import Derived.Test.YtcbadebjpogmlaaGreatDoorVsMkO
set_option maxHeartbeats 2000000
namespace Go.Proofs.YtcbadebjpogmlaaGreatDoor
open Go.RowKit Tr
theorem xp:(Tryz.prog.info? 237).map (λ i=>(i.zero,i.size,i.bytes))=some (some .nilFunc,1,8):=by kernel_rfl
def bd (q:ByteArray) (m a:Nat):Nat:=4 * (q.size - a)+(if m<=2 then m+1 else 1)
theorem VY (φ:Tv->Bool):(λ t=>[φ].all (λ φ=>φ t))=φ:=by funext t; simp
theorem VZ (φ:Tv->Bool):(λ t=>[φ].any (λ φ=>φ t))=φ:=by funext t; simp
theorem V0 (l:List (Tv->Bool)) (φ:Tv->Bool):(λ t=>(l++[φ]).all (λ φ=>φ t))=λ t=>l.all (λ φ=>φ t) && φ t:=by funext t; simp
theorem V1 (l:List (Tv->Bool)) (φ:Tv->Bool):(λ t=>(l++[φ]).any (λ φ=>φ t))=λ t=>l.any (λ φ=>φ t) || φ t:=by funext t; simp
theorem j6 {q:ByteArray} {m a N:Nat} (h:bd q m a<=N):∃N2,N=N2+1:=⟨N - 1,by unfold bd at h; split at h<;>omega⟩
theorem O7 {q:ByteArray} {m m' m1 a b N:Nat} (h:bd q m a<=N+1) (hab:a<=b) (hm:m=1/\m'=0/\m1=3\/m=2/\m'=1/\m1=4):bd q m1 b<=N/\bd q m' a<=N:=by
 rcases hm with ⟨rfl,rfl,rfl⟩ | ⟨rfl,rfl,rfl⟩<;>simp [bd] at *<;>omega
theorem O_ {q:ByteArray} {m' m1 a b N:Nat} (h:bd q m1 a<=N+1) (hab:a+2<=b) (hb:b<=q.size) (hm:m'=0/\m1=3\/m'=1/\m1=4):bd q m1 b<=N/\bd q m' (a+2)<=N:=by
 rcases hm with ⟨rfl,rfl⟩ | ⟨rfl,rfl⟩<;>simp [bd] at *<;>omega
def V3 (g:Nat) (q:ByteArray) (p v:Value) (n:Nat) (w0:World) (q0 c:Nat) (o:List UInt8) (d:Nat) (l:List Nat) (m a:Nat) (r:Ending) (w':World):Prop :=
 ∃t' f D φ,Live (bs q) q0 c 18 o d t'/\(∀b ∈ l,bt (bs q) t'.p≠b)/\(∀N φ0,bd q m a<=N->pC (bs q) N m a φ0=⟨φ,t'.p⟩)/\r=.returned f/\Ft D w0.heap.size w'/\fR D w' (λ w=>dh w f φ)/\Qt g q p v n w0 t'.p w'
def Kv (g:Nat) (q:ByteArray) (p v:Value) (n:Nat) (f:FuncId) (m:Nat) (l:List Nat) (tr:Bool) (k:Nat):Prop :=
 ∀(w:World) (q0 c d:Nat) (o:List UInt8) (t:St),Er g w->Live (bs q) q0 c 10 o d t->(tr=true->bD o=o)->q.size<t.p+k->Qt g q p v n w t.p w ->
  Calls Tryz.prog f #[.pointer (some ⟨g,0,none⟩)] w (V3 g q p v n w q0 c o d l m t.p)
def V4 (q:ByteArray) (B m0 a0 m1 a:Nat) (ψ:List (Tv->Bool)->Tv->Bool) (j:Nat) (sv:Value) (wr:World):Prop:=∃fs φs D,Row 237 B (λ i w f=>∀φ,φs[i]?=some φ->dh w f φ) D sv fs wr/\φs.length=j/\fs.length=j /\
 ∀N φ0,bd q m0 a0<=N->∃N',bd q m1 a<=N'/\pC (bs q) N m0 a0 φ0=pC (bs q) N' m1 a (ψ φs)
theorem V4.next {q:ByteArray} {B m0 a0 m1 a a' j g:Nat} {ψ:List (Tv->Bool)->Tv->Bool} {sv jG:Value} {wr w1 w2:World} {fs:List Value} {φs:List (Tv->Bool)} {D D2:Nat->Prop} {f:Value} {φ:Tv->Bool}
 (R:Row 237 B (λ i w f=>∀φ,φs[i]?=some φ->dh w f φ) D sv fs wr) (hl:φs.length=j) (hf:fs.length=j) (hps:∀N φ0,bd q m0 a0<=N->∃N',bd q m1 a<=N'/\pC (bs q) N m0 a0 φ0=pC (bs q) N' m1 a (ψ φs))
 (h1:Fr (λ k=>k=g) wr w1) (hgB:g<B) (hsz:B<=wr.heap.size) (ft:Ft D2 wr.heap.size w1) (ok:fR D2 w1 (λ w=>dh w f φ)) (hst:∀N,bd q m1 a<=N->∃N',bd q m1 a'<=N'/\pC (bs q) N m1 a (ψ φs)=pC (bs q) N' m1 a' (ψ (φs++[φ])))
 (hg:w1.grownBy w2 sv.ownBlock) (hown:w2.ownsRow B 237 1 jG (j+1) (fs++[f])) (hb:jG.ownBlock=sv.ownBlock\/jG.ownBlock=some w1.heap.size):V4 q B m0 a0 m1 a' ψ (j+1) jG w2:=by
 have R1:=R.fr h1 (λ k hk e=>by omega)
 refine ⟨fs++[f],φs++[φ],λ k=>D k\/D2 k,?_,by simp [hl],by simp [hf],λ N φ0 hN=>?_⟩
 ·have R2:Row 237 B (λ i w f=>∀φ',(φs++[φ])[i]?=some φ'->dh w f φ') D sv fs w1:=⟨R1.o,R1.ft,R1.ne,λ i hi w' s φ' he=>R1.ok i hi w' s φ' (by rw [List.getElem?_append_left (by omega)] at he; exact he)⟩
  refine R2.push (A:=wr.heap.size) (λ k hk=>(R.o.lt k hk).2) hsz ft (λ w' s φ' he=>?_) (by rw [hf]; exact hown) hg hb
  rw [hf,<-hl] at he
  simp at he
  subst he
  exact ok w' s
 obtain ⟨N1,h1,h2⟩:=hps N φ0 hN
 obtain ⟨N2,h3,h4⟩:=hst N1 h1
 exact ⟨N2,h3,h2.trans h4⟩
structure T6 (g:Nat) (q:ByteArray) (p v:Value) (n:Nat) (w0:World) (q0 c:Nat) (o:List UInt8) (d:Nat) (l:List Nat) (b0 m0 m1:Nat) (ψ:List (Tv->Bool)->Tv->Bool) (t:St) (j:Nat) (sv:Value) (wr:World):Prop where
 qt:Qt g q p v n w0 t.p wr
 lv:Live (bs q) q0 c 18 o d t
 nb:∀b ∈ l,bt (bs q) t.p≠b
 row:V4 q w0.heap.size m0 b0 m1 t.p ψ j sv wr
 gb:g<w0.heap.size
 le:2 * j<=t.p+2
 ge:b0<=t.p
theorem lQ {g:Nat} {q:ByteArray} {p v:Value} {n:Nat} (hq:q.size<=1000) (hf:bz (bs q)) {k:Nat} (hs:Kv g q p v n 265 0 [] true k):Kv g q p v n 256 1 [38] true k:=by
 intro w q0 c d o t he hok Ku hk h
 obtain ⟨i0,hi,hz0,hz1,dN⟩:=info_parts xp
 have HI:=aa hi
 have ia:=aa hz0
 have gO:=aa hz1
 have ic:=aa dN
 have HE:=aa he
 have HF:=aa hf
 have HS:=aa hs
 have HT:=aa (Ku rfl)
 have H:=aa h
 have L:=aa hok
 have K:=aa hk
 have l5:g<w.heap.size:=h.b.lt
 have Hv:t.p<=q.size:=h.le
 clear h hok he hf hi hz0 hz1 dN hs Ku hk
 go_enter Tryz.func256,Tryz.ntmps256
 go_wp2_with fail
 refine (HS.out w t.p c d o t HE.out L.out.nV (λ_=>HT.out) K.out H.out).mono ?_
 rintro r w1 ⟨t1,f1,D1,φ1,hl,hn,eV,rfl,hft,hok,h1⟩
 obtain ⟨N1,nW,rfl,_,_⟩:=hok.self
 have Rj:=h1.le
 have uJ:=hl.ge
 have S:Hid (T6 g q p v n w q0 c o d [] t.p 1 3 (λ l t=>l.all (λ φ=>φ t)) t1 1 (.slice (some ⟨w1.heap.size,0,none⟩) 1 1) (w1.alloc (.cells #[.func (.func N1) #[] nW] 237))):=by
  refine ⟨h1.alloc _,L.out.nX hl,hn,⟨[.func (.func N1) #[] nW],[φ1],D1,Row.one h1.f.size hft (λ w' s φ he=>?_),rfl,rfl,λ N φ0 hN=>?_⟩,l5,by omega,uJ⟩
  ·simp at he; subst he; exact hok w' s
  obtain ⟨N,rfl⟩:=j6 hN
  have Hw:=O7 hN uJ (Or.inl ⟨rfl,rfl,rfl⟩)
  refine ⟨N,Hw.1,?_⟩
  rw [pC,eV N φ0 Hw.2]
  show _=pC (bs q) N 3 t1.p (λ t=>[φ1].all (λ φ=>φ t))
  rw [VY]
 clear h1 hl hn H hft hok eV Rj uJ
 go_wp2_with fail
 go_loopw [3] (λ sv wr=>∃(t1:St) (j:Nat),T6 g q p v n w q0 c o d [] t.p 1 3 (λ l t=>l.all (λ φ=>φ t)) t1 j sv wr) (λ_ wr=>q.size - mA g wr)
 case atStart=>exact ⟨t1,1,S.out⟩
 case round =>
  clear S
  obtain ⟨t2,j,hS⟩:=hrel
  have S:=aa hS
  have YD:=hS.le
  have hge:=hS.ge
  have YE:t2.p<=q.size:=hS.qt.le
  have HM:=aa hS.qt.mA
  obtain ⟨fs,φs,D,hrow,jT,hfl,hps⟩:=hS.row
  obtain ⟨ao,cp,qE⟩:=ah hrow.o
  rw [hfl] at qE
  subst qE
  have R:=aa hrow
  have js:=aa jT
  have pE:=aa hfl
  have zP:=aa hps
  have e0:=hS.lv.e0
  clear hS hrow jT hfl hps
  by_cases h1:aj (bs q) t2 38=true
  ·obtain ⟨o1,o2⟩:=Hx HT.out (Or.inl S.out.lv) h1
   have L1:=aA HF.out o1
   have o3:=o2 L1.e0
   obtain ⟨T0,e1⟩:=gQ (sign:=⟨#[38,38]⟩) L1.e0
   rw [show [38,38]=nb ⟨#[38,38]⟩ from rfl,e1] at L1
   have L2:=aa L1
   have BOP:=aa (cX h1)
   clear h1 e0 o1 o2 o3 e1 L1
   go_wp2_with fail
   refine (de S.out.qt.here hq _ T0 (t2.p+2) rfl).mono ?_
   rintro r w2 ⟨rfl,h2⟩
   have H2:=aa h2
   clear h2
   have E2:=aa (HE.out.keep (S.out.qt.join H2.out).f)
   have KK:=aa (show q.size<(t2.p+2)+k by have:=K.out; omega)
   go_wp2_with fail
   refine (HS.out w2 (t2.p+2) c d o { t2 with p:=t2.p+2 } E2.out L2.out.nV (λ_=>HT.out) KK.out H2.out.here).mono ?_
   rintro r w3 ⟨t3,f3,D3,φ3,hl,hn,eV,rfl,hft,hok,h3⟩
   obtain ⟨N3,jJ,rfl,_,_⟩:=hok.self
   have hkt:t2.p+2<=t3.p:=hl.ge
   have wT:=h3.le
   have L3:=aa (L2.out.nX hl)
   have N3':=aa hn
   have H3:=aa (H2.out.join h3)
   have lP:=aa (hft.low H2.out.f.size)
   have rZ:=aa hok
   have PC3:=aa eV
   clear H2 h3 hl hn hft hok eV
   have bI:w3.ownsRow w.heap.size 237 1 (.slice ao j cp) j fs:=aW (pE.out▸R.out.o) H3.out.f (λ k hk e=>by omega)
   have E8:w.heap.size<=wr.heap.size:=S.out.qt.f.size
   have Rf:w.heap.size<=w3.heap.size:=Nat.le_trans E8 H3.out.f.size
   go_wp2_with (at_builtin; refine wpList_append_own_at _ rfl _ _ 300 rfl w.heap.size 237 i0 .nilFunc 1 8 Tryz.underlying300 HI.out ia.out gO.out ic.out rfl (by decide) _ _ _ rfl (bI.alloc _) ⟨w3.heap.size,0,none⟩ 1 1 [.func (.func N3) #[] jJ] rfl rfl ?c1 ?c2 ?c3 ?c4 ?c5 ?_)
   case c1 =>
    intro j u hj
    match j,hj with
    | 0,hj=>simp at hj; subst hj; simp [Addr.add]
   case c2=>intro u hu; simp at hu; subst hu; rfl
   case c3=>unfold maxLen; omega
   case c4=>omega
   case c5=>simp; omega
   intro v' w4 b7 hgrow _ kP
   have hst:∀N,bd q 3 t2.p<=N->∃N',bd q 3 t3.p<=N'/\pC (bs q) N 3 t2.p (λ t=>φs.all (λ φ=>φ t))=pC (bs q) N' 3 t3.p (λ t=>(φs++[φ3]).all (λ φ=>φ t)):=by
    intro N hN
    obtain ⟨N,rfl⟩:=j6 hN
    have Hw:=O_ hN hkt wT (Or.inl ⟨rfl,rfl⟩)
    refine ⟨N,Hw.1,?_⟩
    rw [pC,if_pos BOP.out,PC3.out N _ Hw.2,V0]
   have S2:Hid (T6 g q p v n w q0 c o d [] t.p 1 3 (λ l t=>l.all (λ φ=>φ t)) t3 (j+1) v' w4) :=
    ⟨(S.out.qt.join (H3.out.alloc _)).grown hgrow (λ k hk=>(bI.lt k hk).1) l5 (Nat.le_refl _),L3.out,N3'.out,V4.next R.out js.out pE.out zP.out (H3.out.alloc _).f l5 E8 (lP.out.keep (Sm.alloc lP.out _)) (rZ.out.keep (Sm.alloc lP.out _)) hst hgrow b7 (by simpa using kP),l5,by omega,by omega⟩
   clear b7 hgrow bI hst
   go_wp2
   go_roundw
   case rel=>exact ⟨_,_,S2.out⟩
   case measure =>
    have m1:mA g wr=t2.p:=HM.out
    have m2:mA g w4=t3.p:=S2.out.qt.mA
    rw [m1,m2]
    omega
  have h1:aj (bs q) t2 38=false:=by simpa using h1
  have T0:=fm (sign:=⟨#[38,38]⟩) e0 rfl h1
  have hb:bt (bs q) t2.p≠38:=by simpa [aj,e0] using h1
  have HB:=aa hb
  clear h1 hb e0
  go_wp2_with fail
  refine (cI S.out.qt.here hq _ T0).mono ?_
  rintro r w2 ⟨rfl,h2⟩
  have H2:=aa h2
  have R2:=aa (R.out.fr h2.f (λ k hk e=>by omega))
  have uz:w.heap.size<=w2.heap.size:=(S.out.qt.join h2).f.size
  clear h2
  go_wp2_with fail
  refine (Hr R2.out (by rw [js.out,pE.out]) (by rw [pE.out]; omega) uz).mono ?_
  rintro r w3 ⟨⟨f3,D3,rfl,hft,hok⟩,lp⟩
  obtain ⟨N3,jJ,rfl,_,_⟩:=hok.self
  have H3:=aa (S.out.qt.join (H2.out.below lp))
  have lP:=aa hft
  have rZ:=aa hok
  clear H2 lp hft hok
  go_wp2
  go_ret
  refine ⟨t2,_,_,_,S.out.lv,λ b hb=>?_,λ N φ0 hN=>?_,rfl,lP.out,rZ.out,H3.out⟩
  ·simp only [List.mem_cons,List.mem_nil_iff,or_false] at hb
   rw [hb]; exact HB.out
  obtain ⟨N',h1,h2⟩:=zP.out N φ0 hN
  rw [h2]
  obtain ⟨N',rfl⟩:=j6 h1
  rw [pC,if_neg HB.out]
theorem oH {g:Nat} {q:ByteArray} {p v:Value} {n:Nat} (hq:q.size<=1000) (hf:bz (bs q)) {k:Nat} (hs:Kv g q p v n 256 1 [38] true k):Kv g q p v n 243 2 [38,124] true k:=by
 intro w q0 c d o t he hok Ku hk h
 obtain ⟨i0,hi,hz0,hz1,dN⟩:=info_parts xp
 have HI:=aa hi
 have ia:=aa hz0
 have gO:=aa hz1
 have ic:=aa dN
 have HE:=aa he
 have HF:=aa hf
 have HS:=aa hs
 have HT:=aa (Ku rfl)
 have H:=aa h
 have L:=aa hok
 have K:=aa hk
 have l5:g<w.heap.size:=h.b.lt
 have Hv:t.p<=q.size:=h.le
 clear h hok he hf hi hz0 hz1 dN hs Ku hk
 go_enter Tryz.func243,Tryz.ntmps243
 go_wp2_with fail
 refine (HS.out w t.p c d o t HE.out L.out.nV (λ_=>HT.out) K.out H.out).mono ?_
 rintro r w1 ⟨t1,f1,D1,φ1,hl,hn,eV,rfl,hft,hok,h1⟩
 obtain ⟨N1,nW,rfl,_,_⟩:=hok.self
 have Rj:=h1.le
 have uJ:=hl.ge
 have S:Hid (T6 g q p v n w q0 c o d [38] t.p 2 4 (λ l t=>l.any (λ φ=>φ t)) t1 1 (.slice (some ⟨w1.heap.size,0,none⟩) 1 1) (w1.alloc (.cells #[.func (.func N1) #[] nW] 237))):=by
  refine ⟨h1.alloc _,L.out.nX hl,hn,⟨[.func (.func N1) #[] nW],[φ1],D1,Row.one h1.f.size hft (λ w' s φ he=>?_),rfl,rfl,λ N φ0 hN=>?_⟩,l5,by omega,uJ⟩
  ·simp at he; subst he; exact hok w' s
  obtain ⟨N,rfl⟩:=j6 hN
  have Hw:=O7 hN uJ (Or.inr ⟨rfl,rfl,rfl⟩)
  refine ⟨N,Hw.1,?_⟩
  rw [pC,eV N φ0 Hw.2]
  show _=pC (bs q) N 4 t1.p (λ t=>[φ1].any (λ φ=>φ t))
  rw [VZ]
 clear h1 hl hn H hft hok eV Rj uJ
 go_wp2_with fail
 go_loopw [3] (λ sv wr=>∃(t1:St) (j:Nat),T6 g q p v n w q0 c o d [38] t.p 2 4 (λ l t=>l.any (λ φ=>φ t)) t1 j sv wr) (λ_ wr=>q.size - mA g wr)
 case atStart=>exact ⟨t1,1,S.out⟩
 case round =>
  clear S
  obtain ⟨t2,j,hS⟩:=hrel
  have S:=aa hS
  have YD:=hS.le
  have hge:=hS.ge
  have YE:t2.p<=q.size:=hS.qt.le
  have HM:=aa hS.qt.mA
  obtain ⟨fs,φs,D,hrow,jT,hfl,hps⟩:=hS.row
  obtain ⟨ao,cp,qE⟩:=ah hrow.o
  rw [hfl] at qE
  subst qE
  have R:=aa hrow
  have js:=aa jT
  have pE:=aa hfl
  have zP:=aa hps
  have e0:=hS.lv.e0
  clear hS hrow jT hfl hps
  by_cases h1:aj (bs q) t2 124=true
  ·obtain ⟨o1,o2⟩:=Pa HT.out (Or.inl S.out.lv) h1
   have L1:=aA HF.out o1
   have o3:=o2 L1.e0
   obtain ⟨T0,e1⟩:=gQ (sign:=⟨#[124,124]⟩) L1.e0
   rw [show [124,124]=nb ⟨#[124,124]⟩ from rfl,e1] at L1
   have L2:=aa L1
   have BOP:=aa (cX h1)
   clear h1 e0 o1 o2 o3 e1 L1
   go_wp2_with fail
   refine (de S.out.qt.here hq _ T0 (t2.p+2) rfl).mono ?_
   rintro r w2 ⟨rfl,h2⟩
   have H2:=aa h2
   clear h2
   have E2:=aa (HE.out.keep (S.out.qt.join H2.out).f)
   have KK:=aa (show q.size<(t2.p+2)+k by have:=K.out; omega)
   go_wp2_with fail
   refine (HS.out w2 (t2.p+2) c d o { t2 with p:=t2.p+2 } E2.out L2.out.nV (λ_=>HT.out) KK.out H2.out.here).mono ?_
   rintro r w3 ⟨t3,f3,D3,φ3,hl,hn,eV,rfl,hft,hok,h3⟩
   obtain ⟨N3,jJ,rfl,_,_⟩:=hok.self
   have hkt:t2.p+2<=t3.p:=hl.ge
   have wT:=h3.le
   have L3:=aa (L2.out.nX hl)
   have N3':=aa hn
   have H3:=aa (H2.out.join h3)
   have lP:=aa (hft.low H2.out.f.size)
   have rZ:=aa hok
   have PC3:=aa eV
   clear H2 h3 hl hn hft hok eV
   have bI:w3.ownsRow w.heap.size 237 1 (.slice ao j cp) j fs:=aW (pE.out▸R.out.o) H3.out.f (λ k hk e=>by omega)
   have E8:w.heap.size<=wr.heap.size:=S.out.qt.f.size
   have Rf:w.heap.size<=w3.heap.size:=Nat.le_trans E8 H3.out.f.size
   go_wp2_with (at_builtin; refine wpList_append_own_at _ rfl _ _ 300 rfl w.heap.size 237 i0 .nilFunc 1 8 Tryz.underlying300 HI.out ia.out gO.out ic.out rfl (by decide) _ _ _ rfl (bI.alloc _) ⟨w3.heap.size,0,none⟩ 1 1 [.func (.func N3) #[] jJ] rfl rfl ?c1 ?c2 ?c3 ?c4 ?c5 ?_)
   case c1 =>
    intro j u hj
    match j,hj with
    | 0,hj=>simp at hj; subst hj; simp [Addr.add]
   case c2=>intro u hu; simp at hu; subst hu; rfl
   case c3=>unfold maxLen; omega
   case c4=>omega
   case c5=>simp; omega
   intro v' w4 b7 hgrow _ kP
   have hst:∀N,bd q 4 t2.p<=N->∃N',bd q 4 t3.p<=N'/\pC (bs q) N 4 t2.p (λ t=>φs.any (λ φ=>φ t))=pC (bs q) N' 4 t3.p (λ t=>(φs++[φ3]).any (λ φ=>φ t)):=by
    intro N hN
    obtain ⟨N,rfl⟩:=j6 hN
    have Hw:=O_ hN hkt wT (Or.inr ⟨rfl,rfl⟩)
    refine ⟨N,Hw.1,?_⟩
    rw [pC,if_pos BOP.out,PC3.out N _ Hw.2,V1]
   have S2:Hid (T6 g q p v n w q0 c o d [38] t.p 2 4 (λ l t=>l.any (λ φ=>φ t)) t3 (j+1) v' w4) :=
    ⟨(S.out.qt.join (H3.out.alloc _)).grown hgrow (λ k hk=>(bI.lt k hk).1) l5 (Nat.le_refl _),L3.out,N3'.out,V4.next R.out js.out pE.out zP.out (H3.out.alloc _).f l5 E8 (lP.out.keep (Sm.alloc lP.out _)) (rZ.out.keep (Sm.alloc lP.out _)) hst hgrow b7 (by simpa using kP),l5,by omega,by omega⟩
   clear b7 hgrow bI hst
   go_wp2
   go_roundw
   case rel=>exact ⟨_,_,S2.out⟩
   case measure =>
    have m1:mA g wr=t2.p:=HM.out
    have m2:mA g w4=t3.p:=S2.out.qt.mA
    rw [m1,m2]
    omega
  have h1:aj (bs q) t2 124=false:=by simpa using h1
  have T0:=fm (sign:=⟨#[124,124]⟩) e0 rfl h1
  have hb:bt (bs q) t2.p≠124:=by simpa [aj,e0] using h1
  have HB:=aa hb
  clear h1 hb e0
  go_wp2_with fail
  refine (cI S.out.qt.here hq _ T0).mono ?_
  rintro r w2 ⟨rfl,h2⟩
  have H2:=aa h2
  have R2:=aa (R.out.fr h2.f (λ k hk e=>by omega))
  have uz:w.heap.size<=w2.heap.size:=(S.out.qt.join h2).f.size
  clear h2
  go_wp2_with fail
  refine (xj R2.out (by rw [js.out,pE.out]) (by rw [pE.out]; omega) uz).mono ?_
  rintro r w3 ⟨⟨f3,D3,rfl,hft,hok⟩,lp⟩
  obtain ⟨N3,jJ,rfl,_,_⟩:=hok.self
  have H3:=aa (S.out.qt.join (H2.out.below lp))
  have lP:=aa hft
  have rZ:=aa hok
  clear H2 lp hft hok
  go_wp2
  go_ret
  refine ⟨t2,_,_,_,S.out.lv,λ b hb=>?_,λ N φ0 hN=>?_,rfl,lP.out,rZ.out,H3.out⟩
  ·simp only [List.mem_cons,List.mem_nil_iff,or_false] at hb
   have hn:=S.out.nb
   simp only [List.mem_cons,List.mem_nil_iff,or_false] at hn
   rcases hb with rfl | rfl
   ·exact hn _ rfl
   exact HB.out
  obtain ⟨N',h1,h2⟩:=zP.out N φ0 hN
  rw [h2]
  obtain ⟨N',rfl⟩:=j6 h1
  rw [pC,if_neg HB.out]
theorem cD {q:ByteArray} {a b:Nat} (h:bt (bs q) a=b) (hb:b<256):a<q.size:=by
 rcases Nat.lt_or_ge a q.size with x | x
 ·exact x
 rw [gK (by omega)] at h; omega
theorem Kv.weak {g:Nat} {q:ByteArray} {p v:Value} {n:Nat} {f:FuncId} {m:Nat} {l:List Nat} {k:Nat} (h:Kv g q p v n f m l false k):Kv g q p v n f m l true k :=
 λ w q0 c d o t he hok _ hk hq=>h w q0 c d o t he hok (λ x=>by cases x) hk hq
theorem xq {q:ByteArray} (hf:bz (bs q)) {q0 c d:Nat} {o:List UInt8} {t:St} (x:UInt8) (hx:x=33\/x=40) (h:Live (bs q) q0 c 10 o d t) (hb:aj (bs q) t x.toNat=true):Live (bs q) q0 c 10 (o++[x]) d (aG t):=by
 by_cases ho:o.length=6
 ·have:=aA hf (BK x.toNat (by rcases hx with rfl | rfl; exact Or.inl rfl; exact Or.inr rfl) (Or.inl h) hb ho)
  have:=this.e0
  simp [wrong,h.e0] at this
 exact nY x hx (Or.inl h) hb ho
theorem Mi {g:Nat} {q:ByteArray} {p v:Value} {n k:Nat} (hq:q.size<=1000) (hs:Kv g q p v n 265 0 [] false k) {w:World} {q0 c d:Nat} {o:List UInt8} {t:St} (he:Er g w) (h:Qt g q p v n w t.p w)
 (T0:tk q t.p ⟨#[33]⟩=true) (b33:Hid (bt (bs q) t.p=33)) (hok:Live (bs q) q0 c 10 (o++[33]) d (aG t)) (hk:q.size<t.p+1+k) :
 Calls Tryz.prog 265 #[.pointer (some ⟨g,0,none⟩)] w (V3 g q p v n w q0 c o d [] 0 t.p):=by
 have HG:=aa h.b.lt
 have HLE:=aa h.le
 have H:=aa h
 have HE:=aa he
 have HS:=aa hs
 have L:=aa hok
 have K:=aa hk
 clear h he hs hok hk
 go_enter Tryz.func265,Tryz.ntmps265
 go_wp2_with fail
 refine (de H.out hq _ T0 (t.p+1) rfl).mono ?_
 rintro r w1 ⟨rfl,h1⟩
 clear H
 have H:=aa h1
 clear h1
 go_wp2_with fail
 refine (HS.out w1 q0 c d (o++[33]) (aG t) (HE.out.keep H.out.f) L.out (λ x=>by cases x) K.out H.out.here).mono ?_
 rintro r w2 ⟨t2,f2,D2,φ2,hl,_,eV,rfl,hft,hok,h2⟩
 obtain ⟨N2,cap2,rfl,_,_⟩:=hok.self
 have L2:=aa hl
 have H2:=aa (H.out.join h2)
 have qH:=aa (hft.low H.out.f.size)
 have tf:=aa hok
 have V6:=aa eV
 clear h2 hl H hft hok eV
 go_wp2_with fail
 refine (w_ qH.out tf.out H2.out.f.size).mono ?_
 rintro r w3 ⟨⟨f3,D3,rfl,hft,hok⟩,lp⟩
 obtain ⟨N3,jJ,rfl,_,_⟩:=hok.self
 have H3:=aa (H2.out.below lp)
 have lP:=aa hft
 have rZ:=aa hok
 clear H2 lp hft hok
 go_wp2
 go_ret
 refine ⟨t2,_,_,_,?_,λ b hb=>by (cases hb),λ N φ0 hN=>?_,rfl,lP.out,rZ.out,H3.out⟩
 ·rcases tj (Or.inl L2.out) with x | x
  ·exact x
  exact absurd L2.out.e0 x.ne
 obtain ⟨N,rfl⟩:=j6 hN
 have hx:bd q 0 (t.p+1)<=N:=by have:=cD b33.out (by decide); simp [bd] at *; omega
 have:=V6.out N φ0 hx
 rw [pC,if_pos b33.out,show t.p+1=(aG t).p from rfl,this]
theorem Mj {g:Nat} {q:ByteArray} {p v:Value} {n k:Nat} (hq:q.size<=1000) (hf:bz (bs q)) (hs:Kv g q p v n 243 2 [38,124] true k) {w:World} {q0 c d:Nat} {o:List UInt8} {t:St} (he:Er g w) (h:Qt g q p v n w t.p w)
 (T0:tk q t.p ⟨#[33]⟩=false) (T1:tk q t.p ⟨#[40]⟩=true) (b40:Hid (bt (bs q) t.p=40)) (hok:Live (bs q) q0 c 10 (o++[40]) d (aG t)) (hk:q.size<t.p+1+k) :
 Calls Tryz.prog 265 #[.pointer (some ⟨g,0,none⟩)] w (V3 g q p v n w q0 c o d [] 0 t.p):=by
 have HG:=aa h.b.lt
 have HLE:=aa h.le
 have H:=aa h
 have HE:=aa he
 have HF:=aa hf
 have HS:=aa hs
 have L:=aa hok
 have K:=aa hk
 clear h he hs hok hk hf
 go_enter Tryz.func265,Tryz.ntmps265
 go_wp2_with fail
 refine (cI H.out hq _ T0).mono ?_
 rintro r w1 ⟨rfl,h1⟩
 clear H
 have H:=aa h1
 clear h1
 go_wp2_with fail
 refine (de H.out hq _ T1 (t.p+1) rfl).mono ?_
 rintro r w1 ⟨rfl,h1⟩
 clear H
 have H:=aa h1
 clear h1
 go_wp2_with fail
 refine (HS.out w1 q0 c d (o++[40]) (aG t) (HE.out.keep H.out.f) L.out (λ_=>j7 o) K.out H.out.here).mono ?_
 rintro r w2 ⟨t2,f2,D2,φ2,hl,hn,eV,rfl,hft,hok,h2⟩
 obtain ⟨N2,cap2,rfl,_,_⟩:=hok.self
 have a1:=aA HF.out (xu (Or.inl hl) (λ_=>⟨hn 38 (by simp),hn 124 (by simp)⟩))
 obtain ⟨T2,e2⟩:=gQ (sign:=⟨#[41]⟩) a1.e0
 rw [show [41]=nb ⟨#[41]⟩ from rfl,e2] at a1
 have L2:=aa a1
 have H2:=aa (H.out.join h2)
 have qH:=aa (hft.low H.out.f.size)
 have tf:=aa hok
 have V6:=aa eV
 have l5:g<w.heap.size:=HG.out
 clear h2 hl H hn a1 e2 hft hok eV
 go_wp2_with fail
 refine (de H2.out.here hq _ T2 (t2.p+1) rfl).mono ?_
 rintro r w3 ⟨rfl,h3⟩
 have S3:Sm D2 w2 w3:=Sm.fr qH.out h3.f (λ k hk e=>by omega)
 have lP:=aa (qH.out.keep S3)
 have rZ:=aa (tf.out.keep S3)
 have H3:=aa (H2.out.join h3)
 clear h3 H2 S3
 go_wp2
 go_ret
 refine ⟨_,_,_,_,L2.out,λ b hb=>by (cases hb),λ N φ0 hN=>?_,rfl,lP.out,rZ.out,H3.out⟩
 obtain ⟨N,rfl⟩:=j6 hN
 have hx:bd q 2 (t.p+1)<=N:=by have:=cD b40.out (by decide); simp [bd] at *; omega
 have:=V6.out N φ0 hx
 rw [pC,if_neg (by rw [b40.out]; decide),if_pos b40.out,show t.p+1=(aG t).p from rfl,this]
 rfl
theorem V7 {g:Nat} {q:ByteArray} {p v:Value} {n:Nat} (hq:q.size<=1000) (hf:bz (bs q)) {w:World} {q0 c d:Nat} {o:List UInt8} {t:St} (he:Er g w) (h:Qt g q p v n w t.p w)
 (T0:tk q t.p ⟨#[33]⟩=false) (T1:tk q t.p ⟨#[40]⟩=false) (T2:tk q t.p ⟨#[64]⟩=true) (b64:Hid (bt (bs q) t.p≠33/\bt (bs q) t.p≠40)) (hok:Live (bs q) q0 c 11 o d { t with p:=t.p+1 }) :
 Calls Tryz.prog 265 #[.pointer (some ⟨g,0,none⟩)] w (V3 g q p v n w q0 c o d [] 0 t.p):=by
 have HG:=aa h.b.lt
 have HLE:=aa h.le
 have H:=aa h
 have HE:=aa he
 have HF:=aa hf
 have L:=aa hok
 clear h he hok hf
 go_enter Tryz.func265,Tryz.ntmps265
 go_wp2_with fail
 refine (cI H.out hq _ T0).mono ?_
 rintro r w1 ⟨rfl,h1⟩
 clear H
 have H:=aa h1
 clear h1
 go_wp2_with fail
 refine (cI H.out hq _ T1).mono ?_
 rintro r w1 ⟨rfl,h1⟩
 clear H
 have H:=aa h1
 clear h1
 go_wp2_with fail
 refine (de H.out hq _ T2 (t.p+1) rfl).mono ?_
 rintro r w1 ⟨rfl,h1⟩
 clear H
 have H:=aa h1
 clear h1
 go_wp2_with fail
 refine (Mf (t:={ t with p:=t.p+1 }) hq HF.out HE.out L.out H.out).mono ?_
 rintro r w2 ⟨t2,sv,fs,l,D,hl,hb,rfl,hrow,jT,hfl,hps,h2⟩
 obtain ⟨ao,cp,qE⟩:=ah hrow.o
 have L2:=aa hl
 have B2:=aa hb
 have H2:=aa h2
 have R2:=aa hrow
 have PS2:=aa hps
 clear h2 hl hb H hrow hps
 have M2:=aa (Hs R2.out jT hfl H2.out.f.size)
 have FL:=aa hfl
 obtain ⟨j,jU⟩:∃j,j=fs.length:=⟨_,rfl⟩
 rw [<-jU] at qE
 subst qE
 clear jU jT hfl R2
 go_wp2_with fail
 refine (M2.out).mono ?_
 rintro r w3 ⟨⟨f3,D3,rfl,hft,hok⟩,lp⟩
 obtain ⟨N3,jJ,rfl,_,_⟩:=hok.self
 have H3:=aa (H2.out.below lp)
 have lP:=aa hft
 have rZ:=aa hok
 clear H2 lp hft hok M2
 go_wp2_with fail
 refine (Ri hq HF.out (HE.out.keep H3.out.f) L2.out B2.out H3.out.here lP.out rZ.out H3.out.f.size HG.out).mono ?_
 rintro r w4 ⟨t4,f4,D4,hl,hrp,rfl,hft,hok,h4⟩
 obtain ⟨N4,jr,rfl,_,_⟩:=hok.self
 have L4:=aa hl
 have H4:=aa (H3.out.join h4)
 have CY:=aa hft
 have UH:=aa hok
 have RP:=aa hrp
 clear h4 hl H3 hft hok hrp
 go_wp2
 go_ret
 refine ⟨t4,_,_,_,L4.out,λ b hb=>by (cases hb),λ N φ0 hN=>?_,rfl,CY.out,UH.out,H4.out⟩
 obtain ⟨N,rfl⟩:=j6 hN
 have e:oI (bs q) t.p=xm (bs q) l t2.p:=by
  unfold oI
  rw [an,show bA (bs q) (q.size+1) (t.p+1) []=⟨l,t2.p⟩ from PS2.out]
 rw [pC,if_neg b64.out.1,if_neg b64.out.2,e,<-RP.out]
theorem Rk {g:Nat} {q:ByteArray} {p v:Value} {n:Nat} (hq:q.size<=1000) (hf:bz (bs q)):∀k,Kv g q p v n 265 0 [] false k:=by
 intro k
 induction k with
 | zero =>
  intro w q0 c d o t _ hok _ hk _
  have:=hok.le
  rw [an] at this
  omega
 | succ k ih =>
  intro w q0 c d o t he hok _ hk h
  have e0:=hok.e0
  by_cases h1:aj (bs q) t 33=true
  ·exact Mi hq ih he h ((s_ q e0 33).trans h1) (aa (cX h1)) (xq hf 33 (Or.inl rfl) hok h1) (by omega)
  have h1:aj (bs q) t 33=false:=by simpa using h1
  have T0:=fm (sign:=⟨#[33]⟩) e0 rfl h1
  by_cases h2:aj (bs q) t 40=true
  ·exact Mj hq hf (oH hq hf (lQ hq hf ih.weak)) he h T0 ((s_ q e0 40).trans h2) (aa (cX h2)) (xq hf 40 (Or.inr rfl) hok h2) (by omega)
  have h2:aj (bs q) t 40=false:=by simpa using h2
  have T1:=fm (sign:=⟨#[40]⟩) e0 rfl h2
  have a1:=aA hf (Pb (Or.inl hok) h1 h2)
  obtain ⟨T2,e2⟩:=gQ (sign:=⟨#[64]⟩) a1.e0
  rw [show [64]=nb ⟨#[64]⟩ from rfl,e2] at a1
  exact V7 hq hf he h T0 T1 T2 (aa ⟨aT e0 h1,aT e0 h2⟩) a1
theorem Rl {g:Nat} {q:ByteArray} {p v:Value} {n:Nat} (hq:q.size<=1000) (hf:bz (bs q)) {w:World} {q0 c d:Nat} {t:St} (he:Er g w) (hok:Live (bs q) q0 c 10 [] d t) (h:Qt g q p v n w t.p w) :
 Calls Tryz.prog 243 #[.pointer (some ⟨g,0,none⟩)] w (V3 g q p v n w q0 c [] d [38,124] 2 t.p) :=
 oH hq hf (lQ hq hf (Rk hq hf (q.size+1)).weak) w q0 c d [] t he hok (λ_=>tn) (by omega) h
end Go.Proofs.YtcbadebjpogmlaaGreatDoor
