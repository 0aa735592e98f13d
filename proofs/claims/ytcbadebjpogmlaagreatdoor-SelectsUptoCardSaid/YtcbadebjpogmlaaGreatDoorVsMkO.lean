import Derived.Test.YtcbadebjpogmlaaGreatDoorVsMkJ
import Derived.Laws.AppendOwn
import Derived.Maps.AppendAt
set_option maxHeartbeats 2000000
namespace Go.Proofs.YtcbadebjpogmlaaGreatDoor
open Go.RowKit Tr
theorem Ht:(Tryz.prog.info? 320).map (λ i=>(i.zero,i.size,i.bytes))=some (some .nilFunc,1,8):=by kernel_rfl
theorem Qt.grown {g:Nat} {q:ByteArray} {p v:Value} {n:Nat} {w0 w w':World} {a B:Nat} {row:Option Nat} (h:Qt g q p v n w0 a w) (hg:w.grownBy w' row) (hr:∀k,row=some k->B<=k) (hgB:g<B) (hwB:w0.heap.size<=B):Qt g q p v n w0 a w' :=
 ⟨(hg.block g h.b.lt (λ e=>by have:=hr g e.symm; omega)).trans h.b,h.f.grown hg (λ k hk=>Or.inl (by have:=hr k hk; omega)),h.le⟩
def Me (q:ByteArray) (B a0 a j:Nat) (sv:Value) (wr:World):Prop:=∃fs l D,Row 320 B (λ i w f=>∀st,l[i]?=some st->je w f st) D sv fs wr/\l.length=j/\fs.length=j/\bA (bs q) (q.size+1) a0 []=bA (bs q) (q.size+1 - j) a l
theorem Me.fr {q:ByteArray} {B a0 a j:Nat} {sv:Value} {wr w':World} (h:Me q B a0 a j sv wr) {K:Nat->Prop} (f:Fr K wr w') (hk:∀k,B<=k->¬K k):Me q B a0 a j sv w':=by
 obtain ⟨fs,l,D,h1,h2⟩:=h
 exact ⟨fs,l,D,h1.fr f hk,h2⟩
theorem Me.next {q:ByteArray} {B a0 a a' j g:Nat} {sv jG:Value} {wr w1 w2:World} {fs:List Value} {l:List eO} {D D2:Nat->Prop} {f:Value} {st:eO}
 (R:Row 320 B (λ i w f=>∀st,l[i]?=some st->je w f st) D sv fs wr) (hl:l.length=j) (hf:fs.length=j) (hps:bA (bs q) (q.size+1) a0 []=bA (bs q) (q.size+1 - j) a l)
 (h1:Fr (λ k=>k=g) wr w1) (hgB:g<B) (hsz:B<=wr.heap.size) (hjq:j<=q.size) (ft:Ft D2 wr.heap.size w1) (ok:fR D2 w1 (λ w=>je w f st)) (hst:∀m l,bA (bs q) (m+1) a l=bA (bs q) m a' (l++[st]))
 (hg:w1.grownBy w2 sv.ownBlock) (hown:w2.ownsRow B 320 1 jG (j+1) (fs++[f])) (hb:jG.ownBlock=sv.ownBlock\/jG.ownBlock=some w1.heap.size):Me q B a0 a' (j+1) jG w2:=by
 have R1:=R.fr h1 (λ k hk e=>by omega)
 refine ⟨fs++[f],l++[st],λ k=>D k\/D2 k,?_,by simp [hl],by simp [hf],?_⟩
 ·have R2:Row 320 B (λ i w f=>∀st',(l++[st])[i]?=some st'->je w f st') D sv fs w1:=⟨R1.o,R1.ft,R1.ne,λ i hi w' s st' he=>R1.ok i hi w' s st' (by rw [List.getElem?_append_left (by omega)] at he; exact he)⟩
  refine R2.push (A:=wr.heap.size) (λ k hk=>(R.o.lt k hk).2) hsz ft (λ w' s st' he=>?_) (by rw [hf]; exact hown) hg hb
  rw [hf,<-hl] at he
  simp at he
  subst he
  exact ok w' s
 rw [hps,show q.size+1 - j=(q.size+1 - (j+1))+1 by omega]
 exact hst _ _
structure YC (g:Nat) (q:ByteArray) (p v:Value) (n:Nat) (w0:World) (B q0 c:Nat) (o:List UInt8) (d:Nat) (a0:Nat) (t:St) (j:Nat) (sv:Value) (wr:World):Prop where
 qt:Qt g q p v n w0 t.p wr
 lv:Live (bs q) q0 c 11 o d t
 row:Me q B a0 t.p j sv wr
 gb:g<B
 wb:w0.heap.size<=B
 sz:B<=wr.heap.size
 le:j<=t.p
theorem Dn {w w':World} {base:Nat} {e:TypeId} {sz:Nat} {v:Value} {n:Nat} {xs:List Value} (h:w.ownsRow base e sz v n xs) (f:Below w.heap.size w w'):w'.ownsRow base e sz v n xs :=
 aW h (Fr.aL (K:=λ_=>False) f) (λ_ _ x=>x)
theorem Qt.here {g:Nat} {q:ByteArray} {p v:Value} {n:Nat} {w0 w:World} {a:Nat} (h:Qt g q p v n w0 a w):Qt g q p v n w a w:=⟨h.b,Fr.refl _ _,h.le⟩
theorem Qt.join {g:Nat} {q:ByteArray} {p v:Value} {n:Nat} {w0 w w':World} {a a':Nat} (h:Qt g q p v n w0 a w) (k:Qt g q p v n w a' w'):Qt g q p v n w0 a' w':=⟨k.b,h.f.trans k.f,k.le⟩
theorem Er.keep {g:Nat} {w0 w:World} (h:Er g w0) (f:Fr (λ k=>k=g) w0 w):Er g w:=by
 obtain ⟨⟨ev,h1,h2⟩,h3,h4⟩:=h
 exact ⟨⟨ev,(f.cell (p:=⟨6,0,none⟩) h4 h3).trans h1,h2⟩,h3,Nat.lt_of_lt_of_le h4 f.size⟩
theorem Mf {w:World} {g:Nat} {q:ByteArray} {p v:Value} {n:Nat} {w0:World} (hq:q.size<=1000) (hf:bz (bs q)) (he:Er g w0) {q0 c d:Nat} {o:List UInt8} {t:St} (hok:Live (bs q) q0 c 11 o d t) (h:Qt g q p v n w0 t.p w) :
 Calls Tryz.prog 277 #[.pointer (some ⟨g,0,none⟩)] w (λ r w'=>∃t' sv fs l D,Live (bs q) q0 c 11 o d t'/\(bt (bs q) t'.p≠46/\bt (bs q) t'.p≠91)/\r=.returned sv/\Row 320 w0.heap.size (λ i w f=>∀st,l[i]?=some st->je w f st) D sv fs w'/\l.length=fs.length/\fs.length<=1000/\bA (bs q) (q.size+1) t.p []=⟨l,t'.p⟩/\Qt g q p v n w0 t'.p w'):=by
 obtain ⟨i0,hi,hz0,hz1,dN⟩:=info_parts Ht
 have HI:=aa hi
 have ia:=aa hz0
 have gO:=aa hz1
 have ic:=aa dN
 have HE:=aa he
 have HF:=aa hf
 have S:Hid (YC g q p v n w0 w.heap.size q0 c o d t.p t 0 (.slice none 0 0) w):=⟨h,hok,⟨[],[],_,Row.nil _ _ _ _,rfl,rfl,rfl⟩,h.b.lt,h.f.size,Nat.le_refl _,Nat.zero_le _⟩
 clear h hok he hf hi hz0 hz1 dN
 generalize w.heap.size=B at *
 obtain ⟨a0,ha0⟩:∃a0,a0=t.p:=⟨_,rfl⟩
 rw [<-ha0] at S ⊢
 clear ha0
 go_enter Tryz.func277,Tryz.ntmps277
 go_wp2
 go_loopw [3] (λ sv wr=>∃(t:St) (j:Nat),YC g q p v n w0 B q0 c o d a0 t j sv wr) (λ_ wr=>q.size - mA g wr)
 case atStart=>exact ⟨t,0,S.out⟩
 case round =>
  clear S
  obtain ⟨t,j,hS⟩:=hrel
  have S:=aa hS
  have YD:=hS.le
  have YE:t.p<=q.size:=hS.qt.le
  have HM:=aa hS.qt.mA
  obtain ⟨fs,l,D,hrow,jT,hfl,hps⟩:=hS.row
  obtain ⟨ao,cp,qE⟩:=ah hrow.o
  rw [hfl] at qE
  subst qE
  have R:=aa hrow
  have js:=aa jT
  have pE:=aa hfl
  have zP:=aa hps
  have e0:=hS.lv.e0
  clear hS hrow jT hfl hps
  by_cases h1:aj (bs q) t 46=true
  ·have T0:tk q t.p ⟨#[46]⟩=true:=(s_ q e0 46).trans h1
   have L1:=aa (aA HF.out (zQ (Or.inl S.out.lv) h1))
   have B46:=aa (cX h1)
   clear h1 e0
   go_wp2_with fail
   refine (de S.out.qt.here hq _ T0 (t.p+1) rfl).mono ?_
   rintro r w1 ⟨rfl,h1⟩
   have H1:=aa h1
   clear h1
   go_wp2_with fail
   refine (kS H1.out hq).mono ?_
   rintro r w2 ⟨k,hk,rfl,h2⟩
   have e1:=Bz (t:=aG t) S.out.lv.e0 L1.out.e0 (td HF.out L1.out) hk
   have hkt:t.p<k:=by have:=hk.ge; omega
   have L2:Hid (Live (bs q) q0 c 11 o d { aG t with p:=k }):=by rw [<-e1]; exact L1.out
   have wT:=h2.le
   have H2:=aa h2
   have wR:Hid (∀m l,bA (bs q) (m+1) t.p l=bA (bs q) m k (l++[⟨true,bs (q.extract (t.p+1) k),0⟩])):=λ m l=>by
    rw [bA,if_pos B46.out,hk.eq (by decide),cP]
   clear h2 H1 L1 e1 hk
   go_wp2_with fail
   refine (zO _ _ H2.out.f.size).mono ?_
   rintro r w3 ⟨⟨f3,D3,rfl,qF,l7⟩,lp⟩
   obtain ⟨N3,jJ,rfl,_,_⟩:=l7.self
   have lP:=aa qF
   have rZ:=aa l7
   have H3:=aa (H2.out.below lp)
   clear H2 lp qF l7
   have bI:w3.ownsRow B 320 1 (.slice ao j cp) j fs:=aW (pE.out▸R.out.o) H3.out.f (λ k hk e=>by have:=S.out.gb; omega)
   have Rf:B<=w3.heap.size:=Nat.le_trans S.out.sz H3.out.f.size
   go_wp2_with (at_builtin; refine wpList_append_own_at _ rfl _ _ 322 rfl B 320 i0 .nilFunc 1 8 Tryz.underlying322 HI.out ia.out gO.out ic.out rfl (by decide) _ _ _ rfl (bI.alloc _) ⟨w3.heap.size,0,none⟩ 1 1 [.func (.func N3) #[] jJ] rfl rfl ?c1 ?c2 ?c3 ?c4 ?c5 ?_)
   case c1 =>
    intro j u hj
    match j,hj with
    | 0,hj=>simp at hj; subst hj; simp [Addr.add]
   case c2=>intro u hu; simp at hu; subst hu; rfl
   case c3=>unfold maxLen; omega
   case c4=>omega
   case c5=>simp; omega
   intro v' w4 b7 hgrow _ kP
   have S2:Hid (YC g q p v n w0 B q0 c o d a0 { aG t with p:=k } (j+1) v' w4) :=
    ⟨(S.out.qt.join (H3.out.alloc _)).grown hgrow (λ k hk=>(bI.lt k hk).1) S.out.gb S.out.wb,L2.out,Me.next R.out js.out pE.out zP.out (H3.out.alloc _).f S.out.gb S.out.sz (by omega) (lP.out.keep (Sm.alloc lP.out _)) (rZ.out.keep (Sm.alloc lP.out _)) wR.out hgrow b7 (by simpa using kP),S.out.gb,S.out.wb,Nat.le_trans Rf (Nat.le_trans (by simp) hgrow.size),by simp only; omega⟩
   clear b7 hgrow bI
   go_wp2
   go_roundw
   case rel=>exact ⟨_,_,S2.out⟩
   case measure =>
    have m1:mA g wr=t.p:=HM.out
    have m2:mA g w4=k:=S2.out.qt.mA
    rw [m1,m2]
    omega
  have h1:aj (bs q) t 46=false:=by simpa using h1
  have T0:=fm (sign:=⟨#[46]⟩) e0 rfl h1
  by_cases h2:aj (bs q) t 91=true
  ·have T1:tk q t.p ⟨#[91]⟩=true:=(s_ q e0 91).trans h2
   have HB:=aa h2
   clear h1 e0 h2
   go_wp2_with fail
   refine (cI S.out.qt.here hq _ T0).mono ?_
   rintro r w1 ⟨rfl,h1⟩
   have H1:=aa h1
   clear h1
   go_wp2_with fail
   refine (de H1.out hq _ T1 (t.p+1) rfl).mono ?_
   rintro r w2 ⟨rfl,h2⟩
   have H2:=aa h2
   clear h2 H1
   have E2:=aa (HE.out.keep S.out.qt.f)
   go_wp2_with fail
   refine (Dl hq HF.out E2.out S.out.lv HB.out H2.out).mono ?_
   rintro r w3 ⟨k,hkt,T2,hl,st,⟨⟨f3,D3,rfl,qF,l7⟩,h3⟩,hst⟩
   obtain ⟨N3,jJ,rfl,_,_⟩:=l7.self
   have lP:=aa qF
   have rZ:=aa l7
   have wR:=aa hst
   have wT:=h3.le
   have L2:=aa hl
   have H3:=aa h3
   clear H2 h3 hl qF l7 hst
   have bI:w3.ownsRow B 320 1 (.slice ao j cp) j fs:=aW (pE.out▸R.out.o) H3.out.f (λ k hk e=>by have:=S.out.gb; omega)
   have Rf:B<=w3.heap.size:=Nat.le_trans S.out.sz H3.out.f.size
   go_wp2_with (at_builtin; refine wpList_append_own_at _ rfl _ _ 322 rfl B 320 i0 .nilFunc 1 8 Tryz.underlying322 HI.out ia.out gO.out ic.out rfl (by decide) _ _ _ rfl (bI.alloc _) ⟨w3.heap.size,0,none⟩ 1 1 [.func (.func N3) #[] jJ] rfl rfl ?c1 ?c2 ?c3 ?c4 ?c5 ?_)
   case c1 =>
    intro j u hj
    match j,hj with
    | 0,hj=>simp at hj; subst hj; simp [Addr.add]
   case c2=>intro u hu; simp at hu; subst hu; rfl
   case c3=>unfold maxLen; omega
   case c4=>omega
   case c5=>simp; omega
   intro v' w4 b7 hgrow _ kP
   have H4:Hid (Qt g q p v n w0 k w4):=(S.out.qt.join (H3.out.alloc _)).grown hgrow (λ k hk=>(bI.lt k hk).1) S.out.gb S.out.wb
   have R4:Hid (Me q B a0 (k+1) (j+1) v' w4):=Me.next R.out js.out pE.out zP.out (H3.out.alloc _).f S.out.gb S.out.sz (by omega) (lP.out.keep (Sm.alloc lP.out _)) (rZ.out.keep (Sm.alloc lP.out _)) wR.out hgrow b7 (by simpa using kP)
   have nA:B<=w4.heap.size:=Nat.le_trans Rf (Nat.le_trans (by simp) hgrow.size)
   clear b7 hgrow bI
   go_wp2_with fail
   refine (de H4.out.here hq _ T2 (k+1) rfl).mono ?_
   rintro r w5 ⟨rfl,h5⟩
   have S2:Hid (YC g q p v n w0 B q0 c o d a0 { t with p:=k+1 } (j+1) v' w5) :=
    ⟨H4.out.join h5,L2.out,R4.out.fr h5.f (λ k hk e=>by have:=S.out.gb; omega),S.out.gb,S.out.wb,Nat.le_trans nA h5.f.size,by simp only; omega⟩
   clear h5
   go_wp2
   go_roundw
   case rel=>exact ⟨_,_,S2.out⟩
   case measure =>
    have m1:mA g wr=t.p:=HM.out
    have m2:mA g w5=k+1:=S2.out.qt.mA
    rw [m1,m2]
    omega
  have h2:aj (bs q) t 91=false:=by simpa using h2
  have T1:=fm (sign:=⟨#[91]⟩) e0 rfl h2
  have hb:bt (bs q) t.p≠46/\bt (bs q) t.p≠91:=by
   simp [aj,e0] at h1 h2
   exact ⟨h1,h2⟩
  have HB:=aa hb
  clear h1 h2 hb e0
  go_wp2_with fail
  refine (cI S.out.qt.here hq _ T0).mono ?_
  rintro r w1 ⟨rfl,h1⟩
  have H1:=aa h1
  clear h1
  go_wp2_with fail
  refine (cI H1.out hq _ T1).mono ?_
  rintro r w2 ⟨rfl,h2⟩
  have H2:=aa h2
  clear h2 H1
  go_wp2
  go_ret
  have hend:bA (bs q) (q.size+1) a0 []=⟨l,t.p⟩:=by
   rw [zP.out,show q.size+1 - j=(q.size - j)+1 by omega,bA,if_neg HB.out.1,if_neg HB.out.2]
  exact ⟨t,_,fs,l,D,S.out.lv,HB.out,rfl,(R.out.fr H2.out.f (λ k hk e=>by have:=S.out.gb; omega)).low S.out.wb,by rw [js.out,pE.out],by rw [pE.out]; omega,hend,S.out.qt.join H2.out⟩
def TY (g:Nat) (q:ByteArray) (p v:Value) (n:Nat) (w0:World) (B q0 c X:Nat) (o:List UInt8) (d:Nat) (R:PS (Tv->Bool)) (r:Ending) (w':World):Prop :=
 ∃t' f D,Live (bs q) q0 c X o d t'/\R.p=t'.p/\r=.returned f/\Ft D B w'/\fR D w' (λ w=>dh w f R.v)/\Qt g q p v n w0 t'.p w'
theorem VT {w:World} {g:Nat} {q:ByteArray} {p v:Value} {n:Nat} (hq:q.size<=1000) (hf:bz (bs q)) (he:Er g w) {q0 c d:Nat} {o:List UInt8} {t:St} (h:Qt g q p v n w t.p w) {f:Value} {D0:Nat->Prop} {l:List eO} {B:Nat} (ft:Ft D0 B w) (ok:fR D0 w (λ w=>jf w f l)) (hB:B<=w.heap.size) (hgB:g<B)
 (T0:tk q t.p ⟨#[61,61]⟩=true) (hok:Live (bs q) q0 c 17 o d { t with p:=t.p+2 }) {R:PS (Tv->Bool)} (hR:R=⟨λ t'=>dP (a_ (bs q) (t.p+2)).v (aS t' l),(a_ (bs q) (t.p+2)).p⟩) :
 Calls Tryz.prog 275 #[.pointer (some ⟨g,0,none⟩),f] w (TY g q p v n w B q0 c 18 o d R):=by
 obtain ⟨N0,Mg,rfl,_,_⟩:=ok.self
 have FT:=aa ft
 have OK:=aa ok
 have H:=aa h
 have HR:=aa hR
 have HE:=aa he
 have HF:=aa hf
 have L:=aa hok
 clear h he hf hok ft ok hR
 go_enter Tryz.func275,Tryz.ntmps275
 go_wp2_with fail
 refine (de H.out hq _ T0 (t.p+2) rfl).mono ?_
 rintro r w1 ⟨rfl,h1⟩
 clear H
 have H:=aa h1
 clear h1
 go_wp2_with fail
 refine (j5 (t:={ t with p:=t.p+2 }) hq HF.out HE.out L.out H.out).mono ?_
 rintro r w1 ⟨t2,kt,hl,eV,Hu,⟨b,rfl,xk,qG⟩,h1⟩
 have L2:=aa hl
 have PC:=aa eV
 have KK:=aa Hu
 have BL:=aa qG
 have S1:Hid (Sm D0 w w1):=Sm.fr FT.out h1.f (λ k hk e=>by omega)
 have kR:w.heap.size<=w1.heap.size:=h1.f.size
 clear H L hl eV Hu qG
 have H:=aa h1
 clear h1
 go_wp2_with fail
 refine (nU (FT.out.keep S1.out) (OK.out.keep S1.out) (Nat.le_trans hB kR) BL.out (Nat.le_trans hB xk) KK.out).mono ?_
 rintro r w2 ⟨⟨f2,D2,rfl,kT,fL⟩,eK⟩
 obtain ⟨N2,cap2,rfl,_,_⟩:=fL.self
 have qH:=aa kT
 have tf:=aa fL
 have H2:=aa (H.out.below eK)
 have VU:=aa eK.size
 clear kT fL eK
 go_wp2
 go_ret
 exact ⟨t2,_,_,L2.out,by rw [HR.out]; exact congrArg PS.p PC.out,rfl,qH.out,by rw [HR.out]; exact (congrArg PS.v PC.out).symm▸tf.out,H2.out⟩
theorem VV {w:World} {g:Nat} {q:ByteArray} {p v:Value} {n:Nat} (hq:q.size<=1000) (hf:bz (bs q)) (he:Er g w) {q0 c d:Nat} {o:List UInt8} {t:St} (h:Qt g q p v n w t.p w) {f:Value} {D0:Nat->Prop} {l:List eO} {B:Nat} (ft:Ft D0 B w) (ok:fR D0 w (λ w=>jf w f l)) (hB:B<=w.heap.size) (hgB:g<B)
 (T0:tk q t.p ⟨#[61,61]⟩=false) (T1:tk q t.p ⟨#[33,61]⟩=true) (hok:Live (bs q) q0 c 17 o d { t with p:=t.p+2 }) {R:PS (Tv->Bool)} (hR:R=⟨λ t'=>!(dP (a_ (bs q) (t.p+2)).v (aS t' l)),(a_ (bs q) (t.p+2)).p⟩) :
 Calls Tryz.prog 275 #[.pointer (some ⟨g,0,none⟩),f] w (TY g q p v n w B q0 c 18 o d R):=by
 obtain ⟨N0,Mg,rfl,_,_⟩:=ok.self
 have FT:=aa ft
 have OK:=aa ok
 have H:=aa h
 have HR:=aa hR
 have HE:=aa he
 have HF:=aa hf
 have L:=aa hok
 clear h he hf hok ft ok hR
 go_enter Tryz.func275,Tryz.ntmps275
 go_wp2_with fail
 refine (cI H.out hq _ T0).mono ?_
 rintro r w1 ⟨rfl,h1⟩
 clear H
 have H:=aa h1
 clear h1
 go_wp2_with fail
 refine (de H.out hq _ T1 (t.p+2) rfl).mono ?_
 rintro r w1 ⟨rfl,h1⟩
 clear H
 have H:=aa h1
 clear h1
 go_wp2_with fail
 refine (j5 (t:={ t with p:=t.p+2 }) hq HF.out HE.out L.out H.out).mono ?_
 rintro r w1 ⟨t2,kt,hl,eV,Hu,⟨b,rfl,xk,qG⟩,h1⟩
 have L2:=aa hl
 have PC:=aa eV
 have KK:=aa Hu
 have BL:=aa qG
 have S1:Hid (Sm D0 w w1):=Sm.fr FT.out h1.f (λ k hk e=>by omega)
 have kR:w.heap.size<=w1.heap.size:=h1.f.size
 clear H L hl eV Hu qG
 have H:=aa h1
 clear h1
 go_wp2_with fail
 refine (nU (FT.out.keep S1.out) (OK.out.keep S1.out) (Nat.le_trans hB kR) BL.out (Nat.le_trans hB xk) KK.out).mono ?_
 rintro r w2 ⟨⟨f2,D2,rfl,kT,fL⟩,eK⟩
 obtain ⟨N2,cap2,rfl,_,_⟩:=fL.self
 have qH:=aa kT
 have tf:=aa fL
 have H2:=aa (H.out.below eK)
 have VU:=aa eK.size
 clear kT fL eK
 go_wp2_with fail
 refine (w_ qH.out tf.out (Nat.le_trans hB (Nat.le_trans kR VU.out))).mono ?_
 rintro r w3 ⟨⟨f3,D3,rfl,qF,l7⟩,lp⟩
 obtain ⟨N3,jJ,rfl,_,_⟩:=l7.self
 have lP:=aa qF
 have rZ:=aa l7
 have H3:=aa (H2.out.below lp)
 clear qF l7 lp H2
 go_wp2
 go_ret
 exact ⟨t2,_,_,L2.out,by rw [HR.out]; exact congrArg PS.p PC.out,rfl,lP.out,by rw [HR.out]; exact (congrArg PS.v PC.out).symm▸rZ.out,H3.out⟩
theorem VW {w:World} {g:Nat} {q:ByteArray} {p v:Value} {n:Nat} (hq:q.size<=1000) (hf:bz (bs q)) (he:Er g w) {q0 c d:Nat} {o:List UInt8} {t:St} (h:Qt g q p v n w t.p w) {f:Value} {D0:Nat->Prop} {l:List eO} {B:Nat} (ft:Ft D0 B w) (ok:fR D0 w (λ w=>jf w f l)) (hB:B<=w.heap.size) (hgB:g<B)
 (T0:tk q t.p ⟨#[61,61]⟩=false) (T1:tk q t.p ⟨#[33,61]⟩=false) (T2:tk q t.p ⟨#[60,61]⟩=false) (T3:tk q t.p ⟨#[60]⟩=true) (hok:Live (bs q) q0 c 17 o d { t with p:=t.p+1 }) {R:PS (Tv->Bool)} (hR:R=⟨λ t'=>fy (a_ (bs q) (t.p+1)).v (aS t' l),(a_ (bs q) (t.p+1)).p⟩) :
 Calls Tryz.prog 275 #[.pointer (some ⟨g,0,none⟩),f] w (TY g q p v n w B q0 c 18 o d R):=by
 obtain ⟨N0,Mg,rfl,_,_⟩:=ok.self
 have FT:=aa ft
 have OK:=aa ok
 have H:=aa h
 have HR:=aa hR
 have HE:=aa he
 have HF:=aa hf
 have L:=aa hok
 clear h he hf hok ft ok hR
 go_enter Tryz.func275,Tryz.ntmps275
 go_wp2_with fail
 refine (cI H.out hq _ T0).mono ?_
 rintro r w1 ⟨rfl,h1⟩
 clear H
 have H:=aa h1
 clear h1
 go_wp2_with fail
 refine (cI H.out hq _ T1).mono ?_
 rintro r w1 ⟨rfl,h1⟩
 clear H
 have H:=aa h1
 clear h1
 go_wp2_with fail
 refine (cI H.out hq _ T2).mono ?_
 rintro r w1 ⟨rfl,h1⟩
 clear H
 have H:=aa h1
 clear h1
 go_wp2_with fail
 refine (de H.out hq _ T3 (t.p+1) rfl).mono ?_
 rintro r w1 ⟨rfl,h1⟩
 clear H
 have H:=aa h1
 clear h1
 go_wp2_with fail
 refine (j5 (t:={ t with p:=t.p+1 }) hq HF.out HE.out L.out H.out).mono ?_
 rintro r w1 ⟨t2,kt,hl,eV,Hu,⟨b,rfl,xk,qG⟩,h1⟩
 have L2:=aa hl
 have PC:=aa eV
 have KK:=aa Hu
 have BL:=aa qG
 have S1:Hid (Sm D0 w w1):=Sm.fr FT.out h1.f (λ k hk e=>by omega)
 have kR:w.heap.size<=w1.heap.size:=h1.f.size
 clear H L hl eV Hu qG
 have H:=aa h1
 clear h1
 go_wp2_with fail
 refine (xg (FT.out.keep S1.out) (OK.out.keep S1.out) (Nat.le_trans hB kR) BL.out (Nat.le_trans hB xk) KK.out).mono ?_
 rintro r w2 ⟨⟨f2,D2,rfl,kT,fL⟩,eK⟩
 obtain ⟨N2,cap2,rfl,_,_⟩:=fL.self
 have qH:=aa kT
 have tf:=aa fL
 have H2:=aa (H.out.below eK)
 have VU:=aa eK.size
 clear kT fL eK
 go_wp2
 go_ret
 exact ⟨t2,_,_,L2.out,by rw [HR.out]; exact congrArg PS.p PC.out,rfl,qH.out,by rw [HR.out]; exact (congrArg PS.v PC.out).symm▸tf.out,H2.out⟩
theorem Mh {w:World} {g:Nat} {q:ByteArray} {p v:Value} {n:Nat} (hq:q.size<=1000) {q0 c d:Nat} {o:List UInt8} {t:St} (h:Qt g q p v n w t.p w) {f:Value} {D0:Nat->Prop} {l:List eO} {B:Nat} (ft:Ft D0 B w) (ok:fR D0 w (λ w=>jf w f l)) (hB:B<=w.heap.size) (hgB:g<B)
 (T0:tk q t.p ⟨#[61,61]⟩=false) (T1:tk q t.p ⟨#[33,61]⟩=false) (T2:tk q t.p ⟨#[60,61]⟩=false) (T3:tk q t.p ⟨#[60]⟩=false) (hok:Live (bs q) q0 c 18 o d t) {R:PS (Tv->Bool)} (hR:R=⟨λ t'=>(aS t' l).isSome,t.p⟩) :
 Calls Tryz.prog 275 #[.pointer (some ⟨g,0,none⟩),f] w (TY g q p v n w B q0 c 18 o d R):=by
 obtain ⟨N0,Mg,rfl,_,_⟩:=ok.self
 have FT:=aa ft
 have OK:=aa ok
 have H:=aa h
 have HR:=aa hR
 have L:=aa hok
 clear h hok ft ok hR
 go_enter Tryz.func275,Tryz.ntmps275
 go_wp2_with fail
 refine (cI H.out hq _ T0).mono ?_
 rintro r w1 ⟨rfl,h1⟩
 clear H
 have H:=aa h1
 clear h1
 go_wp2_with fail
 refine (cI H.out hq _ T1).mono ?_
 rintro r w1 ⟨rfl,h1⟩
 clear H
 have H:=aa h1
 clear h1
 go_wp2_with fail
 refine (cI H.out hq _ T2).mono ?_
 rintro r w1 ⟨rfl,h1⟩
 clear H
 have H:=aa h1
 clear h1
 go_wp2_with fail
 refine (cI H.out hq _ T3).mono ?_
 rintro r w1 ⟨rfl,h1⟩
 clear H
 have H:=aa h1
 clear h1
 have S1:Hid (Sm D0 w w1):=Sm.fr FT.out H.out.f (λ k hk e=>by omega)
 have kR:w.heap.size<=w1.heap.size:=H.out.f.size
 go_wp2_with fail
 refine (Dm (FT.out.keep S1.out) (OK.out.keep S1.out) (Nat.le_trans hB kR)).mono ?_
 rintro r w2 ⟨⟨f2,D2,rfl,kT,fL⟩,eK⟩
 obtain ⟨N2,cap2,rfl,_,_⟩:=fL.self
 have qH:=aa kT
 have tf:=aa fL
 have H2:=aa (H.out.below eK)
 clear kT fL eK
 go_wp2
 go_ret
 exact ⟨t,_,_,L.out,by rw [HR.out],rfl,qH.out,by rw [HR.out]; exact tf.out,H2.out⟩
theorem VX {w:World} {g:Nat} {q:ByteArray} {p v:Value} {n:Nat} (hq:q.size<=1000) (hf:bz (bs q)) (he:Er g w) {q0 c d:Nat} {o:List UInt8} {t:St} (h:Qt g q p v n w t.p w) {f:Value} {D0:Nat->Prop} {l:List eO} {B:Nat} (ft:Ft D0 B w) (ok:fR D0 w (λ w=>jf w f l)) (hB:B<=w.heap.size) (hgB:g<B)
 (T0:tk q t.p ⟨#[61,61]⟩=false) (T1:tk q t.p ⟨#[33,61]⟩=false) (T2:tk q t.p ⟨#[60,61]⟩=true) (hok:Live (bs q) q0 c 17 o d { t with p:=t.p+2 }) {R:PS (Tv->Bool)} (hR:R=⟨λ t'=>dP (a_ (bs q) (t.p+2)).v (aS t' l) || fy (a_ (bs q) (t.p+2)).v (aS t' l),(a_ (bs q) (t.p+2)).p⟩) :
 Calls Tryz.prog 275 #[.pointer (some ⟨g,0,none⟩),f] w (TY g q p v n w B q0 c 18 o d R):=by
 obtain ⟨N0,Mg,rfl,_,_⟩:=ok.self
 have FT:=aa ft
 have OK:=aa ok
 have H:=aa h
 have HR:=aa hR
 have HE:=aa he
 have HF:=aa hf
 have L:=aa hok
 clear h he hf hok ft ok hR
 go_enter Tryz.func275,Tryz.ntmps275
 go_wp2_with fail
 refine (cI H.out hq _ T0).mono ?_
 rintro r w1 ⟨rfl,h1⟩
 clear H
 have H:=aa h1
 clear h1
 go_wp2_with fail
 refine (cI H.out hq _ T1).mono ?_
 rintro r w1 ⟨rfl,h1⟩
 clear H
 have H:=aa h1
 clear h1
 go_wp2_with fail
 refine (de H.out hq _ T2 (t.p+2) rfl).mono ?_
 rintro r w1 ⟨rfl,h1⟩
 clear H
 have H:=aa h1
 clear h1
 go_wp2_with fail
 refine (j5 (t:={ t with p:=t.p+2 }) hq HF.out HE.out L.out H.out).mono ?_
 rintro r w1 ⟨t2,kt,hl,eV,Hu,⟨b,rfl,xk,qG⟩,h1⟩
 have L2:=aa hl
 have PC:=aa eV
 have KK:=aa Hu
 have BL:=aa qG
 have S1:Hid (Sm D0 w w1):=Sm.fr FT.out h1.f (λ k hk e=>by omega)
 have kR:w.heap.size<=w1.heap.size:=h1.f.size
 clear H L hl eV Hu qG
 have H:=aa h1
 clear h1
 go_wp2_with fail
 refine (xg (FT.out.keep S1.out) (OK.out.keep S1.out) (Nat.le_trans hB kR) BL.out (Nat.le_trans hB xk) KK.out).mono ?_
 rintro r w2 ⟨⟨f2,D2,rfl,kT,fL⟩,eK⟩
 obtain ⟨N2,cap2,rfl,_,_⟩:=fL.self
 have qH:=aa kT
 have tf:=aa fL
 have H2:=aa (H.out.below eK)
 have VU:=aa eK.size
 have B2:=aa eK
 clear kT fL eK
 have S2:Hid (Sm D0 w w2):=S1.out.trans (Sm.fr (K:=λ_=>False) (FT.out.keep S1.out) (Fr.aL B2.out) (λ_ _ x=>x))
 have BL2:=aa (BL.out.fr (Fr.aL (K:=λ_=>False) B2.out) id)
 have uz:w.heap.size<=w2.heap.size:=Nat.le_trans kR VU.out
 go_wp2_with fail
 refine (nU (FT.out.keep S2.out) (OK.out.keep S2.out) (Nat.le_trans hB uz) BL2.out (Nat.le_trans hB xk) KK.out).mono ?_
 rintro r w3 ⟨⟨f3,D3,rfl,qF,l7⟩,lp⟩
 obtain ⟨N3,jJ,rfl,_,_⟩:=l7.self
 have zi:Sm D2 w2 w3:=Sm.fr (K:=λ_=>False) qH.out (Fr.aL lp) (λ_ _ x=>x)
 have CY:=aa ((qH.out.keep zi).or qF)
 have OKA:=aa ((tf.out.keep zi).more (D':=λ k=>D2 k\/D3 k) (λ_=>Or.inl))
 have OKB:=aa (l7.more (D':=λ k=>D2 k\/D3 k) (λ_=>Or.inr))
 have H3:=aa (H2.out.below lp)
 have Rh:w2.heap.size<=w3.heap.size:=lp.size
 clear qF l7 lp H2 zi qH tf B2
 have RW:Hid (Row 237 B (λ i w f=>∀φ,[λ t'=>fy kt (aS t' l),λ t'=>dP kt (aS t' l)][i]?=some φ->dh w f φ) (λ k=>D2 k\/D3 k) (.slice (some ⟨w3.heap.size,0,none⟩) 2 2) [.func (.func N2) #[] cap2,.func (.func N3) #[] jJ] (w3.alloc (.cells #[.func (.func N2) #[] cap2,.func (.func N3) #[] jJ] 237))):=by
  have s:=Sm.alloc CY.out (.cells #[.func (.func N2) #[] cap2,.func (.func N3) #[] jJ] 237)
  refine ⟨⟨rfl,Or.inr ⟨w3.heap.size,2,_,rfl,by omega,heap_alloc_new w3 _,Nat.le_refl _,by unfold maxLen; decide,rfl,rfl⟩⟩,CY.out.keep s,λ k hk e=>?_,λ i hi w' s' φ he=>?_⟩
  ·have h1:=CY.out.lt hk
   have h2:w3.heap.size=k:=Option.some.inj e
   omega
  match i,hi with
  | 0,_=>simp at he; subst he; exact (OKA.out.keep s) w' s'
  | 1,_=>simp at he; subst he; exact (OKB.out.keep s) w' s'
 go_wp2_with fail
 refine (xj RW.out rfl (by show 2<=1000; decide) (by simp; omega)).mono ?_
 rintro r w5 ⟨⟨f5,D5,rfl,xl,qI⟩,BF⟩
 obtain ⟨N5,zm,rfl,_,_⟩:=qI.self
 have OZ:=aa xl
 have TZ:=aa qI
 have H5:=aa ((H3.out.alloc _).below BF)
 clear xl qI BF H3 RW
 go_wp2
 go_ret
 refine ⟨t2,_,_,L2.out,by rw [HR.out]; exact congrArg PS.p PC.out,rfl,OZ.out,?_,H5.out⟩
 have eR:R.v=λ t'=>[λ t'=>fy kt (aS t' l),λ t'=>dP kt (aS t' l)].any (λ φ=>φ t'):=by
  rw [HR.out]
  funext t'
  rw [congrArg PS.v PC.out]
  simp [Bool.or_comm]
 rw [eR]
 exact TZ.out
theorem Ri {w:World} {g:Nat} {q:ByteArray} {p v:Value} {n:Nat} (hq:q.size<=1000) (hf:bz (bs q)) (he:Er g w) {q0 c d:Nat} {o:List UInt8} {t:St} (hok:Live (bs q) q0 c 11 o d t) (hb:bt (bs q) t.p≠46/\bt (bs q) t.p≠91) (h:Qt g q p v n w t.p w) {f:Value} {D0:Nat->Prop} {l:List eO} {B:Nat} (ft:Ft D0 B w) (ok:fR D0 w (λ w=>jf w f l)) (hB:B<=w.heap.size) (hgB:g<B) :
 Calls Tryz.prog 275 #[.pointer (some ⟨g,0,none⟩),f] w (TY g q p v n w B q0 c 18 o d (xm (bs q) l t.p)):=by
 have e0:=hok.e0
 by_cases h1:aj (bs q) t 61=true
 ·have a1:=aA hf (ok_eq 61 (Or.inl rfl) (Or.inl hok) h1)
  obtain ⟨a2,a3⟩:=gQ (sign:=⟨#[61,61]⟩) a1.e0
  rw [show [61,61]=nb ⟨#[61,61]⟩ from rfl,a3] at a1
  exact VT hq hf he h ft ok hB hgB a2 a1 (by unfold xm; rw [if_pos (cX h1)])
 have h1:aj (bs q) t 61=false:=by simpa using h1
 have T0:=fm (sign:=⟨#[61,61]⟩) e0 rfl h1
 by_cases h2:aj (bs q) t 33=true
 ·have a1:=aA hf (ok_eq 33 (Or.inr rfl) (Or.inl hok) h2)
  obtain ⟨a2,a3⟩:=gQ (sign:=⟨#[33,61]⟩) a1.e0
  rw [show [33,61]=nb ⟨#[33,61]⟩ from rfl,a3] at a1
  exact VV hq hf he h ft ok hB hgB T0 a2 a1 (by unfold xm; rw [if_neg (aT e0 h1),if_pos (cX h2)])
 have h2:aj (bs q) t 33=false:=by simpa using h2
 have T1:=fm (sign:=⟨#[33,61]⟩) e0 rfl h2
 by_cases h3:aj (bs q) t 60=true
 ·have a1:=aA hf (BI (Or.inl hok) h3)
  have e1:aN (bs q) t [60]=aG t:=by show aH (bs q) t 60=aG t; unfold aH; rw [if_pos h3]
  rw [e1] at a1
  have b1:=(aE h3).2
  by_cases h4:aj (bs q) (aG t) 61=true
  ·have e2:has (bs q) (aG t) 61=aG (aG t):=by unfold has; rw [if_pos h4]
   rw [e2] at a1
   have T2:tk q t.p ⟨#[60,61]⟩=true:=by
    rw [jZ]
    have b2:bt (bs q) (t.p+1)=61:=(aE h4).2
    show (bt (bs q) t.p == 60 && (bt (bs q) (t.p+1) == 61 && true))=true
    rw [b1,b2]; decide
   exact VX hq hf he h ft ok hB hgB T0 T1 T2 a1 (by unfold xm; rw [if_neg (aT e0 h1),if_neg (aT e0 h2),if_pos (cX h3),if_pos (show bt (bs q) (t.p+1)=61 from cX h4)])
  have h4:aj (bs q) (aG t) 61=false:=by simpa using h4
  have e2:has (bs q) (aG t) 61=aG t:=by unfold has; rw [if_neg (by rw [h4]; decide)]
  rw [e2] at a1
  have T2:tk q t.p ⟨#[60,61]⟩=false:=by
   rw [jZ]
   have b2:(bt (bs q) (t.p+1) == 61)=false:=by simpa [aj,aG,e0] using h4
   show (bt (bs q) t.p == 60 && (bt (bs q) (t.p+1) == 61 && true))=false
   rw [b2]; simp
  have T3:tk q t.p ⟨#[60]⟩=true:=(s_ q e0 60).trans h3
  exact VW hq hf he h ft ok hB hgB T0 T1 T2 T3 a1 (by unfold xm; rw [if_neg (aT e0 h1),if_neg (aT e0 h2),if_pos (cX h3),if_neg (show ¬bt (bs q) (t.p+1)=61 from aT (t:=aG t) e0 h4)])
 have h3:aj (bs q) t 60=false:=by simpa using h3
 have T2:=fm (sign:=⟨#[60,61]⟩) e0 rfl h3
 have T3:=fm (sign:=⟨#[60]⟩) e0 rfl h3
 have a1:=aA hf (BJ (Or.inl hok) (λ_=>hb) h1 h2 h3)
 exact Mh hq h ft ok hB hgB T0 T1 T2 T3 a1 (by unfold xm; rw [if_neg (aT e0 h1),if_neg (aT e0 h2),if_neg (aT e0 h3)])
end Go.Proofs.YtcbadebjpogmlaaGreatDoor
