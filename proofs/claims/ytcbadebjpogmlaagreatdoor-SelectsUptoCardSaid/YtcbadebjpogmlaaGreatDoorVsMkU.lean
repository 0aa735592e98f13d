import Derived.Test.YtcbadebjpogmlaaGreatDoorVsMkS
import Derived.Test.YtcbadebjpogmlaaGreatDoorVsVa
import Derived.Test.YtcbadebjpogmlaaGreatDoorVsVg
import Derived.Laws.EntriesVeiled
import Derived.Deep.RegionLaw
import Derived.Deep.AppendLies
set_option maxHeartbeats 2000000
set_option maxRecDepth 100000
namespace Go.Proofs.YtcbadebjpogmlaaGreatDoor
open Go.RowKit Tr
theorem Mo:(Tryz.prog.info? 239).map (λ i=>(i.zero,i.size,i.bytes))=some (some (.agg #[.int .i64 0,.string ⟨#[]⟩,.int .i64 0,.int .i64 0,.nilFunc]),5,48):=by kernel_rfl
def jK (l:List SV):List Value:=l.flatMap SV.cells
def xA (B:Nat) (xs:List b_) (D:Nat->Prop) (sv:Value) (l:List SV) (w:World):Prop:=bP 239 5 SV.cells B (λ i w s=>∀x,xs[i]?=some x->lR w s x) D sv l w
def SwL (q:ByteArray) (B a0 a j:Nat) (sv:Value) (wr:World):Prop:=∃l xs D,xA B xs D sv l wr/\xs.length=j/\l.length=j /\
 ∀m,dY (bs q) (m+j) a0 []=if bt (bs q) a=44 then dY (bs q) m (a+1) xs else ⟨xs,a⟩
structure BrL (g:Nat) (q:ByteArray) (p v:Value) (n:Nat) (w0:World) (B q0 c:Nat) (t:St) (j:Nat) (sv:Value) (wr:World):Prop where
 qt:Qt g q p v n w0 t.p wr
 lv:Live (bs q) q0 (c+j) 9 [] 0 t
 row:SwL q B q0 t.p j sv wr
 gb:g<B
 wb:w0.heap.size<=B
 sz:B<=wr.heap.size
 le:j<=t.p
theorem xB (w:World) (B:Nat) (s:SV) (hB:B<=w.heap.size):(w.alloc (.cells #[.int .i64 s.k,.string s.nm,.int .i64 s.fr,.int .i64 s.to,s.met] 239)).ownsRow B 239 5 (.slice (some ⟨w.heap.size,0,none⟩) 1 1) 1 (jK [s]) :=
 ⟨rfl,Or.inr ⟨w.heap.size,1,_,rfl,hB,heap_alloc_new w _,Nat.le_refl _,by unfold maxLen; decide,rfl,rfl⟩⟩
theorem xC {w:World} {g:Nat} {q:ByteArray} {eF:List UInt8} {n:Nat} {p v:Value} (hq:q.size<=1000) (hf:bz (bs q)) (he:Er g w) {c:Nat} {t:St} (h:Mk g q t.p eF n p v w) (hl:eF.length<=100000) (T0:tk q t.p ⟨#[91]⟩=true)
 (hok:Live (bs q) (t.p+1) (c+1) 6 [] 0 { t with p:=t.p+1 }) :
 Calls Tryz.prog 159 #[.pointer (some ⟨g,0,none⟩)] w (λ r w'=>∃(t':St) (j:Nat) (sv p' v':Value) (l:List SV) (xs:List b_) (D:Nat->Prop),lS (bs q) (c+j) (T (bs q) (t.p+1)++sub (bs q) (t.p+1) t'.p) t'/\t.p<t'.p/\j<=q.size/\r=.returned sv /\
  (xA w.heap.size xs D sv l w'/\xs.length=j/\l.length=j/\yS (bs q) t.p=⟨xs,t'.p⟩)/\Mk g q t'.p (eF++sub (bs q) t.p t'.p) n p' v' w'/\Fr (KG g v) w w'):=by
 obtain ⟨i0,hi,hz0,hz1,dN⟩:=info_parts Mo
 have HI:=aa hi
 have ia:=aa hz0
 have gO:=aa hz1
 have ic:=aa dN
 have HE:=aa he
 have HF:=aa hf
 have MM:=aa h
 have L:=aa hok
 have c1:w.cell? ⟨g,1,none⟩=some (.int .i64 (t.p:Nat)):=h.b.cell 1
 have Hv:=h.le
 clear h hok he hf hi hz0 hz1 dN
 go_enter Tryz.func159,Tryz.ntmps159
 go_wp2_with fail
 refine (de MM.out.qt hq _ T0 (t.p+1) rfl).mono ?_
 rintro r w1 ⟨rfl,h1⟩
 have H1:=aa h1
 clear h1 c1
 go_wp2_with fail
 refine (qK (t:={ t with p:=t.p+1 }) hq HF.out HE.out L.out H1.out).mono ?_
 rintro r w2 ⟨t2,s2,D2,Be,Kl,rfl,kT,fL,h2⟩
 have S:Hid (BrL g q p v n w w.heap.size (t.p+1) c t2 1 (.slice (some ⟨w2.heap.size,0,none⟩) 1 1) (w2.alloc (.cells #[.int .i64 s2.k,.string s2.nm,.int .i64 s2.fr,.int .i64 s2.to,s2.met] 239))):=by
  refine ⟨h2.alloc _,Be,⟨[s2],[(bU (bs q) (t.p+1)).v],D2,bP.one (kT.low H1.out.f.size) (λ w' s x he=>?_) (xB w2 _ s2 h2.f.size),rfl,rfl,λ m=>?_⟩,MM.out.b.lt,Nat.le_refl _,by have:=h2.f.size; simp; omega,by have:=Be.ge; omega⟩
  ·simp at he; subst he; exact fL w' s
  show dY (bs q) (m+1) (t.p+1) []=_
  rw [dY,Kl]
  rfl
 obtain ⟨k2,nm2,fr2,to2,ahF,hm2⟩:=s2
 simp only [SV.agg] at S ⊢
 clear kT fL Kl
 clear h2 Be H1 L
 go_wp2_with fail
 go_loopw [4] (λ sv wr=>∃(t1:St) (j:Nat),BrL g q p v n w w.heap.size (t.p+1) c t1 j sv wr) (λ_ wr=>q.size - mA g wr)
 case atStart=>exact ⟨t2,1,S.out⟩
 case round =>
  clear S
  obtain ⟨t3,j,hS⟩:=hrel
  have S:=aa hS
  have YD:=hS.le
  have YE:t3.p<=q.size:=hS.qt.le
  have hge:t.p+1<=t3.p:=hS.lv.ge
  have HM:=aa hS.qt.mA
  obtain ⟨l,xs,D,hrow,hxl,jT,hps⟩:=hS.row
  obtain ⟨ao,cp,qE⟩:=ah hrow.o
  rw [jT] at qE
  subst qE
  have R:=aa hrow
  have vN:=aa hxl
  have js:=aa jT
  have zP:=aa hps
  have e0:=hS.lv.e0
  clear hS hrow hxl jT hps
  by_cases h1:aj (bs q) t3 44=true
  ·have T1:tk q t3.p ⟨#[44]⟩=true:=(s_ q e0 44).trans h1
   have L1:=aa (aA HF.out (tB (Or.inl S.out.lv) h1))
   have B44:=aa (cX h1)
   clear h1 e0
   go_wp2_with fail
   refine (de S.out.qt.here hq _ T1 (t3.p+1) rfl).mono ?_
   rintro r w4 ⟨rfl,h4⟩
   have H4:=aa h4
   clear h4
   have E2:=aa (HE.out.keep S.out.qt.f)
   go_wp2_with fail
   refine (qK (t:=aG t3) hq HF.out E2.out L1.out.nV H4.out).mono ?_
   rintro r w5 ⟨t5,s5,D5,hl5,hp5,rfl,xl,qI,h5⟩
   have OZ:=aa (xl.low H4.out.f.size)
   have TZ:=aa qI
   have PS5:Hid (∀m,dY (bs q) (m+(j+1)) (t.p+1) []=if bt (bs q) t5.p=44 then dY (bs q) m (t5.p+1) (xs++[(bU (bs q) (t3.p+1)).v]) else ⟨xs++[(bU (bs q) (t3.p+1)).v],t5.p⟩):=λ m=>by
    rw [show m+(j+1)=(m+1)+j by omega,zP.out (m+1),if_pos B44.out,dY,show (bU (bs q) (t3.p+1)).p=t5.p from hp5]
   clear xl qI hp5
   obtain ⟨k5,Rr,Rt,Ru,zS,hm5⟩:=s5
   simp only [SV.agg]
   have hkt:t3.p+1<=t5.p:=hl5.ge
   have wT:=h5.le
   have L5:Hid (Live (bs q) (t.p+1) (c+(j+1)) 9 [] 0 t5):=L1.out.nX hl5
   have H5:=aa h5
   have V5:Hid (∀u ∈ [Value.int .i64 k5,.string Rr,.int .i64 Rt,.int .i64 Ru,zS],u.oneCell'=true):=(SV.mk k5 Rr Rt Ru zS hm5).one
   have M5:=aa hm5
   have OK6:Hid (fR D5 w5 (λ w=>lR w ⟨k5,Rr,Rt,Ru,zS,M5.out⟩ (bU (bs q) (t3.p+1)).v)):=TZ.out
   clear h5 hl5 H4 L1 TZ hm5
   have cN:w5.ownsRow w.heap.size 239 5 (.slice ao j cp) j (jK l):=aW (js.out▸R.out.o) H5.out.f (λ k hk e=>by have:=S.out.gb; omega)
   have V9:w.heap.size<=w5.heap.size:=Nat.le_trans S.out.sz H5.out.f.size
   go_wp2_with (at_builtin; refine wpList_append_own_at _ rfl _ _ 210 rfl w.heap.size 239 i0 _ 5 48 Tryz.underlying210 HI.out ia.out gO.out ic.out rfl (by decide) _ _ _ rfl (cN.alloc _) ⟨w5.heap.size,0,none⟩ 1 1 [.int .i64 k5,.string Rr,.int .i64 Rt,.int .i64 Ru,zS] rfl rfl ?c1 ?c2 ?c3 ?c4 ?c5 ?_)
   case c1 =>
    intro j u hj
    match j,hj with
    | 0,hj=>simp at hj; subst hj; simp [Addr.add]
    | 1,hj=>simp at hj; subst hj; simp [Addr.add]
    | 2,hj=>simp at hj; subst hj; simp [Addr.add]
    | 3,hj=>simp at hj; subst hj; simp [Addr.add]
    | 4,hj=>simp at hj; subst hj; simp [Addr.add]
   case c2=>exact V5.out
   case c3=>unfold maxLen; omega
   case c4=>omega
   case c5=>simp; omega
   intro v' w6 oK hgrow _ kP
   have RR:SwL q w.heap.size (t.p+1) t5.p (j+1) v' w6:=by
    have R1:xA w.heap.size xs D (.slice ao j cp) l (w5.alloc (.cells #[.int .i64 k5,.string Rr,.int .i64 Rt,.int .i64 Ru,zS] 239)):=bP.fr R.out (H5.out.alloc _).f (λ k hk e=>by have:=S.out.gb; omega)
    have R2:bP 239 5 SV.cells w.heap.size (λ i w s=>∀x,(xs++[(bU (bs q) (t3.p+1)).v])[i]?=some x->lR w s x) D (.slice ao j cp) l (w5.alloc (.cells #[.int .i64 k5,.string Rr,.int .i64 Rt,.int .i64 Ru,zS] 239)) :=
     ⟨R1.o,R1.ft,R1.ne,λ i hi w' s x he=>R1.ok i hi w' s x (by rw [List.getElem?_append_left (by have:=vN.out; have:=js.out; omega)] at he; exact he)⟩
    refine ⟨l++[⟨k5,Rr,Rt,Ru,zS,M5.out⟩],xs++[(bU (bs q) (t3.p+1)).v],λ k=>D k\/D5 k,?_,by simp [vN.out],by simp [js.out],PS5.out⟩
    refine R2.push (A:=wr.heap.size) (λ k hk=>(R.out.o.lt k hk).2) S.out.sz (OZ.out.keep (Sm.alloc OZ.out _)) (λ w' s x he=>?_) (by rw [js.out]; exact oK) hgrow (by simpa using kP)
    rw [js.out,<-vN.out] at he
    simp at he
    subst he
    exact (OK6.out.keep (Sm.alloc OZ.out _)) w' s
   have S2:Hid (BrL g q p v n w w.heap.size (t.p+1) c t5 (j+1) v' w6) :=
    ⟨(S.out.qt.join (H5.out.alloc _)).grown hgrow (λ k hk=>(cN.lt k hk).1) S.out.gb S.out.wb,L5.out,RR,S.out.gb,S.out.wb,Nat.le_trans V9 (Nat.le_trans (by simp) hgrow.size),by omega⟩
   clear RR
   clear oK hgrow cN
   go_wp2
   go_roundw
   case rel=>exact ⟨_,_,S2.out⟩
   case measure =>
    have m1:mA g wr=t3.p:=HM.out
    have m2:mA g w6=t5.p:=S2.out.qt.mA
    rw [m1,m2]
    omega
  have h1:aj (bs q) t3 44=false:=by simpa using h1
  have T1:=fm (sign:=⟨#[44]⟩) e0 rfl h1
  have a1:=tC (Or.inl S.out.lv) h1
  have a2:lS (bs q) (c+j) (T (bs q) (t.p+1)++sub (bs q) (t.p+1) (aN (bs q) t3 [93]).p) (aN (bs q) t3 [93]):=a1.resolve_right (λ b=>gR HF.out b)
  obtain ⟨T2,e2⟩:=gQ (sign:=⟨#[93]⟩) a2.e0
  rw [show [93]=nb ⟨#[93]⟩ from rfl,e2] at a2
  have A2:=aa a2
  have NB:=aa (aT e0 h1)
  clear h1 e0 a1 a2 e2
  go_wp2_with fail
  refine (cI S.out.qt.here hq _ T1).mono ?_
  rintro r w4 ⟨rfl,h4⟩
  have H4:=aa h4
  clear h4
  go_wp2_with fail
  refine (de H4.out hq _ T2 (t3.p+1) rfl).mono ?_
  rintro r w5 ⟨rfl,h5⟩
  have H5:=aa (S.out.qt.join h5)
  have R5:Hid (xA w.heap.size xs D (.slice ao j cp) l w5):=bP.fr R.out h5.f (λ k hk e=>by have:=S.out.gb; omega)
  clear h5 H4
  have M5:=aa (MM.out.step H5.out)
  have F5:Hid (Fr (KG g v) w w5):=KG.of H5.out.f
  have d0:w5.cell? ⟨g,0,none⟩=some (.string q):=M5.out.b.cell 0
  have d1:w5.cell? ⟨g,1,none⟩=some (.int .i64 ((t3.p+1:Nat):Int)):=M5.out.b.cell 1
  have ahJ:t3.p+1<=q.size:=M5.out.le
  simp at d1
  go_wp2_with fail
  have MD:Hid (Mk g q (t3.p+1) eF n p v w5.drew):=⟨M5.out.b,M5.out.o,M5.out.row,M5.out.le⟩
  have HZ:=aa (show eF.length+(q.extract t.p (t3.p+1)).size<=1000000 by simp [ByteArray.size_extract]; omega)
  go_region_with (go_at_call 86; refine (mL MD.out _ HZ.out).mono ?_; rintro r w6 ⟨rfl,p6,v6,h6,f6⟩)
  all_goals
   rw [cP] at h6
   have M6:=aa h6
   have F6:=aa (F5.out.drew.trans f6)
   have hne:∀k,w.heap.size<=k->¬KG g v k:=λ k hk x=>by have:=MM.out.lt k x; omega
   have R6:Hid (xA w.heap.size xs D (.slice ao j cp) l w6):=bP.fr (bP.fr (w':=w5.drew) R5.out (K:=λ_=>False) (Fr.refl _ w5).drew (λ_ _ x=>x)) f6 hne
   clear h6 f6
   go_wp2
   go_ret
   have zk:yS (bs q) t.p=⟨xs,t3.p+1⟩:=by
    unfold yS
    rw [an,show q.size+1=(q.size+1 - j)+j by omega,zP.out,if_neg NB.out]
   exact ⟨{ t3 with p:=t3.p+1 },j,_,p6,v6,l,xs,D,A2.out,by show t.p<t3.p+1; omega,by omega,rfl,⟨R6.out,vN.out,js.out,zk⟩,M6.out,F6.out⟩
theorem xD (l:List SV) (i c:Nat) (hc:c<5) (h:i<l.length):(jK l)[i * 5+c]?=(l[i]).cells[c]?:=by
 induction l generalizing i with
 | nil=>cases h
 | cons a l ih =>
  have e:jK (a::l)=a.cells++jK l:=rfl
  have ea:a.cells.length=5:=rfl
  rw [e]
  cases i with
  | zero=>rw [List.getElem?_append_left (by omega)]; simp
  | succ i =>
   rw [List.getElem?_append_right (by omega),ea,show (i+1) * 5+c - 5=i * 5+c by omega,ih i (by simpa using h)]
   simp
def tD (B:Nat) (D0:Nat->Prop) (w:World) (P:World->Value->Prop) (r:Ending) (w':World):Prop:=(∃f D,r=.returned f/\(∀k,D k->D0 k\/w.heap.size<=k)/\Ft D B w'/\fR D w' (λ w''=>P w'' f))/\Below w.heap.size w w'
theorem aaB {B:Nat} {w:World} {nm:ByteArray} {fr to:Int} {met:Value} (hm:met=.nilFunc\/∃f x y,met=.func f x y) {x:b_} (hB:B<=w.heap.size) (hx:x.sort=2) (hn:x.name=bs nm) :
 Calls Tryz.prog 161 #[.agg #[.int .i64 1,.string nm,.int .i64 fr,.int .i64 to,met]] w (tD B (λ_=>False) w (λ w f=>iH w f x)):=by
 rcases hm with rfl | ⟨f,y,z,rfl⟩
 all_goals
  go_enter Tryz.func161,Tryz.ntmps161
  go_wp2
  go_ret
  refine ⟨⟨_,λ k=>k=w.heap.size,rfl,λ k hk=>Or.inr (by omega),Ft.one (ay.new _ _ _) (by decide) hB,λ w'' s=>?_⟩,((Fr.refl (λ_=>False) w).alloc _).below⟩
  exact H9 ⟨(ay.new w _ _).sm s rfl⟩ x hx hn
theorem aaC {B:Nat} {w:World} {nm:ByteArray} {fr to:Int} {met:Value} (hm:met=.nilFunc\/∃f x y,met=.func f x y) {x:b_} (hB:B<=w.heap.size) (hx:x.sort=3) (hn:x.n=fr) (h0:0<=fr) :
 Calls Tryz.prog 161 #[.agg #[.int .i64 2,.string nm,.int .i64 fr,.int .i64 to,met]] w (tD B (λ_=>False) w (λ w f=>iH w f x)):=by
 rcases hm with rfl | ⟨f,y,z,rfl⟩
 all_goals
  go_enter Tryz.func161,Tryz.ntmps161
  go_wp2
  go_ret
  refine ⟨⟨_,λ k=>k=w.heap.size,rfl,λ k hk=>Or.inr (by omega),Ft.one (ay.new _ _ _) (by decide) hB,λ w'' s=>?_⟩,((Fr.refl (λ_=>False) w).alloc _).below⟩
  exact H_ ⟨(ay.new w _ _).sm s rfl⟩ x hx hn h0
theorem aaD {B:Nat} {w:World} {nm:ByteArray} {fr to:Int} {met:Value} (hm:met=.nilFunc\/∃f x y,met=.func f x y) {x:b_} (hB:B<=w.heap.size) (hx:x.sort=3) (hn:x.n=-fr) (h0:0<fr/\fr<=1000) :
 Calls Tryz.prog 161 #[.agg #[.int .i64 3,.string nm,.int .i64 fr,.int .i64 to,met]] w (tD B (λ_=>False) w (λ w f=>iH w f x)):=by
 rcases hm with rfl | ⟨f,y,z,rfl⟩
 all_goals
  go_enter Tryz.func161,Tryz.ntmps161
  go_wp2
  go_ret
  refine ⟨⟨_,λ k=>k=w.heap.size,rfl,λ k hk=>Or.inr (by omega),Ft.one (ay.new _ _ _) (by decide) hB,λ w'' s=>?_⟩,((Fr.refl (λ_=>False) w).alloc _).below⟩
  exact Rw ⟨(ay.new w _ _).sm s rfl⟩ x hx hn h0
theorem aaE {B:Nat} {w:World} {nm:ByteArray} {fr to:Int} {met:Value} (hm:met=.nilFunc\/∃f x y,met=.func f x y) {x:b_} (hB:B<=w.heap.size) (hx:x.sort=4) (hf:x.ai=fr) (ht:(x.to<0/\4000000<to)\/(0<=x.to/\x.to=to)) :
 Calls Tryz.prog 161 #[.agg #[.int .i64 4,.string nm,.int .i64 fr,.int .i64 to,met]] w (tD B (λ_=>False) w (λ w f=>iH w f x)):=by
 rcases hm with rfl | ⟨f,y,z,rfl⟩
 all_goals
  go_enter Tryz.func161,Tryz.ntmps161
  go_wp2
  go_ret
  refine ⟨⟨_,λ k=>k=w.heap.size,rfl,λ k hk=>Or.inr (by omega),Ft.one (ay.new _ _ _) (by decide) hB,λ w'' s=>?_⟩,((Fr.refl (λ_=>False) w).alloc _).below⟩
  exact Ia ⟨(ay.new w _ _).sm s rfl⟩ x hx hf ht
theorem aaF {B:Nat} {w:World} {nm:ByteArray} {fr to:Int} {met:Value} (hm:met=.nilFunc\/∃f x y,met=.func f x y) {x:b_} (hx:x.sort=1) :
 Calls Tryz.prog 161 #[.agg #[.int .i64 0,.string nm,.int .i64 fr,.int .i64 to,met]] w (tD B (λ_=>False) w (λ w f=>iH w f x)):=by
 rcases hm with rfl | ⟨f,y,z,rfl⟩
 all_goals
  go_enter Tryz.func161,Tryz.ntmps161
  go_wp2
  go_ret
  exact ⟨⟨_,λ_=>False,rfl,λ k hk=>hk.elim,Ft.none _ _,λ w'' s=>Ib w'' x hx⟩,((Fr.refl (λ_=>False) w).alloc _).below⟩
theorem aaG {B:Nat} {w:World} {nm:ByteArray} {fr to:Int} {met:Value} {D:Nat->Prop} {x:b_} (ft:Ft D B w) (ok:fR D w (λ w=>dh w met x.wh)) (hx:x.sort=5) :
 Calls Tryz.prog 161 #[.agg #[.int .i64 5,.string nm,.int .i64 fr,.int .i64 to,met]] w (tD B D w (λ w f=>iH w f x)):=by
 obtain ⟨N,cap,rfl,_,_⟩:=ok.self
 have FT:=aa ft
 have OK:=aa ok
 clear ft ok
 go_enter Tryz.func161,Tryz.ntmps161
 go_wp2
 go_ret
 have s1:=Sm.alloc FT.out (.cells #[.int .i64 5,.string nm,.int .i64 fr,.int .i64 to,.func (.func N) #[] cap] 239)
 exact ⟨⟨_,D,rfl,λ k hk=>Or.inl hk,FT.out.keep s1,λ w'' s=>Ic (OK.out w'' (s1.trans s)) x hx rfl⟩,((Fr.refl (λ_=>False) w).alloc _).below⟩
theorem tD.more {B:Nat} {D0 D1:Nat->Prop} {w:World} {P:World->Value->Prop} (hd:∀k,D0 k->D1 k) {r:Ending} {w':World} (h:tD B D0 w P r w'):tD B D1 w P r w':=by
 obtain ⟨⟨f,D,h1,h2,h3⟩,h4⟩:=h
 exact ⟨⟨f,D,h1,λ k hk=>(h2 k hk).imp (hd k) id,h3⟩,h4⟩
theorem Ie {B:Nat} {w:World} {s:SV} {x:b_} {D:Nat->Prop} (ft:Ft D B w) (ok:fR D w (λ w=>lR w s x)) (hB:B<=w.heap.size) :
 Calls Tryz.prog 161 #[s.agg] w (tD B D w (λ w f=>iH w f x)):=by
 have h:=ok.self
 obtain ⟨k,nm,fr,to,met,hm⟩:=s
 unfold SV.agg
 rcases h with ⟨h1,h2⟩ | ⟨h1,h2,h3⟩ | ⟨h1,h2,h3,h4⟩ | ⟨h1,h2,h3,h4⟩ | ⟨h1,h2,h3,h4⟩ | ⟨h1,h2,h3⟩
 ·obtain rfl:k=0:=h2
  exact (aaF hm h1).mono (λ_ _=>tD.more (λ_ h=>h.elim))
 ·obtain rfl:k=1:=h2
  exact (aaB hm hB h1 h3).mono (λ_ _=>tD.more (λ_ h=>h.elim))
 ·obtain rfl:k=2:=h2
  exact (aaC hm hB h1 h3 h4).mono (λ_ _=>tD.more (λ_ h=>h.elim))
 ·obtain rfl:k=3:=h2
  exact (aaD hm hB h1 h3 h4).mono (λ_ _=>tD.more (λ_ h=>h.elim))
 ·obtain rfl:k=4:=h2
  exact (aaE hm hB h1 h3 h4).mono (λ_ _=>tD.more (λ_ h=>h.elim))
 obtain rfl:k=5:=h2
 refine aaG ft (λ w' s=>?_) h1
 rcases ok w' s with ⟨a,_⟩ | ⟨a,_⟩ | ⟨a,_⟩ | ⟨a,_⟩ | ⟨a,_⟩ | ⟨_,_,h⟩
 ·rw [h1] at a; cases a
 ·rw [h1] at a; cases a
 ·rw [h1] at a; cases a
 ·rw [h1] at a; cases a
 ·rw [h1] at a; cases a
 exact h
theorem Mp {w:World} {s:SV} {x:b_} (h:lR w s x):(s.k == 3 || s.k == 5)=x.late:=by
 rcases h with ⟨h1,h2⟩ | ⟨h1,h2,h3⟩ | ⟨h1,h2,h3,h4⟩ | ⟨h1,h2,h3,h4⟩ | ⟨h1,h2,h3,h4⟩ | ⟨h1,h2,h3⟩
 ·simp [b_.late,h1,h2]
 ·simp [b_.late,h1,h2]
 ·simp [b_.late,h1,h2]; omega
 ·simp [b_.late,h1,h2]; omega
 ·simp [b_.late,h1,h2]
 simp [b_.late,h1,h2]
theorem Rx {w:World} {s:SV} {x:b_} (h:lR w s x):Calls Tryz.prog 162 #[s.agg] w λ r w'=>r=.returned (.bool x.late)/\Below w.heap.size w w':=by
 rw [<-Mp h]
 clear h
 obtain ⟨k,nm,fr,to,met,hm⟩:=s
 unfold SV.agg
 simp only
 clear hm
 by_cases h3:k=3
 ·subst h3
  go_enter Tryz.func162,Tryz.ntmps162
  go_wp2
  go_ret
  exact ⟨rfl,((Fr.refl (λ_=>False) w).alloc _).below⟩
 have e3:(k == 3)=false:=by simpa using h3
 rw [e3]
 go_enter Tryz.func162,Tryz.ntmps162
 go_wp2
 go_ret
 exact ⟨rfl,((Fr.refl (λ_=>False) w).alloc _).below⟩
theorem Ft.up {D:Nat->Prop} {B:Nat} {w w':World} (h:Ft D B w) (f:ak w w'):Sm D w w':=Sm.fr h f (λ_ _ x=>x)
theorem oc {B:Nat} {w:World} {f:Value} {F:Tv->List Tv} {D:Nat->Prop} (ft:Ft D B w) (ok:fR D w (λ w=>kU w f F)) (hB:B<=w.heap.size):Calls Tryz.prog 163 #[f] w (tD B D w (λ w f=>kU w f (λ t=>(au 10 t).flatMap F))):=by
 obtain ⟨N,cap,rfl,_,_⟩:=ok.self
 have FT:=aa ft
 have OK:=aa ok
 clear ft ok
 go_enter Tryz.func163,Tryz.ntmps163
 go_wp2
 go_ret
 have s1:∀(o o':Obj),Sm D w ((w.alloc o).alloc o'):=λ o o'=>Sm.fr (K:=λ_=>False) FT.out (((Fr.refl _ w).alloc o).alloc o') (λ_ _ x=>x)
 have b1:=(ay.new w #[.func (.func N) #[] cap] 124).alloc (.cells #[.func (.func 210) #[] #[.pointer (some ⟨w.heap.size,0,none⟩),.pointer (some ⟨w.heap.size+1,0,none⟩)]] 124)
 have b2:=ay.new (w.alloc (.cells #[.func (.func N) #[] cap] 124)) #[.func (.func 210) #[] #[.pointer (some ⟨w.heap.size,0,none⟩),.pointer (some ⟨w.heap.size+1,0,none⟩)]] 124
 have e2:(w.alloc (.cells #[.func (.func N) #[] cap] 124)).heap.size=w.heap.size+1:=by simp
 rw [e2] at b2
 refine ⟨⟨_,λ x=>(D x\/x=w.heap.size)\/x=w.heap.size+1,rfl,λ k hk=>?_,((FT.out.keep (s1 _ _)).or (Ft.one b1 (by decide) hB)).or (Ft.one b2 (by decide) (by omega)),λ w'' s=>?_⟩,((Fr.refl (λ_=>False) w).alloc _ |>.alloc _).below⟩
 ·rcases hk with (hk | hk) | hk
  ·exact Or.inl hk
  ·exact Or.inr (by omega)
  exact Or.inr (by omega)
 exact Dq (OK.out w'' ((s1 _ _).trans (s.less (λ_ x=>Or.inl (Or.inl x))))) (b1.sm s (Or.inl (Or.inr rfl))) (b2.sm s (Or.inr rfl))
theorem mN {B:Nat} {w:World} {sv:Value} {fs:List Value} {D:Nat->Prop} {xs:List b_} (h:Row 242 B (λ i w f=>∀x,xs[i]?=some x->iH w f x) D sv fs w) (hl:xs.length=fs.length) (hj:fs.length<=1000) (hB:B<=w.heap.size):Calls Tryz.prog 164 #[sv] w (tD B (λ k=>D k\/sv.ownBlock=some k) w (λ w f=>kU w f (fC xs))):=by
 obtain ⟨ao,cp,hs⟩:=ah h.o
 obtain ⟨j,jU⟩:∃j,j=fs.length:=⟨_,rfl⟩
 rw [<-jU] at hs
 subst hs
 have H:=aa h
 have HL:=aa hl
 have HJ:=aa hj
 clear h hl hj jU
 go_enter Tryz.func164,Tryz.ntmps164
 go_wp2
 go_ret
 have ft:=H.out.Hq (by decide)
 have Pc:=(ft.keep (Sm.alloc ft _)).or (Ft.one (ay.new w #[.slice ao j cp] 241) (by decide) hB)
 refine ⟨⟨_,λ x=>(D x\/(.slice ao j cp:Value).ownBlock=some x)\/x=w.heap.size,rfl,λ k hk=>hk.imp id (λ e=>by omega),Pc,λ w'' s=>?_⟩,((Fr.refl (λ_=>False) w).alloc _).below⟩
 have s1:=(Sm.alloc ft _).trans (s.less (λ_=>Or.inl))
 have Mq:=Pc.keep s
 exact Ig (bJ H.out.o (λ k hk=>s1 k (Or.inr hk))) HJ.out HL.out (λ i h1 h2 w3 qm=>H.out.ok i h1 w3 ((s1.less (λ_=>Or.inl)).trans ((Mq.up qm).less (λ_ x=>Or.inl (Or.inl x)))) _ (List.getElem?_eq_getElem h2)) ((ay.new w _ _).sm s (Or.inr rfl))
theorem r7 {B:Nat} {w:World} {sv:Value} {fs:List Value} {D:Nat->Prop} {xs:List b_} (h:Row 242 B (λ i w f=>∀x,xs[i]?=some x->iH w f x) D sv fs w) (hl:xs.length=fs.length) (hj:fs.length<=1000) (hB:B<=w.heap.size):Calls Tryz.prog 166 #[sv] w (tD B (λ k=>D k\/sv.ownBlock=some k) w (λ w f=>kV w f false xs)):=by
 obtain ⟨ao,cp,hs⟩:=ah h.o
 obtain ⟨j,jU⟩:∃j,j=fs.length:=⟨_,rfl⟩
 rw [<-jU] at hs
 subst hs
 have H:=aa h
 have HL:=aa hl
 have HJ:=aa hj
 clear h hl hj jU
 go_enter Tryz.func166,Tryz.ntmps166
 go_wp2
 go_ret
 have ft:=H.out.Hq (by decide)
 have Pc:=(ft.keep (Sm.alloc ft _)).or (Ft.one (ay.new w #[.slice ao j cp] 241) (by decide) hB)
 refine ⟨⟨_,λ x=>(D x\/(.slice ao j cp:Value).ownBlock=some x)\/x=w.heap.size,rfl,λ k hk=>hk.imp id (λ e=>by omega),Pc,λ w'' s=>?_⟩,((Fr.refl (λ_=>False) w).alloc _).below⟩
 have s1:=(Sm.alloc ft _).trans (s.less (λ_=>Or.inl))
 have Mq:=Pc.keep s
 exact xE (bJ H.out.o (λ k hk=>s1 k (Or.inr hk))) HJ.out HL.out (λ i h1 h2 w3 qm=>H.out.ok i h1 w3 ((s1.less (λ_=>Or.inl)).trans ((Mq.up qm).less (λ_ x=>Or.inl (Or.inl x)))) _ (List.getElem?_eq_getElem h2)) ((ay.new w _ _).sm s (Or.inr rfl))
theorem mO {B:Nat} {w:World} {sv:Value} {fs:List Value} {D:Nat->Prop} {xs:List b_} (h:Row 242 B (λ i w f=>∀x,xs[i]?=some x->iH w f x) D sv fs w) (hl:xs.length=fs.length) (hj:fs.length<=1000) (hB:B<=w.heap.size):Calls Tryz.prog 165 #[sv] w (tD B (λ k=>D k\/sv.ownBlock=some k) w (λ w f=>kV w f true xs)):=by
 obtain ⟨ao,cp,hs⟩:=ah h.o
 obtain ⟨j,jU⟩:∃j,j=fs.length:=⟨_,rfl⟩
 rw [<-jU] at hs
 subst hs
 have H:=aa h
 have HL:=aa hl
 have HJ:=aa hj
 clear h hl hj jU
 go_enter Tryz.func165,Tryz.ntmps165
 go_wp2
 go_ret
 have ft:=H.out.Hq (by decide)
 have Pc:=(ft.keep (Sm.alloc ft _)).or (Ft.one (ay.new w #[.slice ao j cp] 241) (by decide) hB)
 refine ⟨⟨_,λ x=>(D x\/(.slice ao j cp:Value).ownBlock=some x)\/x=w.heap.size,rfl,λ k hk=>hk.imp id (λ e=>by omega),Pc,λ w'' s=>?_⟩,((Fr.refl (λ_=>False) w).alloc _).below⟩
 have s1:=(Sm.alloc ft _).trans (s.less (λ_=>Or.inl))
 have Mq:=Pc.keep s
 exact uL (bJ H.out.o (λ k hk=>s1 k (Or.inr hk))) HJ.out HL.out (λ i h1 h2 w3 qm=>H.out.ok i h1 w3 ((s1.less (λ_=>Or.inl)).trans ((Mq.up qm).less (λ_ x=>Or.inl (Or.inl x)))) _ (List.getElem?_eq_getElem h2)) ((ay.new w _ _).sm s (Or.inr rfl))
theorem zT:(Tryz.prog.info? 242).map (λ i=>(i.zero,i.size,i.bytes))=some (some .nilFunc,1,8):=by kernel_rfl
theorem Row.V_ {T:TypeId} {B:Nat} {P:Nat->World->Value->Prop} {D D2:Nat->Prop} {sv jG:Value} {fs:List Value} {f:Value} {W W':World} (h:Row T B P D sv fs W) (n2:∀k,D2 k->sv.ownBlock≠some k)
 (ft:Ft D2 B W) (ok:fR D2 W (λ w'=>P fs.length w' f)) (ho:W'.ownsRow B T 1 jG (fs.length+1) (fs++[f])) (hg:W.grownBy W' sv.ownBlock) (hb:jG.ownBlock=sv.ownBlock\/jG.ownBlock=some W.heap.size) :
 Row T B P (λ k=>D k\/D2 k) jG (fs++[f]) W':=by
 have s1:Sm D W W':=Sm.grown h.ft hg h.ne
 have s2:Sm D2 W W':=Sm.grown ft hg n2
 refine ⟨by simpa using ho,(h.ft.keep s1).or (ft.keep s2),λ k hk e=>?_,λ i hi=>?_⟩
 ·rcases hb with x | x
  ·rw [x] at e
   exact hk.elim (λ y=>h.ne k y e) (λ y=>n2 k y e)
  rw [x] at e
  have e2:W.heap.size=k:=Option.some.inj e
  have:k<W.heap.size:=hk.elim (λ y=>h.ft.lt y) (λ y=>ft.lt y)
  omega
 by_cases hl:i<fs.length
 ·have:=((h.ok i hl).keep s1).more (D':=λ k=>D k\/D2 k) (λ k=>Or.inl)
  rw [show (fs++[f])[i]=fs[i] from List.getElem_append_left hl]
  exact this
 have e:i=fs.length:=by simp at hi; omega
 subst e
 have:=(ok.keep s2).more (D':=λ k=>D k\/D2 k) (λ k=>Or.inr)
 rw [show (fs++[f])[fs.length]=f by simp]
 exact this
structure Ih (w:World) (B:Nat) (xs:List b_) (D:Nat->Prop) (sv:Value) (fs:List Value) (i:Nat) (wr:World):Prop where
 bl:Below w.heap.size w wr
 bk:ay wr w.heap.size #[.nilFunc,.nilFunc,.bool false] 128
 row:Row 242 B (λ i w f=>∀x,xs[i]?=some x->iH w f x) D sv fs wr
 fl:fs.length=i
 nd:∀k,D k->k≠w.heap.size
 nr:∀k,sv.ownBlock=some k->w.heap.size<k
theorem Ih.below {w:World} {B:Nat} {xs:List b_} {D:Nat->Prop} {sv:Value} {fs:List Value} {i:Nat} {wr w1:World} (h:Ih w B xs D sv fs i wr) (f:Below wr.heap.size wr w1):Ih w B xs D sv fs i w1 :=
 ⟨(((Fr.aL (K:=λ_=>False) h.bl)).trans (Fr.aL f)).below,h.bk.fr (Fr.aL (K:=λ_=>False) f) id,h.row.below f,h.fl,h.nd,h.nr⟩
theorem Ih.alloc {w:World} {B:Nat} {xs:List b_} {D:Nat->Prop} {sv:Value} {fs:List Value} {i:Nat} {wr:World} (h:Ih w B xs D sv fs i wr) (o:Obj):Ih w B xs D sv fs i (wr.alloc o):=h.below ((Fr.refl (λ_=>False) wr).alloc o).below
theorem Ih.next {w:World} {B:Nat} {xs:List b_} {D D2:Nat->Prop} {sv jG:Value} {fs:List Value} {i:Nat} {W W':World} {f:Value} {x:b_} (h:Ih w B xs D sv fs i W) (hx:xs[i]?=some x) (ft:Ft D2 B W) (ok:fR D2 W (λ w'=>iH w' f x))
 (n2:∀k,D2 k->k≠w.heap.size/\sv.ownBlock≠some k) (hg:W.grownBy W' sv.ownBlock) (ho:W'.ownsRow B 242 1 jG (i+1) (fs++[f])) (hb:jG.ownBlock=sv.ownBlock\/jG.ownBlock=some W.heap.size) :
 Ih w B xs (λ k=>D k\/D2 k) jG (fs++[f]) (i+1) W':=by
 have hne:¬sv.ownBlock=some w.heap.size:=λ e=>by have:=h.nr _ e; omega
 have hlt:=h.bk.lt
 refine ⟨?_,(hg.block w.heap.size h.bk.lt (λ e=>hne e.symm)).trans h.bk,h.row.V_ (λ k hk=>(n2 k hk).2) ft (λ w' s x' he=>?_) (by rw [h.fl]; exact ho) hg hb,by simp [h.fl],λ k hk=>hk.elim (h.nd k) (λ y=>(n2 k y).1),λ k hk=>?_⟩
 ·have f1:Fr (λ_=>False) w W':=(Fr.aL h.bl).grown hg (λ k hk=>Or.inl (by have:=h.nr k hk; omega))
  exact f1.below
 ·rw [h.fl,hx] at he
  cases he
  exact ok w' s
 rcases hb with e | e
 ·rw [e] at hk; exact h.nr k hk
 rw [e] at hk
 have:W.heap.size=k:=Option.some.inj hk
 omega
theorem Ii {R:Ending->World->Prop} {a:Act} {W:World} {g:Nat} {x0 x1 x2:Value} (hd:a.defers=[]) (ha:a.tmps[4]?.getD undef=.pointer (some ⟨g,0,none⟩))
 (hB:ay W g #[x0,x1,x2] 128) (hR:R (.returned (.agg #[x0,x1,x2])) W):bodyPost Tryz.prog Tryz.f116 R .ret a W:=by
 have k0:=hB.cell 0
 have k1:=hB.cell 1
 have k2:=hB.cell 2
 simp at k0 k1 k2
 refine bodyPost_ret (v:=.agg #[x0,x1,x2]) ?_ hd hR
 simp [results,Tryz.results116,go_sem,ha,k0,k1,k2]
structure SgV (w:World) (f f':Value) (x:Sg):Prop where
 t:kU w f (dr x)
 c:kV w f' x.deep x.l
def SgB (B:Nat) (w:World) (x:Sg) (r:Ending) (w':World):Prop:=(∃f f' D,r=.returned (.agg #[f,f',.bool x.late])/\Ft D B w'/\fR D w' (λ w=>SgV w f f' x))/\Below w.heap.size w w'
theorem Ij {xs:List b_} {k:Nat} {x:b_} (h:xs[k]?=some x):(xs.take (k+1)).any b_.late=((xs.take k).any b_.late || x.late):=by
 obtain ⟨hk,rfl⟩:=List.getElem?_eq_some_iff.1 h
 rw [List.take_succ_eq_append_getElem hk,List.any_append]
 simp
theorem xF {w:World} {B j cp:Nat} {ao:Option Addr} {l:List SV} {xs:List b_} {D0:Nat->Prop} (th:Bool) (h:xA B xs D0 (.slice ao j cp) l w) (hxl:xs.length=j) (hlen:l.length=j) (hj:j<=1000) (hB:B<=w.heap.size) :
 Calls Tryz.prog 116 #[.bool th,.slice ao j cp] w (SgB B w ⟨th,xs⟩):=by
 obtain ⟨i0,hi,hz0,hz1,dN⟩:=info_parts zT
 have HI:=aa hi
 have ia:=aa hz0
 have gO:=aa hz1
 have ic:=aa dN
 have HS:=aa h
 have ho0:w.ownsRow B 239 5 (.slice ao j cp) j (jK l):=hlen▸h.o
 have H:=aa ho0
 have HX:=aa hxl
 clear h hi hz0 hz1 dN ho0 hxl
 have S:Hid (Ih w B xs (λ_=>False) (.slice none 0 0) [] 0 (w.alloc (.cells #[.nilFunc,.nilFunc,.bool false] 128))) :=
  ⟨((Fr.refl (λ_=>False) w).alloc _).below,ay.new _ _ _,Row.nil _ _ _ _,rfl,λ_ h=>h.elim,λ k hk=>by cases hk⟩
 go_enter Tryz.func116,Tryz.ntmps116
 go_wp2
 go_loopw [5,6,8,11] (λ sv lt _ i wr=>∃(k:Nat) (fs:List Value) (D:Nat->Prop),k<=j/\i=.int .i64 k/\lt=.bool ((xs.take k).any b_.late)/\Ih w B xs D sv fs k wr) (λ_ _ _ i _=>j - (intOf i).toNat)
 case atStart=>exact ⟨0,[],_,Nat.zero_le _,rfl,rfl,S.out⟩
 case round =>
  clear S
  obtain ⟨k,fs,D,hk,rfl,rfl,hS⟩:=hrel
  have S:=aa hS
  clear hS
  by_cases hlt:k<j
  ·obtain ⟨g,cap,hv,Bg,qg⟩:=H.out.form (by omega)
   simp only [Value.slice.injEq,true_and] at hv
   obtain ⟨rfl,rfl⟩:=hv
   have l5:∀c:Nat,wr.cell? ⟨g,c,none⟩=w.cell? ⟨g,c,none⟩:=λ c=>S.out.bl.cell (p:=⟨g,c,none⟩) qg
   have hcell:∀c:Nat,c<5->wr.cell? ⟨g,k * 5+c,none⟩=(l[k]).cells[c]?:=λ c hc=>((l5 _).trans (H.out.cellAt (k * 5+c) (by omega))).trans (xD l k c hc (by omega))
   have Qw:=hcell 0 (by decide)
   have Oh:=hcell 1 (by decide)
   have TM:=hcell 2 (by decide)
   have YJ:=hcell 3 (by decide)
   have kc4:=hcell 4 (by decide)
   clear hcell l5
   have hkx:k<xs.length:=by have:=HX.out; omega
   obtain ⟨x,hx⟩:∃x,xs[k]?=some x:=⟨_,List.getElem?_eq_getElem hkx⟩
   have OKS:Hid (fR D0 w (λ w=>lR w l[k] x)):=λ w' s=>HS.out.ok k (by omega) w' s x hx
   have YK:=aa HS.out.ft
   have xG:=aa hx
   have OC:=aa (Ij hx)
   clear hx
   generalize l[k]=s at *
   simp only [SV.cells,List.getElem?_cons_zero,List.getElem?_cons_succ,Nat.add_zero] at Qw Oh TM YJ kc4
   have sm:∀W,Below w.heap.size w W->Sm D0 w W:=λ W hb=>Sm.fr (K:=λ_=>False) YK.out (Fr.aL hb) (λ_ _ y=>y)
   have TK:Hid (∀W,Below w.heap.size w W->Calls Tryz.prog 161 #[s.agg] W (tD B D0 W (λ w f=>iH w f x))):=λ W hb=>Ie (YK.out.keep (sm W hb)) (OKS.out.keep (sm W hb)) (Nat.le_trans hB hb.size)
   have LT:Hid (∀W,Below w.heap.size w W->Calls Tryz.prog 162 #[s.agg] W λ r w'=>r=.returned (.bool x.late)/\Below W.heap.size W w'):=λ W hb=>Rx (OKS.out W (sm W hb))
   have aaJ:Hid (∀k,D0 k->k<w.heap.size):=λ k hk=>YK.out.lt hk
   clear sm OKS YK
   have OT:=s.hm
   unfold SV.agg at TK LT
   generalize s.k=sk at *
   generalize s.nm=sn at *
   generalize s.fr=sf at *
   generalize s.to=st at *
   generalize s.met=sm at *
   obtain ⟨b0,k0,Kx⟩:=ah S.out.row.o
   rw [S.out.fl] at Kx
   subst Kx
   generalize hlb:(xs.take k).any b_.late=lb at *
   clear hlb
   rcases OT with rfl | ⟨f0,x0,y0,rfl⟩
   all_goals
    go_wp2_with fail
    refine (TK.out _ (S.out.alloc _).bl).mono ?_
    rintro r w1 ⟨⟨v1,D1,rfl,Pd,Wa,Ry⟩,xH⟩
    obtain ⟨N1,nW,rfl,_,_⟩:=Ry.self
    have S1:=aa ((S.out.alloc _).below xH)
    have B1:=aa ((ay.new wr _ 239).fr (Fr.aL (K:=λ_=>False) xH) id)
    have ahM:wr.heap.size<w1.heap.size:=B1.out.lt
    have kR:w.heap.size<wr.heap.size:=S.out.bk.lt
    have aaK:Hid ((.slice b0 k k0:Value).ownBlock≠some wr.heap.size):=λ e=>by have:=(S.out.row.o.lt _ e).2; omega
    have ND:Hid (∀q,D1 q->q≠w.heap.size/\(.slice b0 k k0:Value).ownBlock≠some q):=λ q hq=>by
     rcases Pd q hq with y | y
     ·have y1:=aaJ.out q y
      exact ⟨by omega,λ e=>by have:=S.out.nr q e; omega⟩
     simp at y
     exact ⟨by omega,λ e=>by have:=(S.out.row.o.lt _ e).2; omega⟩
    have Pe:=aa Wa
    have Wb:=aa Ry
    have Wc:w1.ownsRow B 242 1 (.slice b0 k k0) k fs:=S1.out.fl▸S1.out.row.o
    clear xH Qw Oh TM YJ kc4 Pd Wa Ry
    go_wp2_with (at_builtin; refine wpList_append_own_at _ rfl _ _ 241 rfl B 242 i0 .nilFunc 1 8 Tryz.underlying241 HI.out ia.out gO.out ic.out rfl (by decide) _ _ _ rfl (Wc.alloc _) ⟨w1.heap.size,0,none⟩ 1 1 [.func (.func N1) #[] nW] rfl rfl ?c1 ?c2 ?c3 ?c4 ?c5 ?_)
    case c1 =>
     intro j u hj
     match j,hj with
     | 0,hj=>simp at hj; subst hj; simp [Addr.add]
    case c2=>intro u hu; simp at hu; subst hu; rfl
    case c3=>unfold maxLen; omega
    case c4=>omega
    case c5=>simp; omega
    intro v' w5 cN hgrow _ kP
    have S5:=aa ((S1.out.alloc _).next xG.out (Pe.out.keep (Sm.alloc Pe.out _)) (Wb.out.keep (Sm.alloc Pe.out _)) ND.out hgrow cN (by simpa using kP))
    have B5:=aa ((hgrow.block _ (ay.alloc B1.out _).lt (λ e=>aaK.out e.symm)).trans (ay.alloc B1.out _))
    obtain ⟨b5,k5,rfl⟩:=ah cN
    clear cN hgrow S1 B1 Wc
    have z0:=ay.cell B5.out 0
    have z1:=ay.cell B5.out 1
    have z2:=ay.cell B5.out 2
    have z3:=ay.cell B5.out 3
    have z4:=ay.cell B5.out 4
    simp at z0 z1 z2 z3 z4
    cases lb
    ·go_wp2_with fail
     refine (LT.out _ S5.out.bl).mono ?_
     rintro r w6 ⟨rfl,Rz⟩
     have S6:=aa (S5.out.below Rz)
     clear Rz S5 B5 z0 z1 z2 z3 z4
     go_wp2
     go_roundw
     case rel=>exact ⟨k+1,_,_,by omega,by go_num,by rw [OC.out]; simp,S6.out⟩
     case measure=>simp [intOf]; omega
    go_wp2
    go_roundw
    case rel=>exact ⟨k+1,_,_,by omega,by go_num,by rw [OC.out]; simp,S5.out⟩
    case measure=>simp [intOf]; omega
  have hkj:k=j:=by omega
  subst hkj
  obtain ⟨b0,k0,Kx⟩:=ah S.out.row.o
  rw [S.out.fl] at Kx
  subst Kx
  have hge:w.heap.size<wr.heap.size:=S.out.bk.lt
  have hfl:fs.length=k:=S.out.fl
  have hall:(xs.take k).any b_.late=Sg.late ⟨th,xs⟩:=by rw [List.take_of_length_le (by have:=HX.out; omega)]; rfl
  rw [hall]
  have hD:Hid (∀q,D q\/(.slice b0 k k0:Value).ownBlock=some q->q≠w.heap.size):=λ q hq=>hq.elim (S.out.nd q) (λ e=>by have:=S.out.nr q e; omega)
  have FF:=aa hfl
  clear hall hfl
  generalize hlb:Sg.late ⟨th,xs⟩=lb at *
  have HLB:=aa hlb
  clear hlb
  cases th
  ·have eS:dr ⟨false,xs⟩=fC xs:=by funext v; simp [dr]
   have ES:=aa eS
   clear eS
   go_wp2_with fail
   refine (mN S.out.row (by have:=HX.out; have:=FF.out; omega) (by have:=FF.out; omega) (by omega)).mono ?_
   rintro r w1 ⟨⟨f1,D1,rfl,hd,hft,hok⟩,hb⟩
   obtain ⟨N1,nW,rfl,_,_⟩:=hok.self
   have ND1:Hid (∀q,D1 q->q≠w.heap.size):=λ q hq=>(hd q hq).elim (hD.out q) (λ e=>by omega)
   have Pe:=aa hft
   have Wb:=aa hok
   have ZO:=aa hb
   have S1:=aa (S.out.below hb)
   have uJ:w.heap.size<w1.heap.size:=S1.out.bk.lt
   clear hd hft hok hb
   go_wp2_with fail
   refine (r7 S1.out.row (by have:=HX.out; have:=FF.out; omega) (by have:=FF.out; omega) (by omega)).mono ?_
   rintro r w2 ⟨⟨f2,D2,rfl,hd,hft,hok⟩,hb⟩
   obtain ⟨N2,cap2,rfl,_,_⟩:=hok.self
   have ND2:Hid (∀q,D2 q->q≠w.heap.size):=λ q hq=>(hd q hq).elim (hD.out q) (λ e=>by omega)
   have qH:=aa hft
   have tf:=aa hok
   have BBc:=aa hb
   have S2:=aa (S1.out.below hb)
   have Wd:w.heap.size<w2.heap.size:=S2.out.bk.lt
   clear hd hft hok hb
   have z0:=S2.out.bk.cell 0
   have z1:=S2.out.bk.cell 1
   have z2:=S2.out.bk.cell 2
   have hfz:=S2.out.bk.fz
   simp at z0 z1 z2
   go_wp2
   refine Ii rfl rfl (((S2.out.bk.set 0 _).set 1 _).set 2 _) ?_
   have hr:∀{DD:Nat->Prop} (_:∀q,DD q->q≠w.heap.size) {W:World} (x:Sm DD w2 W) (i:Nat) (y:Value),Sm DD w2 (W.setCell ⟨w.heap.size,i,none⟩ y):=λ hn _ x i y k hk=>(Below.heap_setCell _ _ _ _ (by show k≠w.heap.size; exact hn k hk)).trans (x k hk)
   have s5:∀{DD:Nat->Prop} (_:∀q,DD q->q≠w.heap.size) (a b c:Value),Sm DD w2 (((w2.setCell ⟨w.heap.size,0,none⟩ a).setCell ⟨w.heap.size,1,none⟩ b).setCell ⟨w.heap.size,2,none⟩ c):=λ hn a b c=>hr hn (hr hn (hr hn (λ_ _=>rfl) 0 a) 1 b) 2 c
   have sA:=Sm.trans (Sm.fr (K:=λ_=>False) Pe.out (Fr.aL BBc.out) (λ_ _ y=>y)) (s5 ND1.out (.func (.func N1) #[] nW) (.func (.func N2) #[] cap2) (.bool lb))
   have sB:=s5 ND2.out (.func (.func N1) #[] nW) (.func (.func N2) #[] cap2) (.bool lb)
   refine ⟨⟨.func (.func N1) #[] nW,.func (.func N2) #[] cap2,λ k=>D1 k\/D2 k,by rw [HLB.out],(Pe.out.keep sA).or (qH.out.keep sB),λ w'' s=>⟨?_,?_⟩⟩,?_⟩
   ·have:=Wb.out w'' (sA.trans (s.less (λ_=>Or.inl)))
    rw [ES.out]; exact this
   ·exact tf.out w'' (sB.trans (s.less (λ_=>Or.inr)))
   exact ((((Fr.aL (K:=λ_=>False) S2.out.bl).setCell ⟨w.heap.size,0,none⟩ (Or.inr (Nat.le_refl _)) _).setCell ⟨w.heap.size,1,none⟩ (Or.inr (Nat.le_refl _)) _).setCell ⟨w.heap.size,2,none⟩ (Or.inr (Nat.le_refl _)) _).below
  have eS:dr ⟨true,xs⟩=λ t=>(au 10 t).flatMap (fC xs):=by funext v; simp [dr]
  have ES:=aa eS
  clear eS
  go_wp2_with fail
  refine (mN S.out.row (by have:=HX.out; have:=FF.out; omega) (by have:=FF.out; omega) (by omega)).mono ?_
  rintro r w1 ⟨⟨f1,D1,rfl,hd,hft,hok⟩,hb⟩
  obtain ⟨N1,nW,rfl,_,_⟩:=hok.self
  have ND1:Hid (∀q,D1 q->q≠w.heap.size):=λ q hq=>(hd q hq).elim (hD.out q) (λ e=>by omega)
  have Pe:=aa hft
  have Wb:=aa hok
  have ZO:=aa hb
  have S1:=aa (S.out.below hb)
  have uJ:w.heap.size<w1.heap.size:=S1.out.bk.lt
  clear hd hft hok hb
  go_wp2_with fail
  refine (oc Pe.out Wb.out (by omega)).mono ?_
  rintro r w3 ⟨⟨f3,D3,rfl,hd,hft,hok⟩,hb⟩
  obtain ⟨N3,jJ,rfl,_,_⟩:=hok.self
  have ND3:Hid (∀q,D3 q->q≠w.heap.size):=λ q hq=>(hd q hq).elim (ND1.out q) (λ e=>by omega)
  have lP:=aa hft
  have rZ:=aa hok
  have BB3:=aa hb
  have S3:=aa (S1.out.below hb)
  have We:w.heap.size<w3.heap.size:=S3.out.bk.lt
  clear hd hft hok hb
  go_wp2_with fail
  refine (mO S3.out.row (by have:=HX.out; have:=FF.out; omega) (by have:=FF.out; omega) (by omega)).mono ?_
  rintro r w2 ⟨⟨f2,D2,rfl,hd,hft,hok⟩,hb⟩
  obtain ⟨N2,cap2,rfl,_,_⟩:=hok.self
  have ND2:Hid (∀q,D2 q->q≠w.heap.size):=λ q hq=>(hd q hq).elim (hD.out q) (λ e=>by omega)
  have qH:=aa hft
  have tf:=aa hok
  have BBc:=aa hb
  have S2:=aa (S3.out.below hb)
  have Wd:w.heap.size<w2.heap.size:=S2.out.bk.lt
  clear hd hft hok hb
  have z0:=S2.out.bk.cell 0
  have z1:=S2.out.bk.cell 1
  have z2:=S2.out.bk.cell 2
  have hfz:=S2.out.bk.fz
  simp at z0 z1 z2
  go_wp2
  refine Ii rfl rfl (((S2.out.bk.set 0 _).set 1 _).set 2 _) ?_
  have hr:∀{DD:Nat->Prop} (_:∀q,DD q->q≠w.heap.size) {W:World} (x:Sm DD w2 W) (i:Nat) (y:Value),Sm DD w2 (W.setCell ⟨w.heap.size,i,none⟩ y):=λ hn _ x i y k hk=>(Below.heap_setCell _ _ _ _ (by show k≠w.heap.size; exact hn k hk)).trans (x k hk)
  have s5:∀{DD:Nat->Prop} (_:∀q,DD q->q≠w.heap.size) (a b c:Value),Sm DD w2 (((w2.setCell ⟨w.heap.size,0,none⟩ a).setCell ⟨w.heap.size,1,none⟩ b).setCell ⟨w.heap.size,2,none⟩ c):=λ hn a b c=>hr hn (hr hn (hr hn (λ_ _=>rfl) 0 a) 1 b) 2 c
  have sA:=Sm.trans (Sm.fr (K:=λ_=>False) lP.out (Fr.aL BBc.out) (λ_ _ y=>y)) (s5 ND3.out (.func (.func N3) #[] jJ) (.func (.func N2) #[] cap2) (.bool lb))
  have sB:=s5 ND2.out (.func (.func N3) #[] jJ) (.func (.func N2) #[] cap2) (.bool lb)
  refine ⟨⟨.func (.func N3) #[] jJ,.func (.func N2) #[] cap2,λ k=>D3 k\/D2 k,by rw [HLB.out],(lP.out.keep sA).or (qH.out.keep sB),λ w'' s=>⟨?_,?_⟩⟩,?_⟩
  ·have:=rZ.out w'' (sA.trans (s.less (λ_=>Or.inl)))
   rw [ES.out]; exact this
  ·exact tf.out w'' (sB.trans (s.less (λ_=>Or.inr)))
  exact ((((Fr.aL (K:=λ_=>False) S2.out.bl).setCell ⟨w.heap.size,0,none⟩ (Or.inr (Nat.le_refl _)) _).setCell ⟨w.heap.size,1,none⟩ (Or.inr (Nat.le_refl _)) _).setCell ⟨w.heap.size,2,none⟩ (Or.inr (Nat.le_refl _)) _).below
theorem Mk.below {g:Nat} {q:ByteArray} {a:Nat} {t:List UInt8} {n:Nat} {p v:Value} {w w':World} (h:Mk g q a t n p v w) (f:Below w.heap.size w w'):Mk g q a t n p v w' :=
 ⟨h.b.fr (Fr.aL (K:=λ_=>False) f) id,h.o,Dn h.row f,h.le⟩
theorem Mk.lZ {g:Nat} {q:ByteArray} {a:Nat} {t:List UInt8} {n:Nat} {p v:Value} {w:World} (h:Mk g q a t n p v w) (n':Nat):Mk g q a t n' p v (w.setCell ⟨g,4,none⟩ (.int .i64 (n':Nat))) :=
 ⟨h.b.set 4 _,h.o,aW h.row ((Fr.refl (λ k=>k=g) w).setCell ⟨g,4,none⟩ (Or.inl rfl) _) (λ k hk e=>by omega),h.le⟩
end Go.Proofs.YtcbadebjpogmlaaGreatDoor
