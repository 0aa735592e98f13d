import Derived.Test.YtcbadebjpogmlaaGreatDoorVsLwA
import Derived.Deep.RegionHeldLaw
import Derived.Test.YtcbadebjpogmlaaGreatDoorVsQc
set_option maxHeartbeats 4000000
set_option maxRecDepth 100000
namespace Go.Proofs.YtcbadebjpogmlaaGreatDoor
open Go.RowKit Tr
def GG (T:TypeId) (sz:Nat) (mk:Int->List Value) (w:World) (col:Nat->Nat) (e:Value×Int):Prop:=∃n,n<=3000000000000/\w.ownsRow 0 T sz e.1 n (dG (mk e.2) n)/\∀k,e.1.ownBlock=some k->col k=1
theorem GG.keep {T:TypeId} {sz:Nat} {mk:Int->List Value} {w w':World} {col bu:Nat->Nat} {e:Value×Int} (h:GG T sz mk w col e) (hc:∀k,k<w.heap.size->bu k=col k) (hb:∀k,k<w.heap.size->col k=1->w'.heap[k]?=w.heap[k]?):GG T sz mk w' bu e:=by
 obtain ⟨n,h1,h2,h3⟩:=h
 refine ⟨n,h1,bO h2 (λ k hk=>hb k (h2.lt k hk).2 (h3 k hk)),λ k hk=>?_⟩
 rw [hc k (h2.lt k hk).2]
 exact h3 k hk
theorem l6 {w:World} {B g k n cap i j sz:Nat} {e:TypeId} {ms:List Value} (OI:ms.length=sz) (h:w.ownsRow B e sz (.slice (some ⟨g,0,none⟩) n cap) k (dG ms n)) (hk:k=n) (hi:i<n) (hj:j<sz):w.cell? ⟨g,i * sz+j,none⟩=ms[j]?:=by
 subst hk
 have h1:i * sz+j<k * sz:=by
  have:(i+1) * sz<=k * sz:=Nat.mul_le_mul_right _ hi
  rw [Nat.succ_mul] at this
  omega
 rw [h.cellAt (i * sz+j) h1,<-OI,Gy ms hi (by omega)]
theorem GH {w:World} {gw:Nat} {col:Nat->Nat} {c0 c1 c2 c3 c4 c5 c6:Value} {ns ms:List (Value×Int)} (hb:ay w gw #[c0,c1,c2,c3,c4,c5,c6] 61)
 (h2:w.ownsRow (gw+1) 29 1 c2 ns.length (ns.map (·.1))) (h3:w.ownsRow (gw+1) 3 1 c3 ns.length (ns.map (λ e=>.int .i64 e.2))) (h4:w.ownsRow (gw+1) 33 1 c4 ms.length (ms.map (·.1))) (h5:w.ownsRow (gw+1) 3 1 c5 ms.length (ms.map (λ e=>.int .i64 e.2)))
 (hn:∀e ∈ ns,GG 42 3 C6 w col e) (hm:∀e ∈ ms,GG 44 4 QI w col e) (LI:ns.length<=3000000000000) (hlm:ms.length<=3000000000000) :
 Calls Tryz.prog 31 #[.pointer (some ⟨gw,0,none⟩)] w λ r w'=>r=.returned (.bool true)/\ak w w':=by
 have b2:w.cell? ⟨gw,2,none⟩=some c2:=hb.cell 2
 have b3:w.cell? ⟨gw,3,none⟩=some c3:=hb.cell 3
 have b4:w.cell? ⟨gw,4,none⟩=some c4:=hb.cell 4
 have b5:w.cell? ⟨gw,5,none⟩=some c5:=hb.cell 5
 obtain ⟨a2,k2,rfl⟩:=ah h2
 obtain ⟨a3,k3,rfl⟩:=ah h3
 obtain ⟨a4,k4,rfl⟩:=ah h4
 obtain ⟨a5,k5,rfl⟩:=ah h5
 have H2:=aa h2
 have H3:=aa h3
 have H4:=aa h4
 have H5:=aa h5
 have HN:=aa hn
 have HM:=aa hm
 obtain ⟨nl,Vs⟩:∃nl,nl=ns.length:=⟨_,rfl⟩
 obtain ⟨ml,hml⟩:∃ml,ml=ms.length:=⟨_,rfl⟩
 rw [<-Vs] at b2 b3 LI
 rw [<-hml] at b4 b5 hlm
 have HNL:=aa Vs
 have HML:=aa hml
 clear hb h2 h3 h4 h5 hn hm Vs hml
 go_enter Tryz.func31,Tryz.ntmps31
 go_wp2
 go_loopw [3] (λ i wr=>∃j q:Nat,j<=nl/\i=.int .i64 j/\wr=w.drewN q) (λ i _=>nl - (intOf i).toNat)
 case atStart=>exact ⟨0,0,Nat.zero_le _,rfl,rfl⟩
 case round =>
  obtain ⟨j,q,hj,rfl,rfl⟩:=hrel
  by_cases hjn:j<nl
  ·have hji:(j:Int)<(nl:Int):=by omega
   have hjl:j<ns.length:=by rw [<-HNL.out]; exact hjn
   obtain ⟨gA,cA,Vt,_,_⟩:=H2.out.form (by omega)
   simp only [Value.slice.injEq,true_and] at Vt
   obtain ⟨rfl,rfl⟩:=Vt
   obtain ⟨gB,cB,Vu,_,_⟩:=H3.out.form (by omega)
   simp only [Value.slice.injEq,true_and] at Vu
   obtain ⟨rfl,rfl⟩:=Vu
   have kA:w.cell? ⟨gA,j,none⟩=some (ns[j]).1:=by rw [H2.out.cellAt j (by omega)]; simp [hjl]
   have kB:w.cell? ⟨gB,j,none⟩=some (.int .i64 (ns[j]).2):=by rw [H3.out.cellAt j (by omega)]; simp [hjl]
   obtain ⟨en,hen,hrow,_⟩:=HN.out _ (List.getElem_mem hjl)
   generalize ns[j]=e at *
   obtain ⟨ev,em⟩:=e
   simp only at kA kB hrow
   obtain ⟨ea,ec,rfl⟩:=ah hrow
   have HR:=aa hrow
   clear hrow
   go_wp2
   go_loopw [4] (λ i wr=>∃t q:Nat,t<=en/\i=.int .i64 t/\wr=w.drewN q) (λ i _=>en - (intOf i).toNat)
   case atStart=>exact ⟨0,q,Nat.zero_le _,rfl,rfl⟩
   case round =>
    obtain ⟨t,q3,ht,rfl,rfl⟩:=hrel
    by_cases ON:t<en
    ·have Vv:(t:Int)<(en:Int):=by omega
     obtain ⟨g,cg,Vw,_,_⟩:=HR.out.form (by omega)
     simp only [Value.slice.injEq,true_and] at Vw
     obtain ⟨rfl,rfl⟩:=Vw
     have x0:w.cell? ⟨g,t * 3,none⟩=some (.string ⟨#[]⟩):=l6 (sz:=3) (j:=0) (ms:=C6 em) rfl HR.out rfl ON (by omega)
     have x1:w.cell? ⟨g,t * 3+1,none⟩=some (.int .i64 em):=l6 (sz:=3) (j:=1) (ms:=C6 em) rfl HR.out rfl ON (by omega)
     have x2:w.cell? ⟨g,t * 3+2,none⟩=some (.int .i64 0):=l6 (sz:=3) (j:=2) (ms:=C6 em) rfl HR.out rfl ON (by omega)
     go_wp2
     go_quiet (fail)
     go_wp2
     go_roundw
     case rel=>exact ⟨t+1,_,by omega,by go_num,by first | rfl | exact aJ _ _ _⟩
     case measure=>simp [intOf]; omega
    have Vv:¬(t:Int)<(en:Int):=by omega
    go_wp2
    go_roundw
    case rel=>exact ⟨j+1,q3,by omega,by go_num,rfl⟩
    case measure=>simp [intOf]; omega
  have hji:¬(j:Int)<(nl:Int):=by omega
  go_wp2
  go_loopw [5] (λ i wr=>∃j q:Nat,j<=ml/\i=.int .i64 j/\wr=w.drewN q) (λ i _=>ml - (intOf i).toNat)
  case atStart=>exact ⟨0,q,Nat.zero_le _,rfl,rfl⟩
  case round =>
   obtain ⟨j2,q2,hj2,rfl,rfl⟩:=hrel
   by_cases hjm:j2<ml
   ·have aah:(j2:Int)<(ml:Int):=by omega
    have QW:j2<ms.length:=by rw [<-HML.out]; exact hjm
    obtain ⟨gA,cA,Vt,_,_⟩:=H4.out.form (by omega)
    simp only [Value.slice.injEq,true_and] at Vt
    obtain ⟨rfl,rfl⟩:=Vt
    obtain ⟨gB,cB,Vu,_,_⟩:=H5.out.form (by omega)
    simp only [Value.slice.injEq,true_and] at Vu
    obtain ⟨rfl,rfl⟩:=Vu
    have kA:w.cell? ⟨gA,j2,none⟩=some (ms[j2]).1:=by rw [H4.out.cellAt j2 (by omega)]; simp [QW]
    have kB:w.cell? ⟨gB,j2,none⟩=some (.int .i64 (ms[j2]).2):=by rw [H5.out.cellAt j2 (by omega)]; simp [QW]
    obtain ⟨en,hen,hrow,_⟩:=HM.out _ (List.getElem_mem QW)
    generalize ms[j2]=e at *
    obtain ⟨ev,em⟩:=e
    simp only at kA kB hrow
    obtain ⟨ea,ec,rfl⟩:=ah hrow
    have HR:=aa hrow
    clear hrow
    go_wp2
    go_loopw [6] (λ i wr=>∃t q:Nat,t<=en/\i=.int .i64 t/\wr=w.drewN q) (λ i _=>en - (intOf i).toNat)
    case atStart=>exact ⟨0,q2,Nat.zero_le _,rfl,rfl⟩
    case round =>
     obtain ⟨t,q3,ht,rfl,rfl⟩:=hrel
     by_cases ON:t<en
     ·have Vv:(t:Int)<(en:Int):=by omega
      obtain ⟨g,cg,Vw,_,_⟩:=HR.out.form (by omega)
      simp only [Value.slice.injEq,true_and] at Vw
      obtain ⟨rfl,rfl⟩:=Vw
      have x0:w.cell? ⟨g,t * 4,none⟩=some (.string ⟨#[]⟩):=l6 (sz:=4) (j:=0) (ms:=QI em) rfl HR.out rfl ON (by omega)
      have x1:w.cell? ⟨g,t * 4+1,none⟩=some (.int .i64 0):=l6 (sz:=4) (j:=1) (ms:=QI em) rfl HR.out rfl ON (by omega)
      have x2:w.cell? ⟨g,t * 4+2,none⟩=some (.int .i64 0):=l6 (sz:=4) (j:=2) (ms:=QI em) rfl HR.out rfl ON (by omega)
      have x3:w.cell? ⟨g,t * 4+3,none⟩=some (.int .i64 em):=l6 (sz:=4) (j:=3) (ms:=QI em) rfl HR.out rfl ON (by omega)
      go_wp2
      go_quiet (fail)
      go_wp2
      go_roundw
      case rel=>exact ⟨t+1,_,by omega,by go_num,by first | rfl | exact aJ _ _ _⟩
      case measure=>simp [intOf]; omega
     have Vv:¬(t:Int)<(en:Int):=by omega
     go_wp2
     go_roundw
     case rel=>exact ⟨j2+1,q3,by omega,by go_num,rfl⟩
     case measure=>simp [intOf]; omega
   have aah:¬(j2:Int)<(ml:Int):=by omega
   go_wp2
   go_ret
   exact ⟨rfl,(Fr.refl _ w).drewN _⟩
structure PX where
 gp:Nat
 gx:Nat
 b:Nat
 gq:Nat
 q:ByteArray
 tt:ByteArray
 v:Value
 l:List gW
def PX.xs (p:PX):List Sg:=cK (bs p.q)
def PX.ptr (p:PX):Value:=.pointer (some ⟨p.gp,0,none⟩)
def QP (w:World) (p:PX):Prop:=ay w p.gp #[.pointer (some ⟨p.gx,0,none⟩),.pointer (some ⟨p.gq,0,none⟩)] 95/\(ay w p.gx #[.pointer (some ⟨p.b,0,none⟩)] 77/\oD w p.b p.tt p.xs)/\Yx w p.gq p.v p.l p.xs
structure TW (w:World) (col:Nat->Nat) (p:PX):Prop where
 sel:fJ p.xs<=10
 tt:bs p.tt=T (bs p.q) (p.q.size+1)
 tl:T (bs p.q) (p.q.size+1)=[36]++iF p.l
 ok:∃D,Ft D 0 w/\(∀k,D k->col k=1)/\fR D w (λ w=>QP w p)
theorem TW.keep {w w':World} {col bu:Nat->Nat} {p:PX} (h:TW w col p) (hc:∀k,k<w.heap.size->bu k=col k) (hb:∀k,k<w.heap.size->col k=1->w'.heap[k]?=w.heap[k]?):TW w' bu p:=by
 obtain ⟨D,h1,h2,h3⟩:=h.ok
 have s:Sm D w w':=λ k hk=>hb k (h1.lt hk) (h2 k hk)
 exact ⟨h.sel,h.tt,h.tl,D,h1.keep s,λ k hk=>by rw [hc k (h1.lt hk)]; exact h2 k hk,h3.keep s⟩
structure FX where
 gp:Nat
 gx:Nat
 gy:Nat
 id:Nat
 q:ByteArray
 p:ByteArray
 cl:Bool
def FX.ptr (f:FX):Value:=.pointer (some ⟨f.gp,0,none⟩)
structure Rv where
 l:Value
 f:Value
 ns:Value
 nm:Value
 ms:Value
 mm:Value
def RB (r:Rv) (k:Nat):Prop:=r.l.ownBlock=some k\/r.f.ownBlock=some k\/r.ns.ownBlock=some k\/r.nm.ownBlock=some k\/r.ms.ownBlock=some k\/r.mm.ownBlock=some k
structure LA (Φ:World->(Nat->Nat)->FX->Prop) (w:World) (gw:Nat) (col:Nat->Nat) (r:Rv) (nx:Nat) (ps:List PX) (fs:List FX) (ns ms:List (Value×Int)):Prop where
 blk:ay w gw #[r.l,r.f,r.ns,r.nm,r.ms,r.mm,.int .i64 (nx:Nat)] 61
 cg:col gw=2
 ol:w.ownsRow (gw+1) 93 1 r.l ps.length (ps.map PX.ptr)
 of:w.ownsRow (gw+1) 97 1 r.f fs.length (fs.map FX.ptr)
 GJ:w.ownsRow (gw+1) 29 1 r.ns ns.length (ns.map (·.1))
 Kq:w.ownsRow (gw+1) 3 1 r.nm ns.length (ns.map (λ e=>.int .i64 e.2))
 OP:w.ownsRow (gw+1) 33 1 r.ms ms.length (ms.map (·.1))
 GK:w.ownsRow (gw+1) 3 1 r.mm ms.length (ms.map (λ e=>.int .i64 e.2))
 cr:∀k,RB r k->col k=2
 Vx:∀k,r.nm.ownBlock=some k->r.mm.ownBlock≠some k
 pk:∀p ∈ ps,TW w col p
 fk:∀f ∈ fs,Φ w col f
 nk:∀e ∈ ns,GG 42 3 C6 w col e
 km:∀e ∈ ms,GG 44 4 QI w col e
def lO (Φ:World->(Nat->Nat)->FX->Prop):Prop:=∀(w w':World) (col bu:Nat->Nat) (f:FX),Φ w col f->w.heap.size<=w'.heap.size->(∀k,k<w.heap.size->bu k=col k)->(∀k,k<w.heap.size->col k≠2->w'.heap[k]?=w.heap[k]?)->Φ w' bu f
structure Nxt (w:World) (col:Nat->Nat) (w':World) (bu:Nat->Nat):Prop where
 f:Fr (λ k=>col k=2) w w'
 c:∀k,k<w.heap.size->bu k=col k
theorem LA.LJ {Φ:World->(Nat->Nat)->FX->Prop} (HΦ:lO Φ) {w:World} {gw:Nat} {col:Nat->Nat} {r:Rv} {nx:Nat} {ps:List PX} {fs:List FX} {ns ms:List (Value×Int)} (h:LA Φ w gw col r nx ps fs ns ms) {w':World} {bu:Nat->Nat} (n:Nxt w col w' bu) :
 (∀p ∈ ps,TW w' bu p)/\(∀f ∈ fs,Φ w' bu f)/\(∀e ∈ ns,GG 42 3 C6 w' bu e)/\∀e ∈ ms,GG 44 4 QI w' bu e :=
 ⟨λ p hp=>(h.pk p hp).keep n.c (λ k hk e=>n.f.block k hk (by omega)),λ f hf=>HΦ w w' col bu f (h.fk f hf) n.f.size n.c (λ k hk e=>n.f.block k hk e),λ e he=>(h.nk e he).keep n.c (λ k hk e=>n.f.block k hk (by omega)),λ e he=>(h.km e he).keep n.c (λ k hk e=>n.f.block k hk (by omega))⟩
theorem gj {w w':World} {K:Nat->Prop} {B:Nat} {e:TypeId} {sz:Nat} {v:Value} {n:Nat} {xs:List Value} (h:w.ownsRow B e sz v n xs) (f:Fr K w w') (hv:∀k,v.ownBlock=some k->¬K k):w'.ownsRow B e sz v n xs:=bO h (λ k hk=>f.block k (h.lt k hk).2 (hv k hk))
theorem LA.keep {Φ:World->(Nat->Nat)->FX->Prop} (HΦ:lO Φ) {w:World} {gw:Nat} {col:Nat->Nat} {r:Rv} {nx:Nat} {ps:List PX} {fs:List FX} {ns ms:List (Value×Int)} (h:LA Φ w gw col r nx ps fs ns ms) {w':World} (k:ak w w'):LA Φ w' gw col r nx ps fs ns ms:=by
 obtain ⟨a,b,c,d⟩:=h.LJ HΦ (w':=w') (bu:=col) ⟨k.mono (λ_ _ x=>x.elim),λ_ _=>rfl⟩
 exact ⟨h.blk.fr k id,h.cg,aW h.ol k (λ_ _=>id),aW h.of k (λ_ _=>id),aW h.GJ k (λ_ _=>id),aW h.Kq k (λ_ _=>id),aW h.OP k (λ_ _=>id),aW h.GK k (λ_ _=>id),h.cr,h.Vx,a,b,c,d⟩
theorem LA.rl {Φ:World->(Nat->Nat)->FX->Prop} {w:World} {gw:Nat} {col:Nat->Nat} {r:Rv} {nx:Nat} {ps:List PX} {fs:List FX} {ns ms:List (Value×Int)} (h:LA Φ w gw col r nx ps fs ns ms) (k:Nat) (hk:RB r k):gw<k/\k<w.heap.size:=by
 rcases hk with e | e | e | e | e | e
 ·have:=h.ol.lt k e; omega
 ·have:=h.of.lt k e; omega
 ·have:=h.GJ.lt k e; omega
 ·have:=h.Kq.lt k e; omega
 ·have:=h.OP.lt k e; omega
 have:=h.GK.lt k e; omega
def wL (w:World) (col:Nat->Nat) (X:Nat->Prop) [DecidablePred X] (k:Nat):Nat:=if k<w.heap.size then col k else if X k then 2 else 1
theorem wM {w:World} {col:Nat->Nat} {X:Nat->Prop} [DecidablePred X] {k:Nat} (h:k<w.heap.size):wL w col X k=col k:=by unfold wL; rw [if_pos h]
theorem wN {w:World} {col:Nat->Nat} {X:Nat->Prop} [DecidablePred X] {k:Nat} (h:w.heap.size<=k) (hx:¬X k):wL w col X k=1:=by unfold wL; rw [if_neg (by omega),if_neg hx]
theorem qv {w:World} {col:Nat->Nat} {X:Nat->Prop} [DecidablePred X] {k:Nat} (h:w.heap.size<=k) (hx:X k):wL w col X k=2:=by unfold wL; rw [if_neg (by omega),if_pos hx]
def CmX (s:ByteArray) (w:World) (r:Ending) (w':World):Prop :=
 ak w w'/\((∃e p:Nat,qi s e p/\r=.returned (.tuple #[.pointer none,.int .i64 e,.int .i64 p])) \/
  (Good s/\∃gx b tt D,r=.returned (.tuple #[.pointer (some ⟨gx,0,none⟩),.int .i64 0,.int .i64 0])/\Ft D w.heap.size w'/\fR D w' (λ w=>ay w gx #[.pointer (some ⟨b,0,none⟩)] 77/\oD w b tt (cK (bs s)))/\bs tt=T (bs s) (s.size+1)/\fJ (cK (bs s))<=10))
theorem QX {w:World} {s:ByteArray} (hs:s.size<=maxLen) (he:EV w):Calls Tryz.prog 26 #[.string s] w (CmX s w):=by
 have HE:=aa he
 clear he
 by_cases h:s.size<=120
 ·go_enter Tryz.func26,Tryz.ntmps26
  go_wp2_with fail
  refine (Qh h HE.out).mono ?_
  rintro r w1 ⟨hk,hr⟩
  have K1:=aa hk
  clear hk
  rcases hr with ⟨e,p,hee,rfl⟩ | ⟨hf,hc,rfl⟩ | ⟨hf,hc,b,tt,D,rfl,⟨hft,hok⟩,UG,Kr⟩
  ·have hne:e≠0:=by have:=hee.st; omega
   have Lc:((e:Int) != 0)=true:=by rw [bne_iff_ne]; omega
   have HX:=aa hee
   clear hee
   go_wp2
   go_ret3
   exact ⟨K1.out,Or.inl ⟨e,p,Or.inr (Or.inl ⟨h,HX.out⟩),rfl⟩⟩
  ·have HF:=aa hf
   have HC:=aa hc
   clear hf hc
   go_wp2
   go_ret3
   exact ⟨K1.out,Or.inl ⟨1,0,Or.inr (Or.inr ⟨h,HF.out,HC.out,rfl,rfl⟩),rfl⟩⟩
  have jS:Hid (CmX s w (.returned (.tuple #[.pointer (some ⟨w1.heap.size,0,none⟩),.int .i64 0,.int .i64 0])) (w1.alloc (.cells #[.pointer (some ⟨b,0,none⟩)] 77))):=by
   refine ⟨K1.out.alloc _,Or.inr ⟨⟨h,hf,hc⟩,w1.heap.size,b,tt,λ k=>D k\/k=w1.heap.size,rfl,?_,λ w'' sm=>⟨?_,?_⟩,UG,Kr⟩⟩
   ·have sa:=Sm.alloc hft (.cells #[.pointer (some ⟨b,0,none⟩)] 77)
    exact (hft.keep sa).or (Ft.one (ay.new w1 _ _) (by decide) K1.out.size)
   ·exact (ay.new w1 #[.pointer (some ⟨b,0,none⟩)] 77).sm sm (Or.inr rfl)
   exact hok w'' (λ k hk=>(sm k (Or.inl hk)).trans (Sm.alloc hft _ k hk))
  clear hf hc hft hok UG Kr
  go_wp2
  go_ret3
  exact jS.out
 go_enter Tryz.func26,Tryz.ntmps26
 go_wp2_with fail
 refine (wu (by omega) hs).mono ?_
 rintro r w1 ⟨rfl,rfl⟩
 go_wp2
 go_ret3
 exact ⟨Fr.refl _ _,Or.inl ⟨1,0,Or.inl ⟨by omega,rfl,rfl⟩,rfl⟩⟩
def CmY (s:ByteArray) (w:World) (r:Ending) (w':World):Prop :=
 ak w w'/\((∃e p:Nat,qi s e p/\r=.returned (.tuple #[.pointer none,.int .i64 e,.int .i64 p])) \/
  (Good s/\∃gq v l D,r=.returned (.tuple #[.pointer (some ⟨gq,0,none⟩),.int .i64 0,.int .i64 0])/\T (bs s) (s.size+1)=[36]++iF l/\Ft D w.heap.size w'/\fR D w' (λ w=>Yx w gq v l (cK (bs s)))))
theorem GL {w:World} {s:ByteArray} (hs:s.size<=maxLen):Calls Tryz.prog 41 #[.string s] w (CmY s w):=by
 by_cases h:s.size<=120
 ·refine (uE h).mono ?_
  rintro r w' ⟨hk,⟨e,p,he,hr⟩ | ⟨hf,hc,hr⟩ | ⟨hf,hc,hr⟩⟩
  ·exact ⟨hk,Or.inl ⟨e,p,Or.inr (Or.inl ⟨h,he⟩),hr⟩⟩
  ·exact ⟨hk,Or.inl ⟨1,0,Or.inr (Or.inr ⟨h,hf,hc,rfl,rfl⟩),hr⟩⟩
  exact ⟨hk,Or.inr ⟨⟨h,hf,hc⟩,hr⟩⟩
 refine (mJ (by omega) hs).mono ?_
 rintro r w' ⟨hr,rfl⟩
 exact ⟨Fr.refl _ _,Or.inl ⟨1,0,Or.inl ⟨by omega,rfl,rfl⟩,hr⟩⟩
structure Cn where
 p:Nat
 f:Nat
 n:Nat
 m:Nat
 x:Nat
 b:Nat
def eO (Φ:World->(Nat->Nat)->FX->Prop) (gw:Nat) (col:Nat->Nat) (c:Cn) (w:World) (w':World):Prop :=
 ∃bu r' sX ps' fs' ns' ms',LA Φ w' gw bu r' sX ps' fs' ns' ms'/\Fr (λ k=>2<=col k) w w'/\(∀k,k<w.heap.size->bu k=col k)/\(c.p<=ps'.length/\ps'.length<=c.p+1)/\(c.f<=fs'.length/\fs'.length<=c.f+1)/\ns'.length<=c.n+4/\ms'.length<=c.m+4/\sX<=c.x+1/\∀f ∈ fs',f.p.size<=c.b
theorem LM {Φ:World->(Nat->Nat)->FX->Prop} (HΦ:lO Φ) {w w1 w3 w4:World} {gw gx b gq:Nat} {s tt:ByteArray} {v:Value} {sl:List gW} {col:Nat->Nat} {r:Rv} {nx:Nat} {ps:List PX} {fs:List FX} {ns ms:List (Value×Int)} {v':Value} (h:LA Φ w gw col r nx ps fs ns ms) (k1:ak w w1) (k2:ak w1 w3)
 {D1 D2:Nat->Prop} (f1:Ft D1 w.heap.size w1) (o1:fR D1 w1 (λ w=>ay w gx #[.pointer (some ⟨b,0,none⟩)] 77/\oD w b tt (cK (bs s)))) (ht:bs tt=T (bs s) (s.size+1)) (hsel:fJ (cK (bs s))<=10)
 (f2:Ft D2 w1.heap.size w3) (o2:fR D2 w3 (λ w=>Yx w gq v sl (cK (bs s)))) (htl:T (bs s) (s.size+1)=[36]++iF sl)
 (hown:w4.ownsRow (gw+1) 93 1 v' (ps.length+1) (ps.map PX.ptr++[.pointer (some ⟨w3.heap.size,0,none⟩)]))
 (hg:((w3.alloc (.cells #[.pointer (some ⟨gx,0,none⟩),.pointer (some ⟨gq,0,none⟩)] 95)).alloc (.cells #[.pointer (some ⟨w3.heap.size,0,none⟩)] 93)).grownBy w4 r.l.ownBlock)
 (bN:v'.ownBlock=r.l.ownBlock\/v'.ownBlock=some (w3.heap.size+1+1)) :
 ay w4 gw #[r.l,r.f,r.ns,r.nm,r.ms,r.mm,.int .i64 (nx:Nat)] 61 /\
 ∃bu p,LA Φ (w4.setCell ⟨gw,0,none⟩ v') gw bu { r with l:=v' } nx (ps++[p]) fs ns ms/\Fr (λ k=>col k=2) w (w4.setCell ⟨gw,0,none⟩ v')/\(∀k,k<w.heap.size->bu k=col k):=by
 classical
 have l5:gw<w.heap.size:=h.blk.lt
 have s1:=k1.size
 have s2:=k2.size
 have Ko:=k1.trans k2
 have hsz:w3.heap.size+2<=w4.heap.size:=by have:=hg.size; simp at this; omega
 have hrow:∀k,r.l.ownBlock=some k->gw<k/\k<w.heap.size:=λ k hk=>h.rl k (Or.inl hk)
 have hB:ay w4 gw #[r.l,r.f,r.ns,r.nm,r.ms,r.mm,.int .i64 (nx:Nat)] 61 :=
  (((h.blk.fr Ko id).alloc _).alloc _).grown hg (λ k hk=>by have:=(hrow k hk).1; omega)
 refine ⟨hB,?_⟩
 have F:Fr (λ k=>k=gw\/r.l.ownBlock=some k) w (w4.setCell ⟨gw,0,none⟩ v'):=by
  have f1:Fr (λ k=>k=gw\/r.l.ownBlock=some k) w w3:=Ko.mono (λ_ _ x=>x.elim)
  exact (((f1.alloc _).alloc _).grown hg (λ k hk=>Or.inr (Or.inr hk))).setCell ⟨gw,0,none⟩ (Or.inl (Or.inl rfl)) v'
 have far:∀k,k<w3.heap.size->k≠gw->r.l.ownBlock≠some k->(w4.setCell ⟨gw,0,none⟩ v').heap[k]?=w3.heap[k]?:=λ k hk h1 h2=>by
  rw [Below.heap_setCell _ _ _ _ h1,hg.block k (by simp; omega) (λ e=>h2 e.symm),Below.heap_alloc _ _ _ (by simp; omega),Below.heap_alloc _ _ _ hk]
 have vb:∀k,v'.ownBlock=some k->r.l.ownBlock=some k\/k=w3.heap.size+2:=λ k hk=>by
  rcases bN with e | e
  ·exact Or.inl (e▸hk)
  have:w3.heap.size+1+1=k:=Option.some.inj (e.symm.trans hk)
  exact Or.inr (by omega)
 obtain ⟨bu,wO⟩:∃bu,bu=wL w col (λ k=>v'.ownBlock=some k):=⟨_,rfl⟩
 have hc:∀k,k<w.heap.size->bu k=col k:=λ k hk=>by rw [wO]; exact wM hk
 have F2:Fr (λ k=>col k=2) w (w4.setCell ⟨gw,0,none⟩ v'):=F.mono (λ k _ e=>by
  rcases e with e | e
  ·rw [e]; exact h.cg
  exact h.cr k (Or.inl e))
 obtain ⟨a1,a2,a3,a4⟩:=h.LJ HΦ ⟨F2,hc⟩
 have hnew:ay (w4.setCell ⟨gw,0,none⟩ v') w3.heap.size #[.pointer (some ⟨gx,0,none⟩),.pointer (some ⟨gq,0,none⟩)] 95:=by
  have b1:=(ay.new w3 #[.pointer (some ⟨gx,0,none⟩),.pointer (some ⟨gq,0,none⟩)] 95).alloc (.cells #[.pointer (some ⟨w3.heap.size,0,none⟩)] 93)
  have b2:w4.heap[w3.heap.size]?=_:=hg.block w3.heap.size (by simp; omega) (λ e=>by have:=(hrow _ e.symm).2; omega)
  exact ay.other (b2.trans b1) (by omega) 0 v'
 have nl:∀k,w.heap.size<=k->k<w3.heap.size->(w4.setCell ⟨gw,0,none⟩ v').heap[k]?=w3.heap[k]?:=λ k h1 h2=>far k h2 (by omega) (λ e=>by have:=(hrow k e).2; omega)
 have S1:Sm D1 w1 (w4.setCell ⟨gw,0,none⟩ v'):=λ k hk=>by
  have h1:=f1.ge k hk
  have h2:=f1.lt hk
  rw [nl k h1 (by omega)]
  exact k2.block k h2 id
 have S2:Sm D2 w3 (w4.setCell ⟨gw,0,none⟩ v'):=λ k hk=>by
  have h1:=f2.ge k hk
  have h2:=f2.lt hk
  exact nl k (by omega) h2
 have aai:TW (w4.setCell ⟨gw,0,none⟩ v') bu ⟨w3.heap.size,gx,b,gq,s,tt,v,sl⟩:=by
  refine ⟨hsel,ht,htl,λ k=>(D1 k\/D2 k)\/k=w3.heap.size,?_,λ k hk=>?_,λ w' sm=>⟨?_,?_,?_⟩⟩
  ·exact (((f1.keep S1).low (Nat.zero_le _)).or ((f2.keep S2).low (Nat.zero_le _))).or (Ft.one hnew (by decide) (Nat.zero_le _))
  ·have hh:w.heap.size<=k/\k<=w3.heap.size:=by
    rcases hk with (y | y) | y
    ·have:=f1.ge k y; have:=f1.lt y; omega
    ·have:=f2.ge k y; have:=f2.lt y; omega
    omega
   rw [wO]
   refine wN hh.1 (λ e=>?_)
   rcases vb k e with y | y
   ·have:=(hrow k y).2; omega
   omega
  ·exact hnew.sm sm (Or.inr rfl)
  ·exact (o1.keep S1) w' (λ k hk=>sm k (Or.inl (Or.inl hk)))
  exact (o2.keep S2) w' (λ k hk=>sm k (Or.inl (Or.inr hk)))
 have ne:∀(T2:TypeId) (v2:Value) (n2:Nat) (x2:List Value),w.ownsRow (gw+1) T2 1 v2 n2 x2->93≠T2->∀k,v2.ownBlock=some k->¬(k=gw\/r.l.ownBlock=some k):=λ T2 v2 n2 x2 ho hT k hk e=>by
  rcases e with e | e
  ·have:=(ho.lt k hk).1; omega
  exact gi h.ol ho hT k e hk
 refine ⟨bu,⟨w3.heap.size,gx,b,gq,s,tt,v,sl⟩,⟨hB.set 0 v',by rw [hc gw l5]; exact h.cg,?_,gj h.of F (ne _ _ _ _ h.of (by decide)),gj h.GJ F (ne _ _ _ _ h.GJ (by decide)),gj h.Kq F (ne _ _ _ _ h.Kq (by decide)),gj h.OP F (ne _ _ _ _ h.OP (by decide)),gj h.GK F (ne _ _ _ _ h.GK (by decide)),λ k hk=>?_,h.Vx,λ p hp=>?_,a2,a3,a4⟩,F2,hc⟩
 ·have:=jb hown (g:=gw) (λ e=>by have:=(hown.lt gw e).1; omega) 0 v'
  rw [List.map_append,List.length_append]
  exact this
 ·rcases hk with e | e | e | e | e | e
  ·rcases vb k e with y | y
   ·rw [hc k (hrow k y).2]; exact h.cr k (Or.inl y)
   rw [wO]; exact qv (by omega) e
  all_goals
   have hr:RB r k:=by first | exact Or.inr (Or.inl e) | exact Or.inr (Or.inr (Or.inl e)) | exact Or.inr (Or.inr (Or.inr (Or.inl e))) | exact Or.inr (Or.inr (Or.inr (Or.inr (Or.inl e)))) | exact Or.inr (Or.inr (Or.inr (Or.inr (Or.inr e))))
   rw [hc k (h.rl k hr).2]
   exact h.cr k hr
 rcases List.mem_append.1 hp with y | y
 ·exact a1 p y
 rw [List.mem_singleton.1 y]; exact aai
theorem oG {Φ:World->(Nat->Nat)->FX->Prop} (HΦ:lO Φ) {w:World} (hE:EV w) {gw:Nat} {col:Nat->Nat} {r:Rv} {nx:Nat} {ps:List PX} {fs:List FX} {ns ms:List (Value×Int)} (h:LA Φ w gw col r nx ps fs ns ms) (hn:ps.length<=2000000000000) (s:ByteArray) (hs:s.size<=maxLen) :
 Calls Tryz.prog 28 #[.pointer (some ⟨gw,0,none⟩),.string s] w λ e w'=>e=.returned (.bool true)/\∃bu r' ps',LA Φ w' gw bu r' nx ps' fs ns ms/\Fr (λ k=>col k=2) w w'/\(∀k,k<w.heap.size->bu k=col k)/\(ps.length<=ps'.length/\ps'.length<=ps.length+1)/\(Good s->ps'.length=ps.length+1):=by
 obtain ⟨i0,hi,hz0,hz1,dN⟩:=info_parts Tryz.wH
 have HI:=aa hi
 have ia:=aa hz0
 have gO:=aa hz1
 have ic:=aa dN
 have HH:=aa h
 have HE:=aa hE
 have HP:=aa HΦ
 have HS:=aa hs
 clear hi hz0 hz1 dN h hE hs HΦ
 go_enter Tryz.func28,Tryz.ntmps28
 go_wp2_with fail
 refine (QX HS.out HE.out).mono ?_
 rintro e w1 ⟨k1,hx⟩
 have K1:=aa k1
 clear k1
 rcases hx with ⟨e,p,ce,rfl⟩ | ⟨gd,gx,b,tt,D1,rfl,f1,o1,ht,hsel⟩
 ·have CE:=aa ce
  clear ce
  go_wp2_with fail
  refine (GL (w:=w1) HS.out).mono ?_
  rintro e' w2 ⟨k2,hy⟩
  have K2:=aa (K1.out.trans k2)
  clear k2
  rcases hy with ⟨e',p',Yy,rfl⟩ | ⟨gd,_⟩
  ·obtain ⟨rfl,rfl⟩:=wG CE.out Yy
   clear Yy
   go_wp2_with fail
   refine (sU _).mono ?_
   rintro r' w3 ⟨rfl,rfl⟩
   go_wp2_with fail
   refine (sU _).mono ?_
   rintro r' w3 ⟨rfl,rfl⟩
   go_wp2
   go_ret
   exact ⟨rfl,col,r,ps,HH.out.keep HP.out K2.out,K2.out.mono (λ_ _ x=>x.elim),λ_ _=>rfl,⟨Nat.le_refl _,Nat.le_succ _⟩,λ g=>(nL CE.out g).elim⟩
  exact (nL CE.out gd).elim
 have GD:=aa gd
 have HT:=aa ht
 have F1:=aa f1
 have O1:=aa o1
 have SL:=aa hsel
 clear gd ht f1 o1 hsel
 go_wp2_with fail
 refine (GL (w:=w1) HS.out).mono ?_
 rintro e' w2 ⟨k2,hy⟩
 have K2:=aa k2
 clear k2
 rcases hy with ⟨e',p',Yy,rfl⟩ | ⟨_,gq,v,sl,D2,rfl,htl,f2,o2⟩
 ·exact (nL Yy GD.out).elim
 have HTL:=aa htl
 have F2:=aa f2
 have O2:=aa o2
 clear htl f2 o2
 have L2:=aa (HH.out.keep HP.out (K1.out.trans K2.out))
 have b0:=L2.out.blk.cell 0
 simp at b0
 have bf:=L2.out.blk.fz 0
 have l5:=L2.out.blk.lt
 obtain ⟨a0,c0,hrl⟩:=ah L2.out.ol
 have kq:=L2.out.ol
 have QY:Hid (∀v' w4,w4.ownsRow (gw+1) 93 1 v' (ps.length+1) (ps.map PX.ptr++[.pointer (some ⟨w2.heap.size,0,none⟩)])->((w2.alloc (.cells #[.pointer (some ⟨gx,0,none⟩),.pointer (some ⟨gq,0,none⟩)] 95)).alloc (.cells #[.pointer (some ⟨w2.heap.size,0,none⟩)] 93)).grownBy w4 r.l.ownBlock->(v'.ownBlock=r.l.ownBlock\/v'.ownBlock=some (w2.heap.size+1+1))->ay w4 gw #[r.l,r.f,r.ns,r.nm,r.ms,r.mm,.int .i64 (nx:Nat)] 61 /\
  ∃bu p,LA Φ (w4.setCell ⟨gw,0,none⟩ v') gw bu { r with l:=v' } nx (ps++[p]) fs ns ms/\Fr (λ k=>col k=2) w (w4.setCell ⟨gw,0,none⟩ v')/\(∀k,k<w.heap.size->bu k=col k)):=λ v' w4 x1 x2 x3=>LM HP.out HH.out K1.out K2.out F1.out O1.out HT.out SL.out F2.out O2.out HTL.out x1 x2 x3
 obtain ⟨rl,Vy⟩:∃rl,rl=r.l:=⟨_,rfl⟩
 rw [<-Vy] at b0 kq hrl QY
 clear Vy L2
 subst hrl
 go_wp2_with fail
 refine (sU _).mono ?_
 rintro r' w3 ⟨rfl,rfl⟩
 go_wp2_with fail
 refine (sU _).mono ?_
 rintro r' w3 ⟨rfl,rfl⟩
 go_wp2_with (at_builtin; refine wpList_append_own_at _ rfl _ _ 56 rfl (gw+1) 93 i0 _ 1 8 Tryz.underlying56 HI.out ia.out gO.out ic.out rfl (by decide) (.slice a0 ps.length c0) ps.length (ps.map PX.ptr) rfl ((kq.alloc _).alloc _) ⟨w3.heap.size+1,0,none⟩ 1 1 [.pointer (some ⟨w3.heap.size,0,none⟩)] rfl rfl ?c1 ?c2 ?c3 ?c4 ?c5 ?_)
 case c1 =>
  intro j u hj
  match j,hj with
  | 0,hj=>simp at hj; subst hj; simp [Addr.add]
 case c2=>intro u hu; simp at hu; subst hu; rfl
 case c3=>unfold maxLen; omega
 case c4=>omega
 case c5=>simp; omega
 intro v' w4 b7 hgrow _ bN
 obtain ⟨B4,bu,pn,R1,R2,R3⟩:=QY.out v' w4 b7 hgrow bN
 have R:=aa (And.intro R1 (And.intro R2 R3))
 have f4:=B4.fz 0
 have k4:=B4.cell 0
 simp at k4
 obtain ⟨a4,c4,rfl⟩:=ah b7
 clear b7 hgrow bN kq R1 R2 R3 B4 QY
 go_wp2
 go_ret
 exact ⟨rfl,bu,_,_,R.out.1,R.out.2.1,R.out.2.2,⟨by simp,by simp⟩,λ_=>by simp⟩
theorem LO {Φ:World->(Nat->Nat)->FX->Prop} (HΦ:lO Φ) {w w3 w4:World} {gw n:Nat} {lv:Value} {xs:List Value} {col:Nat->Nat} {r:Rv} {nx:Nat} {ps:List PX} {fs:List FX} {ns ms:List (Value×Int)} (h:LA Φ w gw col r nx ps fs ns ms) (k3:ak w w3) (hl:w3.ownsRow w.heap.size 42 3 lv n xs) (hn:n<=2000000000000) {cs:List Value} (hcs:cs=[r.l,r.f,r.ns,r.nm,r.ms,r.mm])
 (hO:Z0 42 29 3 2 (C6 (-((nx+1:Nat):Int))) w.heap.size gw cs nx lv r.ns r.nm ns.length n (ns.map (·.1)) (ns.map (λ e=>.int .i64 e.2)) w3 w4) :
 ∃bu r' ns',LA Φ w4 gw bu r' (nx+1) ps fs ns' ms/\Fr (λ k=>col k=2) w w4/\(∀k,k<w.heap.size->bu k=col k)/\ns'.length=ns.length+4/\(r'.l=r.l/\r'.f=r.f)/\Fr (λ k=>k=gw\/r.ns.ownBlock=some k\/r.nm.ownBlock=some k) w w4:=by
 classical
 obtain ⟨⟨g1,g2,g3,QJ,QK,hb,o1,o2,⟨l0,l1,l2,l3⟩,b1,b2,b3⟩,fr⟩:=hO
 obtain ⟨M,hM⟩:∃M:Int,M=-((nx+1:Nat):Int):=⟨_,rfl⟩
 have z3:=k3.size
 have l5:gw<w.heap.size:=h.blk.lt
 have F:Fr (λ k=>k=gw\/r.ns.ownBlock=some k\/r.nm.ownBlock=some k\/lv.ownBlock=some k) w w4:=(k3.mono (λ_ _ x=>x.elim)).trans fr
 have F2:Fr (λ k=>col k=2) w w4:=⟨F.os,F.tape,F.output,F.size,λ k hk e=>F.block k hk (λ y=>by
  rcases y with y | y | y | y
  ·exact e (y▸h.cg)
  ·exact e (h.cr k (Or.inr (Or.inr (Or.inl y))))
  ·exact e (h.cr k (Or.inr (Or.inr (Or.inr (Or.inl y)))))
  have:=(hl.lt k y).1; omega)⟩
 have FG:Fr (λ k=>k=gw\/r.ns.ownBlock=some k\/r.nm.ownBlock=some k) w w4:=⟨F.os,F.tape,F.output,F.size,λ k hk e=>F.block k hk (λ y=>by
  rcases y with y | y | y | y
  ·exact e (Or.inl y)
  ·exact e (Or.inr (Or.inl y))
  ·exact e (Or.inr (Or.inr y))
  have:=(hl.lt k y).1; omega)⟩
 obtain ⟨bu,wO⟩:∃bu,bu=wL w col (λ k=>QJ.ownBlock=some k\/QK.ownBlock=some k):=⟨_,rfl⟩
 have hc:∀k,k<w.heap.size->bu k=col k:=λ k hk=>by rw [wO]; exact wM hk
 obtain ⟨a1,a2,a3,a4⟩:=h.LJ HΦ ⟨F2,hc⟩
 have ne:∀(T2:TypeId) (v2:Value) (n2:Nat) (x2:List Value),w.ownsRow (gw+1) T2 1 v2 n2 x2->29≠T2->3≠T2->∀k,v2.ownBlock=some k->¬(k=gw\/r.ns.ownBlock=some k\/r.nm.ownBlock=some k\/lv.ownBlock=some k):=λ T2 v2 n2 x2 ho h1 h2 k hk e=>by
  rcases e with e | e | e | e
  ·have:=(ho.lt k hk).1; omega
  ·exact gi h.GJ ho h1 k e hk
  ·exact gi h.Kq ho h2 k e hk
  have:=(hl.lt k e).1; have:=(ho.lt k hk).2; omega
 have QG:∀sv j,j<=3000000000000->w4.ownsRow w.heap.size 42 3 sv j (dG (C6 (-((nx+1:Nat):Int))) j)->GG 42 3 C6 w4 bu (sv,M):=λ sv j hj ho=>by
  refine ⟨j,hj,?_,λ k hk=>?_⟩
  ·rw [hM]; exact iG ho
  rw [wO]
  refine wN (ho.lt k hk).1 (λ y=>?_)
  rcases y with y | y
  ·exact gi o1 ho (by decide) k y hk
  exact gi o2 ho (by decide) k y hk
 have NEW:∀e ∈ ns++[(lv,M),(g1,M),(g2,M),(g3,M)],GG 42 3 C6 w4 bu e:=λ e he=>by
  rcases List.mem_append.1 he with y | y
  ·exact a3 e y
  simp only [List.mem_cons,List.not_mem_nil,or_false] at y
  rcases y with rfl | rfl | rfl | rfl
  ·exact QG _ _ (by omega) l0
  ·exact QG _ _ (by omega) l1
  ·exact QG _ _ (by omega) l2
  exact QG _ _ (by omega) l3
 have rn:∀k,QJ.ownBlock=some k->bu k=2:=λ k hk=>by
  rcases b1 k hk with y | y
  ·have hr:RB r k:=Or.inr (Or.inr (Or.inl y))
   rw [hc k (h.rl k hr).2]; exact h.cr k hr
  rw [wO]; exact qv (by omega) (Or.inl hk)
 have rm:∀k,QK.ownBlock=some k->bu k=2:=λ k hk=>by
  rcases b2 k hk with y | y
  ·have hr:RB r k:=Or.inr (Or.inr (Or.inr (Or.inl y)))
   rw [hc k (h.rl k hr).2]; exact h.cr k hr
  rw [wO]; exact qv (by omega) (Or.inr hk)
 have old:∀k,RB r k->bu k=2:=λ k hr=>by rw [hc k (h.rl k hr).2]; exact h.cr k hr
 refine ⟨bu,{ r with ns:=QJ,nm:=QK },ns++[(lv,M),(g1,M),(g2,M),(g3,M)],⟨by rw [hcs] at hb; exact hb,by rw [hc gw l5]; exact h.cg,gj h.ol F (ne _ _ _ _ h.ol (by decide) (by decide)),gj h.of F (ne _ _ _ _ h.of (by decide) (by decide)),by
  rw [List.map_append,List.length_append]
  exact o1,by
  rw [List.map_append,List.length_append]
  have:=o2
  rw [<-hM] at this
  exact this,gj h.OP F (ne _ _ _ _ h.OP (by decide) (by decide)),gj h.GK F (λ k hk e=>by
  rcases e with e | e | e | e
  ·have:=(h.GK.lt k hk).1; omega
  ·exact gi h.GJ h.GK (by decide) k e hk
  ·exact h.Vx k e hk
  have:=(hl.lt k e).1; have:=(h.GK.lt k hk).2; omega),λ k hk=>?_,λ k hk=>?_,a1,a2,NEW,a4⟩,F2,hc,by simp,⟨rfl,rfl⟩,FG⟩
 ·rcases hk with e | e | e | e | e | e
  ·exact old k (Or.inl e)
  ·exact old k (Or.inr (Or.inl e))
  ·exact rn k e
  ·exact rm k e
  ·exact old k (Or.inr (Or.inr (Or.inr (Or.inr (Or.inl e)))))
  exact old k (Or.inr (Or.inr (Or.inr (Or.inr (Or.inr e)))))
 rcases b2 k hk with y | y
 ·exact h.Vx k y
 intro e
 have:=(h.GK.lt k e).2
 omega
def OQ (s:List UInt8) (xs:List Sg):Nat:=if cw s=0 then ((ja s).map (λ t=>(aI xs [t]).length)).getD 0 else 0
def Ks (s:List UInt8) (xs:List Sg):List Value:=if cw s=0 then ((ja s).map (λ t=>(aI xs [t]).flatMap cH)).getD [] else []
def slA (s:List UInt8):Nat:=if cw s=0 then 0 else nK s
theorem sY {s:ByteArray} {xs:List Sg} {w w1:World} {r:Ending} (h:zq s xs w r w1):ak w w1/\∃(sv:Value),r=.returned (.tuple #[sv,.int .i64 (cw (bs s):Nat),.int .i64 (slA (bs s):Nat)])/\w1.ownsRow w.heap.size 42 3 sv (OQ (bs s) xs) (Ks (bs s) xs):=by
 obtain ⟨k,h⟩:=h
 refine ⟨k,?_⟩
 unfold slA OQ Ks
 rcases h with ⟨h1,rfl⟩ | ⟨h1,t,sv,h2,rfl,h3⟩
 ·refine ⟨.slice none 0 0,?_,?_⟩
  ·rw [if_neg h1]
  rw [if_neg h1,if_neg h1]; exact ⟨rfl,Or.inl ⟨rfl,rfl⟩⟩
 refine ⟨sv,?_,?_⟩
 ·rw [if_pos h1,h1]; rfl
 rw [if_pos h1,if_pos h1,h2]; exact h3
theorem Da {s:ByteArray} {xs:List Sg} (hx:∀g ∈ xs,0<g.l.length) (hsel:fJ xs<=10) (hs:s.size<=1100000):OQ (bs s) xs<=2000000000000:=by
 unfold OQ
 split
 ·rename_i h0
  cases ht:ja (bs s) with
  | none=>simp
  | some t =>
   have hl:(bs s).length<=4000000:=by rw [an]; omega
   obtain ⟨hT,_⟩:=uw hl h0 ht
   obtain ⟨hfr,_⟩:=qb hl h0 ht
   have a:=nC hT hfr xs hx hsel (Nat.le_refl _)
   have b:(bs s).length * 524288<=1100000 * 524288:=Nat.mul_le_mul_right _ (by rw [an]; exact hs)
   rw [List.take_length] at a
   simp
   omega
 omega
theorem GM (l:List Tv) {k:Nat} (h:k<l.length):∃a b c,(l.flatMap cH)[k * 3]?=some (.string a)/\(l.flatMap cH)[k * 3+1]?=some (.int .i64 b)/\(l.flatMap cH)[k * 3+2]?=some (.int .i64 c):=by
 have g:=λ i hi=>lA cH 3 (λ_=>rfl) l k i h hi
 exact ⟨_,_,_,g 0 (by omega),g 1 (by omega),g 2 (by omega)⟩
theorem Db {s:List UInt8} {xs:List Sg} {k:Nat} (h:k<OQ s xs):∃a b c,(Ks s xs)[k * 3]?=some (.string a)/\(Ks s xs)[k * 3+1]?=some (.int .i64 b)/\(Ks s xs)[k * 3+2]?=some (.int .i64 c):=by
 unfold OQ at h
 unfold Ks
 split at h
 ·rename_i h0
  rw [if_pos h0]
  cases ht:ja s with
  | none=>rw [ht] at h; simp at h
  | some t =>
   rw [ht] at h
   exact GM _ h
 omega
theorem wP {Φ:World->(Nat->Nat)->FX->Prop} (HΦ:lO Φ) {w:World} (hE:EN w) {gw:Nat} {col:Nat->Nat} {r:Rv} {nx:Nat} {ps:List PX} {fs:List FX} {ns ms:List (Value×Int)} (h:LA Φ w gw col r nx ps fs ns ms) (hn:ns.length<=2000000000000) (hx:nx<=2000000000000) {p:PX} (hp:p ∈ ps) (s:ByteArray) (hs:s.size<=1100000) :
 Calls Tryz.prog 45 #[.pointer (some ⟨gw,0,none⟩),p.ptr,.string s] w λ e w'=>e=.returned (.bool true)/\∃bu r' ns',LA Φ w' gw bu r' (nx+1) ps fs ns' ms/\Fr (λ k=>col k=2) w w'/\(∀k,k<w.heap.size->bu k=col k)/\ns'.length=ns.length+4/\(r'.l=r.l/\r'.f=r.f)/\Fr (λ k=>k=gw\/r.ns.ownBlock=some k\/r.nm.ownBlock=some k) w w':=by
 have HP:=aa HΦ
 have HE:=aa hE
 have HH:=aa h
 obtain ⟨D,d1,d2,d3⟩:=(h.pk p hp).ok
 have hsel:=(h.pk p hp).sel
 obtain ⟨q1,⟨q2,q3⟩,q4⟩:=d3.self
 have c0:w.cell? ⟨p.gp,0,none⟩=some (.pointer (some ⟨p.gx,0,none⟩)):=q1.cell 0
 have c1:w.cell? ⟨p.gp,1,none⟩=some (.pointer (some ⟨p.gq,0,none⟩)):=q1.cell 1
 have hpos:∀g ∈ p.xs,0<g.l.length:=sJ (bs p.q)
 have XS:=aa (Gn (w:=w) (xs:=p.xs) q2 (λ w' k=>(d3 w' (Sm.fr d1 k (λ_ _ x=>x))).2.1.2) hE hpos hsel s hs)
 have YS:Hid (∀w1,ak w w1->Calls Tryz.prog 66 #[.pointer (some ⟨p.gq,0,none⟩),.string s] w1 (zq s p.xs w1)):=λ w1 k=>by
  obtain ⟨_,_,y⟩:=d3 w1 (Sm.fr d1 k (λ_ _ x=>x))
  exact GN y.1 y.2.2.2.2 hsel s hs
 have BD:=Da (s:=s) hpos hsel hs
 have CL:Hid (∀k,k<OQ (bs s) p.xs->∃a b c,(Ks (bs s) p.xs)[k * 3]?=some (.string a)/\(Ks (bs s) p.xs)[k * 3+1]?=some (.int .i64 b)/\(Ks (bs s) p.xs)[k * 3+2]?=some (.int .i64 c)):=λ k hk=>Db hk
 have Yz:p.gp<w.heap.size:=q1.lt
 have l5:gw<w.heap.size:=h.blk.lt
 unfold PX.ptr
 clear h HΦ hE d1 d2 d3 q1 q2 q3 q4 hp hsel hpos
 go_enter Tryz.func45,Tryz.ntmps45
 go_wp2_with fail
 refine (XS.out).mono ?_
 rintro e1 w1 hx1
 obtain ⟨k1,sx,rfl,ox⟩:=sY hx1
 have K1:=aa k1
 have OX:=aa ox
 have OR:w1.cell? ⟨p.gp,1,none⟩=some (.pointer (some ⟨p.gq,0,none⟩)):=(k1.cell (p:=⟨p.gp,1,none⟩) Yz id).trans c1
 clear hx1 k1 ox XS c0 c1
 obtain ⟨xa,xc,rfl⟩:=ah OX.out
 go_wp2_with fail
 refine (YS.out w1 K1.out).mono ?_
 rintro e2 w2 hx2
 obtain ⟨k2,sy,rfl,oy⟩:=sY hx2
 have K2:=aa (K1.out.trans k2)
 have Vz:=aa (aW OX.out k2 (λ_ _ x=>x))
 have OY:=aa oy
 clear hx2 k2 oy YS OR OX
 obtain ⟨ya,yc,rfl⟩:=ah OY.out
 generalize OQ (bs s) p.xs=N at *
 generalize Ks (bs s) p.xs=CC at *
 generalize cw (bs s)=te at *
 generalize slA (bs s)=ta at *
 go_wp2
 go_loopw [13,14] (λ o i wr=>o=.bool true/\∃j q:Nat,j<=N/\i=.int .i64 j/\wr=w2.drewN q) (λ_ i _=>N - (intOf i).toNat)
 case atStart=>exact ⟨by simp,0,0,Nat.zero_le _,rfl,rfl⟩
 case round =>
  obtain ⟨rfl,j,q,hj,rfl,rfl⟩:=hrel
  by_cases hjn:j<N
  ·have hji:(j:Int)<(N:Int):=by omega
   obtain ⟨ax,bx,cx,e0,e1,e2⟩:=CL.out j hjn
   obtain ⟨gx,cgx,hvx,_,_⟩:=Vz.out.form (by omega)
   simp only [Value.slice.injEq,true_and] at hvx
   obtain ⟨rfl,rfl⟩:=hvx
   obtain ⟨gy,cgy,hvy,_,_⟩:=OY.out.form (by omega)
   simp only [Value.slice.injEq,true_and] at hvy
   obtain ⟨rfl,rfl⟩:=hvy
   have x0:w2.cell? ⟨gx,j * 3,none⟩=some (.string ax):=(Vz.out.cellAt (j * 3) (by omega)).trans e0
   have x1:w2.cell? ⟨gx,j * 3+1,none⟩=some (.int .i64 bx):=(Vz.out.cellAt (j * 3+1) (by omega)).trans e1
   have x2:w2.cell? ⟨gx,j * 3+2,none⟩=some (.int .i64 cx):=(Vz.out.cellAt (j * 3+2) (by omega)).trans e2
   have y0:w2.cell? ⟨gy,j * 3,none⟩=some (.string ax):=(OY.out.cellAt (j * 3) (by omega)).trans e0
   have y1:w2.cell? ⟨gy,j * 3+1,none⟩=some (.int .i64 bx):=(OY.out.cellAt (j * 3+1) (by omega)).trans e1
   have y2:w2.cell? ⟨gy,j * 3+2,none⟩=some (.int .i64 cx):=(OY.out.cellAt (j * 3+2) (by omega)).trans e2
   clear e0 e1 e2
   go_wp2
   go_quiet (fail)
   go_wp2
   go_roundw
   case rel=>exact ⟨by simp,j+1,_,by omega,by go_num,by first | rfl | exact aJ _ _ _⟩
   case measure=>simp [intOf]; omega
  have hji:¬(j:Int)<(N:Int):=by omega
  have L2:=HH.out.keep HP.out (K2.out.drewN q)
  have KD:=aa (K2.out.drewN q)
  have OXD:=aa (bO (w':=w2.drewN q) Vz.out (λ_ _=>rfl))
  have OW:=aa (QL (w:=w2.drewN q) (B:=w.heap.size) L2.blk L2.GJ L2.Kq OXD.out l5 (K2.out.drewN q).size BD hn hx)
  clear L2
  go_wp2_with fail
  refine (OW.out).mono ?_
  rintro e4 w4 ⟨rfl,o4⟩
  have jS:=aa (LO HP.out HH.out KD.out OXD.out BD rfl o4)
  clear o4 OW
  go_wp2_with fail
  refine (sU _).mono ?_
  rintro r' w5 ⟨rfl,rfl⟩
  go_wp2_with fail
  refine (sU _).mono ?_
  rintro r' w5 ⟨rfl,rfl⟩
  go_wp2
  go_ret
  exact ⟨by simp,jS.out⟩
end Go.Proofs.YtcbadebjpogmlaaGreatDoor
