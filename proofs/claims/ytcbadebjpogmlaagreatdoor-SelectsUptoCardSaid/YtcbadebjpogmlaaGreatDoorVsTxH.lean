import Derived.Test.YtcbadebjpogmlaaGreatDoorVsTxC
import Derived.Test.YtcbadebjpogmlaaGreatDoorVsRefF
import Derived.Test.YtcbadebjpogmlaaGreatDoorVsTxA
set_option maxHeartbeats 2000000
set_option maxRecDepth 100000
namespace Go.Proofs.YtcbadebjpogmlaaGreatDoor
open Go.RowKit Tr
theorem rI:(Tryz.prog.info? 159).map (λ i=>(i.zero,i.size,i.bytes))=some (some (.pointer none),1,8):=by kernel_rfl
theorem yK {w0 w:World} {rb bv:Nat} {s:ByteArray} {p:Nat} {rt:Value} {d:dO} {sv:Value} (h:RV rb bv s w0 p 0 rt d sv w) (hne:bv≠rb) :
 Calls Tryz.prog 124 #[.pointer (some ⟨rb,0,none⟩),.pointer none,.pointer (some ⟨bv,0,none⟩)] w λ r w'=>r=.returned (.tuple #[])/\RV rb bv s w0 p 0 (.pointer (some ⟨bv,0,none⟩)) d sv w':=by
 have c3:w.cell? ⟨rb,3,none⟩=some rt:=h.r.cell 3
 have z3:=h.r.fz 3
 have F:Hid (RV rb bv s w0 p 0 (.pointer (some ⟨bv,0,none⟩)) d sv (w.setCell ⟨rb,3,none⟩ (.pointer (some ⟨bv,0,none⟩)))) :=
  ⟨h.r.set 3 _,h.v.other hne 3 _,h.f.setCell ⟨rb,3,none⟩ (Or.inl (Or.inl rfl)) _⟩
 clear h
 go_enter Tryz.func124,Tryz.ntmps124
 go_wp2
 (try simp only [Exit.inBlock,Exit.then]); refine bodyPost_ret (results_none rfl _ _ _) rfl ?_
 exact ⟨rfl,F.out⟩
structure J0 (bi B0:Nat) (di:dO) (eD:Value) (xs:List Value) (w:World):Prop where
 k:ay w bi (rH di eD) 195
 row:w.ownsRow B0 159 1 eD xs.length xs
 lt:bi<B0
def ni (sv jG:Value) (w w':World):Prop:=jG.ownBlock=sv.ownBlock\/∃g,jG.ownBlock=some g/\w.heap.size<=g/\g<w'.heap.size
theorem AN {w:World} {rb bi B0 bv:Nat} {di:dO} {eD:Value} {xs:List Value} (h:J0 bi B0 di eD xs w) (hB:B0<=w.heap.size) (hx:xs.length<=4000000) :
 Calls Tryz.prog 124 #[.pointer (some ⟨rb,0,none⟩),.pointer (some ⟨bi,0,none⟩),.pointer (some ⟨bv,0,none⟩)] w λ r w'=>r=.returned (.tuple #[]) /\
  ∃pI,J0 bi B0 di pI (xs++[.pointer (some ⟨bv,0,none⟩)]) w'/\Fr (λ k=>k=bi\/eD.ownBlock=some k) w w'/\ni eD pI w w':=by
 obtain ⟨i0,hi,hz0,hz1,dN⟩:=info_parts rI
 have HI:=aa hi
 have ia:=aa hz0
 have gO:=aa hz1
 have ic:=aa dN
 obtain ⟨a0,c0,rfl⟩:=ah h.row
 have H:=aa h
 have c8':w.cell? ⟨bi,8,none⟩=some (.slice a0 xs.length c0):=h.k.cell 8
 have hbi:bi<w.heap.size:=h.k.lt
 clear h hi hz0 hz1 dN
 go_enter Tryz.func124,Tryz.ntmps124
 go_wp2_with (at_builtin; refine wpList_append_lies _ rfl _ _ 191 rfl B0 159 i0 _ 1 8 Tryz.underlying191 HI.out ia.out gO.out ic.out rfl (by decide) _ _ _ rfl (H.out.row.alloc _) ⟨w.heap.size,0,none⟩ 1 1 [.pointer (some ⟨bv,0,none⟩)] rfl rfl ?c1 ?c2 (by decide) ?c3 ?c4 ?c5 _ rfl ?_)
 case c1 =>
  intro j u hj
  match j,hj with
  | 0,hj=>simp at hj; subst hj; simp [Addr.add]
 case c2=>intro u hu; simp at hu; subst hu; rfl
 case c3=>unfold maxLen; omega
 case c4=>omega
 case c5=>simp; omega
 intro g cap w3 bI ko JF SQ
 have hnb:∀k,(Value.slice a0 xs.length c0).ownBlock=some k->B0<=k/\k<w.heap.size:=λ k hk=>H.out.row.lt k hk
 have K3:Hid (ay w3 bi (rH di (.slice a0 xs.length c0)) 195):=((ko.block bi (by simp; omega) (λ e=>by have:=hnb bi e.symm; have:=H.out.lt; omega)).trans (H.out.k.alloc _))
 have c8:w3.cell? ⟨bi,8,none⟩=some (.slice a0 xs.length c0):=K3.out.cell 8
 have z8:=K3.out.fz 8
 have F3:Hid (Fr (λ k=>k=bi\/(Value.slice a0 xs.length c0).ownBlock=some k) w w3):=Fr.grown ((Fr.refl (λ k=>k=bi\/(Value.slice a0 xs.length c0).ownBlock=some k) w).alloc _) ko (λ k hk=>Or.inr (Or.inr hk))
 have W3:=aa bI
 have M3:Hid (ni (.slice a0 xs.length c0) (.slice (some ⟨g,0,none⟩) (xs.length+1) cap) w w3):=by
  rcases JF with e | e
  ·exact Or.inl e.symm
  exact Or.inr ⟨g,rfl,by rw [e]; simp,SQ⟩
 clear bI ko JF c8'
 go_wp2
 go_end0
 refine ⟨rfl,.slice (some ⟨g,0,none⟩) (xs.length+1) cap,⟨K3.out.set 8 _,?_,H.out.lt⟩,F3.out.setCell ⟨bi,8,none⟩ (Or.inl (Or.inl rfl)) _,?_⟩
 ·have e:(xs++[Value.pointer (some ⟨bv,0,none⟩)]).length=xs.length+1:=by simp
  rw [e]
  exact aW W3.out ((Fr.refl (λ k=>k=bi) w3).setCell ⟨bi,8,none⟩ (Or.inl rfl) _) (λ k hk e=>by have:=H.out.lt; omega)
 rcases M3.out with e | ⟨g',e1,e2,e3⟩
 ·exact Or.inl e
 exact Or.inr ⟨g',e1,e2,by simpa [World.setCell] using e3⟩
def dM (A:Nat->Nat) (t:Tv):Value:=.pointer (some ⟨A t.d.ai,0,none⟩)
def RT (w:World) (A:Nat->Nat) (D:Nat->Prop) (hi:Nat):Nat->Tv->Prop
 | 0,_=>False
 | n+1,t=>t.d.ai<hi/\D (A t.d.ai)/\(∃sv,ay w (A t.d.ai) (rH t.d sv) 195/\(∀k,sv.ownBlock=some k->D k)/\w.ownsRow 0 159 1 sv t.ws.length (t.ws.map (dM A)))/\∀c ∈ t.ws,RT w A D hi n c
theorem iG {w:World} {base:Nat} {e:TypeId} {sz:Nat} {v:Value} {n:Nat} {xs:List Value} (h:w.ownsRow base e sz v n xs):w.ownsRow 0 e sz v n xs:=by
 refine ⟨h.1,?_⟩
 rcases h.2 with x | ⟨k,cap,cur,h1,_,h3⟩
 ·exact Or.inl x
 exact Or.inr ⟨k,cap,cur,h1,Nat.zero_le _,h3⟩
theorem bO {w w':World} {base:Nat} {e:TypeId} {sz:Nat} {v:Value} {n:Nat} {xs:List Value} (h:w.ownsRow base e sz v n xs) (hk:∀k,v.ownBlock=some k->w'.heap[k]?=w.heap[k]?):w'.ownsRow base e sz v n xs:=by
 refine ⟨h.1,?_⟩
 rcases h.2 with x | ⟨k,cap,cur,h1,h2,h3,h4⟩
 ·exact Or.inl x
 exact Or.inr ⟨k,cap,cur,h1,h2,(hk k (by rw [h1]; rfl)).trans h3,h4⟩
theorem RT.keep {w w':World} {A:Nat->Nat} {D:Nat->Prop} {hi:Nat} (hD:∀k,D k->w'.heap[k]?=w.heap[k]?):∀(n:Nat) (t:Tv),RT w A D hi n t->RT w' A D hi n t
 | 0,_,h=>h
 | n+1,_,⟨h1,h2,⟨sv,h3,h4,h5⟩,h6⟩=>⟨h1,h2,⟨sv,(hD _ h2).trans h3,h4,bO h5 (λ k hk=>hD k (h4 k hk))⟩,λ c hc=>RT.keep hD n c (h6 c hc)⟩
theorem RT.mono {w:World} {A:Nat->Nat} {D D':Nat->Prop} {hi hi':Nat} (hD:∀k,D k->D' k) (hh:hi<=hi'):∀(n:Nat) (t:Tv),RT w A D hi n t->RT w A D' hi' n t
 | 0,_,h=>h
 | n+1,_,⟨h1,h2,⟨sv,h3,h4,h5⟩,h6⟩=>⟨Nat.lt_of_lt_of_le h1 hh,hD _ h2,⟨sv,h3,λ k hk=>hD k (h4 k hk),h5⟩,λ c hc=>RT.mono hD hh n c (h6 c hc)⟩
theorem RT.ai {w:World} {A:Nat->Nat} {D:Nat->Prop} {hi:Nat}:∀{n:Nat} {t:Tv},RT w A D hi n t->t.d.ai<hi
 | 0,_,h=>absurd h id
 | _+1,_,h=>h.1
theorem RT.adr {w:World} {A A':Nat->Nat} {D:Nat->Prop} {hi:Nat} (hA:∀f,f<hi->A' f=A f):∀(n:Nat) (t:Tv),RT w A D hi n t->RT w A' D hi n t
 | 0,_,h=>h
 | n+1,t,⟨h1,h2,⟨sv,h3,h4,h5⟩,h6⟩=>by
  refine ⟨h1,by rw [hA _ h1]; exact h2,⟨sv,by rw [hA _ h1]; exact h3,h4,?_⟩,λ c hc=>RT.adr hA n c (h6 c hc)⟩
  have e:t.ws.map (dM A')=t.ws.map (dM A):=List.map_congr_left (λ c hc=>by
   have hf:c.d.ai<hi:=(h6 c hc).ai
   unfold dM
   rw [hA _ hf])
  rw [e]
  exact h5
def Td (ip:Option Addr) (cG B0:Nat) (di:dO) (eD:Value) (xs:List Value) (w:World):Prop :=
 (ip=none/\cG=0)\/∃bi,ip=some ⟨bi,0,none⟩/\J0 bi B0 di eD xs w/\di.kind=cG/\(cG=4\/cG=5)
def HK (ip:Option Addr) (eD:Value) (k:Nat):Prop:=∃bi,ip=some ⟨bi,0,none⟩/\(k=bi\/eD.ownBlock=some k)
structure J1 (w:World) (rb bv:Nat) (ip:Option Addr) (cG B0:Nat) (di:dO) (eD:Value) (xs:List Value) (s:ByteArray) (p:Nat) (rt:Value) (A:Nat->Nat) (dp:Nat) (R:Rs) (w':World):Prop where
 r:∃rt',ay w' rb (yG s R.p R.e rt') 161/\(ip≠none->rt'=rt)/\(R.ws≠[]->ip=none->rt'=.pointer (some ⟨bv,0,none⟩))/\(R.ws=[]->rt'=rt)
 f:Fr (λ k=>k=rb\/k=bv\/HK ip eD k) w w'
 h:∃pI,Td ip cG B0 di pI (xs++R.ws.map (λ_=>.pointer (some ⟨bv,0,none⟩))) w'/\(ip≠none->ni eD pI w w') /\
  ∀t,R.ws=[t]->∃A',(∀f,f<p->A' f=A f)/\A' t.d.ai=bv/\RT w' A' (λ k=>k=bv\/(w.heap.size<=k/\k<w'.heap.size/\(ip≠none->pI.ownBlock≠some k))) R.p (10 - dp) t
def AO (s:ByteArray) (n:Nat):Prop:=∀(w:World) (rb bv:Nat) (ip:Option Addr) (cG B0:Nat) (di:dO) (eD:Value) (xs:List Value) (p:Nat) (rt:Value) (A:Nat->Nat) (dp:Nat) (nm pt:List UInt8),
 2 * (s.size - p)+1<=n->p<=s.size->dp<=9->1<=dp->pt.length<=dp * 10000000->xs.length<=s.size ->
 ay w rb (yG s p 0 rt) 161->ay w bv (rH ⟨0,0,[],nm,pt,0,0,-1⟩ (.slice none 0 0)) 195->Td ip cG B0 di eD xs w ->
 bv≠rb->¬HK ip eD rb->¬HK ip eD bv->B0<=w.heap.size ->
 Calls Tryz.prog 97 #[.pointer (some ⟨rb,0,none⟩),.pointer ip,.pointer (some ⟨bv,0,none⟩),.int .i64 (dp:Nat)] w λ r w' =>
  r=.returned (.tuple #[])/\J1 w rb bv ip cG B0 di eD xs s p rt A dp (rd (bs s) n false dp nm pt cG p []) w'
structure vP (w:World) (rb bv B0:Nat) (d:dO) (fZ:Value) (xs:List Value) (s:ByteArray) (p:Nat) (rt:Value) (A:Nat->Nat) (dp:Nat) (R:Rs) (w':World):Prop where
 r:ay w' rb (yG s R.p R.e rt) 161
 f:Fr (λ k=>k=rb\/k=bv\/fZ.ownBlock=some k) w w'
 h:∃J2 A',(∀f,f<p->A' f=A f)/\J0 bv B0 d J2 (xs++R.ws.map (dM A')) w'/\ni fZ J2 w w' /\
  ∀t ∈ R.ws,RT w' A' (λ k=>w.heap.size<=k/\k<w'.heap.size/\J2.ownBlock≠some k) R.p (9 - dp) t
theorem yL {s:ByteArray} {n:Nat} (hV:AO s n) {w:World} {rb bv B0:Nat} {d:dO} {fZ:Value} {xs:List Value} {p:Nat} {rt:Value} (A:Nat->Nat) {dp:Nat}
 (hn:2 * (s.size - p)+1<=n) (hp:p<=s.size) (rR:dp<=8) (hxl:xs.length<=s.size) (hr:ay w rb (yG s p 0 rt) 161) (hb:J0 bv B0 d fZ xs w) (hk:d.kind=4\/d.kind=5) (hne:bv≠rb) (hrw:fZ.ownBlock≠some rb) (hB:B0<=w.heap.size)
 (nm pt:List UInt8) (rO:pt.length<=(dp+1) * 10000000) :
 Calls Tryz.prog 97 #[.pointer (some ⟨rb,0,none⟩),.pointer (some ⟨bv,0,none⟩),.pointer (some ⟨w.heap.size,0,none⟩),.int .i64 ((dp:Int)+1)] (w.alloc (.cells (rH ⟨0,0,[],nm,pt,0,0,-1⟩ (.slice none 0 0)) 195)) λ r w' =>
  r=.returned (.tuple #[])/\vP w rb bv B0 d fZ xs s p rt A dp (rd (bs s) n false (dp+1) nm pt d.kind p []) w':=by
 have PK:bv<w.heap.size:=hb.k.lt
 have hrb:rb<w.heap.size:=hr.lt
 have hrow:∀k,fZ.ownBlock=some k->k<w.heap.size:=λ k hk=>(hb.row.lt k hk).2
 have eK:J0 bv B0 d fZ xs (w.alloc (.cells (rH ⟨0,0,[],nm,pt,0,0,-1⟩ (.slice none 0 0)) 195)):=⟨hb.k.alloc _,hb.row.alloc _,hb.lt⟩
 have h:=hV (w.alloc (.cells (rH ⟨0,0,[],nm,pt,0,0,-1⟩ (.slice none 0 0)) 195)) rb w.heap.size (some ⟨bv,0,none⟩) d.kind B0 d fZ xs p rt A (dp+1) nm pt hn hp (by omega) (by omega) rO hxl (hr.alloc _) (ay.new _ _ _)
  (Or.inr ⟨bv,rfl,eK,rfl,hk⟩) (by omega)
  (by
   rintro ⟨bi,e,x | x⟩
   ·injection e with e; injection e with e _ _; omega
   exact hrw x)
  (by
   rintro ⟨bi,e,x | x⟩
   ·injection e with e; injection e with e _ _; omega
   have:=hrow _ x; omega)
  (by simp; omega)
 refine h.mono ?_
 rintro r w' ⟨rfl,V⟩
 refine ⟨rfl,?_⟩
 obtain ⟨rt',hr',Ul,_⟩:=V.r
 have e0:rt'=rt:=Ul (by simp)
 subst e0
 obtain ⟨pI,hH,hM,hT⟩:=V.h
 obtain ⟨bi,e,hI,_,_⟩:=hH.resolve_left (λ x=>by cases x.1)
 injection e with e
 injection e with e _ _
 subst e
 have hsz:(w.alloc (.cells (rH ⟨0,0,[],nm,pt,0,0,-1⟩ (.slice none 0 0)) 195)).heap.size=w.heap.size+1:=by simp
 have hle:w.heap.size+1<=w'.heap.size:=by have:=V.f.size; rw [hsz] at this; exact this
 have Ox:ni fZ pI w w':=by
  rcases hM (by simp) with x | ⟨g,x1,x2,x3⟩
  ·exact Or.inl x
  rw [hsz] at x2; exact Or.inr ⟨g,x1,by omega,x3⟩
 have Xi:∀k,pI.ownBlock=some k->k≠w.heap.size:=λ k hk=>by
  rcases hM (by simp) with x | ⟨g,x1,x2,x3⟩
  ·have:=hrow k (x▸hk); omega
  rw [x1] at hk; rw [hsz] at x2; injection hk with hk; omega
 have hF:Fr (λ k=>k=rb\/k=bv\/fZ.ownBlock=some k) w w':=by
  have f0:=(Fr.refl (λ k=>k=rb\/k=bv\/fZ.ownBlock=some k) w).alloc (.cells (rH ⟨0,0,[],nm,pt,0,0,-1⟩ (.slice none 0 0)) 195)
  refine f0.new V.f ?_
  rintro i hi (x | x | ⟨bi,e,x | x⟩)
  ·exact Or.inl x
  ·omega
  ·injection e with e; injection e with e _ _; exact Or.inr (Or.inl (by omega))
  exact Or.inr (Or.inr x)
 cases n with
 | zero=>omega
 | succ n =>
  rcases vA (s:=bs s) n (dp+1) nm pt d.kind p [] with hz | ⟨t,ht,hfr⟩
  ·refine ⟨hr',hF,pI,A,λ_ _=>rfl,?_,Ox,λ t ht=>by rw [hz] at ht; cases ht⟩
   rw [hz] at hI ⊢
   exact hI
  obtain ⟨A',hA,XE,Nz⟩:=hT t ht
  refine ⟨hr',hF,pI,A',hA,?_,Ox,λ t' ht'=>?_⟩
  ·rw [ht] at hI ⊢
   have e3:dM A' t=.pointer (some ⟨w.heap.size,0,none⟩):=by unfold dM; rw [XE]
   simp only [List.map_cons,List.map_nil] at hI ⊢
   rw [e3]; exact hI
  rw [ht] at ht'
  have e4:t'=t:=by simpa using ht'
  subst e4
  have e5:10 - (dp+1)=9 - dp:=by omega
  rw [e5] at Nz
  refine RT.mono (λ k hk=>?_) (Nat.le_refl _) _ _ Nz
  rcases hk with x | ⟨x1,x2,x3⟩
  ·subst x; exact ⟨Nat.le_refl _,by omega,λ hx=>Xi _ hx rfl⟩
  rw [hsz] at x1; exact ⟨by omega,x2,x3 (by simp)⟩
theorem vP.Te {w:World} {q:Nat} {rb bv B0:Nat} {d:dO} {fZ:Value} {xs:List Value} {s:ByteArray} {p:Nat} {rt:Value} {A:Nat->Nat} {dp:Nat} {R:Rs} {w':World} (h:vP (w.drewN q) rb bv B0 d fZ xs s p rt A dp R w'):vP w rb bv B0 d fZ xs s p rt A dp R w' :=
 ⟨h.r,((Fr.refl _ w).drewN q).trans h.f,h.h⟩
theorem Ew {s:ByteArray} {n:Nat} (hV:AO s n) (hs:s.size<=2000000) {w:World} {rb bv B0:Nat} {d:dO} {fZ:Value} {xs:List Value} {p:Nat} {rt:Value} (A:Nat->Nat) {dp:Nat}
 (hn:2 * (s.size - p)+1<=n) (hp:p<=s.size) (rR:dp<=8) (rO:d.path.length<=dp * 10000000) (hxl:xs.length<=s.size) (hr:ay w rb (yG s p 0 rt) 161) (hb:J0 bv B0 d fZ xs w) (hk:d.kind=4) (hne:bv≠rb) (hrw:fZ.ownBlock≠some rb) (hB:B0<=w.heap.size) (h1:1<=dp) :
 Calls Tryz.prog 169 #[.pointer (some ⟨rb,0,none⟩),.pointer (some ⟨bv,0,none⟩),.int .i64 ((dp+1:Nat):Int)] w λ r w' =>
  r=.returned (.tuple #[])/\vP w rb bv B0 d fZ xs s p rt A dp (rd (bs s) n false (dp+1) [] (d.path++[91]++dec xs.length++[93]) 4 p []) w':=by
 obtain ⟨a0,c0,rfl⟩:=ah hb.row
 have c4:w.cell? ⟨bv,4,none⟩=some (.string (sb d.path)):=hb.k.cell 4
 have c8:w.cell? ⟨bv,8,none⟩=some (.slice a0 xs.length c0):=hb.k.cell 8
 have HV:=aa hV
 have HB:=aa hb
 have HR:=aa hr
 have hz1:(sb d.path).size<=80000000:=by rw [gT]; omega
 have dN:(sb (dec xs.length)).size<=2000001:=by rw [gT]; have:=mD xs.length; omega
 obtain ⟨P,hP⟩:∃P,P=sb d.path:=⟨_,rfl⟩
 obtain ⟨Q,hQ⟩:∃Q,Q=sb (dec xs.length):=⟨_,rfl⟩
 have HQ:Hid (∀w,Calls Tryz.prog 217 #[.int .i64 (xs.length:Nat)] w λ r w'=>r=.returned (.string Q)/\∃k,w'=w.drewN k):=λ w=>by rw [hQ]; exact Ep xs.length (by omega) w
 have Y9:Hid (P++⟨#[91]⟩++Q++⟨#[93]⟩=sb (d.path++[91]++dec xs.length++[93])):=by
  show P++sb [91]++Q++sb [93]=_
  rw [hP,hQ,bX,bX,bX]
 have HC:Hid (∀q,Calls Tryz.prog 97 #[.pointer (some ⟨rb,0,none⟩),.pointer (some ⟨bv,0,none⟩),.pointer (some ⟨w.heap.size,0,none⟩),.int .i64 ((dp:Int)+1)] ((w.drewN q).alloc (.cells #[.int .i64 0,.int .i64 0,.string ⟨#[]⟩,.string ⟨#[]⟩,.string (P++⟨#[91]⟩++Q++⟨#[93]⟩),.int .i64 0,.int .i64 0,.int .i64 (-1),.slice none 0 0] 195)) λ r w' =>
  r=.returned (.tuple #[])/\vP w rb bv B0 d (.slice a0 xs.length c0) xs s p rt A dp (rd (bs s) n false (dp+1) [] (d.path++[91]++dec xs.length++[93]) 4 p []) w'):=λ q=>by
  rw [Y9.out]
  have h2:=yL (w:=w.drewN q) hV A hn hp rR hxl hr ⟨hb.k,hb.row,hb.lt⟩ (Or.inl hk) hne hrw hB [] (d.path++[91]++dec xs.length++[93]) (by have:=mD xs.length; simp; omega)
  rw [hk] at h2
  exact h2.mono (λ r w' ⟨e,h⟩=>⟨e,h.Te⟩)
 rw [<-hP] at hz1 c4
 rw [<-hQ] at dN
 have Ls:(P++⟨#[91]⟩).size<=80000001:=by rw [ByteArray.size_append]; show P.size+1<=_; omega
 have Fg:(P++⟨#[91]⟩++Q).size<=82000002:=by rw [ByteArray.size_append]; omega
 clear hV hb hr hP hQ
 go_enter Tryz.func169,Tryz.ntmps169
 go_wp2_with fail
 go_region_with (go_at_call 217; refine (HQ.out _).mono ?_; rintro r w1 ⟨rfl,k1,rfl⟩)
 all_goals
  go_wp2_with fail
  refine (HC.out _).mono ?_
  rintro r w2 ⟨rfl,h2⟩
  have H2:=aa h2
  clear h2
  go_wp2
  go_end0
  exact ⟨rfl,H2.out⟩
theorem ow {w0 w:World} {b:Nat} {s:ByteArray} {p e:Nat} {rt:Value} (h:RR b s w0 p e rt w) (he:e≠0) :
 Calls Tryz.prog 98 #[.pointer (some ⟨b,0,none⟩)] w λ r w'=>r=.returned (.tuple #[])/\RR b s w0 p e rt w':=by
 have H:=aa h
 clear h
 go_enter Tryz.func98,Tryz.ntmps98
 go_wp2
 go_loopw [2,3] (λ_ _ wr=>RR b s w0 p e rt wr) (λ_ _ _=>0)
 case atStart=>exact H.out
 case round =>
  have HR:=aa hrel
  clear H hrel
  go_wp2_with fail
  refine (kG HR.out 32 _ rfl (by decide) false (by simp [he])).mono ?_
  rintro r w1 ⟨rfl,h1⟩
  have R1:=aa h1
  clear h1
  go_wp2_with fail
  refine (kG R1.out 10 _ rfl (by decide) false (by simp [he])).mono ?_
  rintro r w2 ⟨rfl,h2⟩
  have R2:=aa h2
  clear h2 R1
  go_wp2
  (try simp only [Exit.inBlock,Exit.then]); refine bodyPost_ret (results_none rfl _ _ _) rfl ?_
  exact ⟨rfl,R2.out⟩
def sF (s:List UInt8) (n dp:Nat) (pt:List UInt8) (j:Nat):Rs :=
 if (aP s j).e≠0 then ⟨[],(aP s j).e,(aP s j).p⟩
 else if bt s (sk s (aP s j).p)=58 then rd s n false (dp+1) (aP s j).t (pt++[91]++iV (aP s j).t++[93]) 5 (sk s (aP s j).p+1) []
 else ⟨[],2,sk s (aP s j).p⟩
theorem J3 (l:List UInt8):(iV l).length<=2 * l.length+2:=by
 have:=rG l
 unfold iV
 simp only [List.length_append,List.length_cons,List.length_nil]
 omega
theorem vP.base {w w1:World} {rb bv B0:Nat} {d:dO} {fZ:Value} {xs:List Value} {s:ByteArray} {p p1:Nat} {rt:Value} {A:Nat->Nat} {dp:Nat} {R:Rs} {w':World} (h:vP w1 rb bv B0 d fZ xs s p1 rt A dp R w') (f:Fr (λ k=>k=rb) w w1) (hp:p<=p1):vP w rb bv B0 d fZ xs s p rt A dp R w':=by
 obtain ⟨jG,A',hA,hI,hM,hT⟩:=h.h
 refine ⟨h.r,(f.mono (λ_ _ e=>Or.inl e)).trans h.f,jG,A',λ q hq=>hA q (by omega),hI,?_,λ t ht=>?_⟩
 ·rcases hM with x | ⟨g,x1,x2,x3⟩
  ·exact Or.inl x
  exact Or.inr ⟨g,x1,Nat.le_trans f.size x2,x3⟩
 exact RT.mono (λ k hk=>⟨Nat.le_trans f.size hk.1,hk.2⟩) (Nat.le_refl _) _ _ (hT t ht)
theorem vP.none {w:World} {rb bv B0:Nat} {d:dO} {fZ:Value} {xs:List Value} {s:ByteArray} {p q e:Nat} {rt:Value} {A:Nat->Nat} {dp:Nat} {w':World} (h:RR rb s w q e rt w') (hb:J0 bv B0 d fZ xs w) (hne:bv≠rb) (hrw:fZ.ownBlock≠some rb):vP w rb bv B0 d fZ xs s p rt A dp ⟨[],e,q⟩ w':=by
 refine ⟨h.k,h.f.mono (λ_ _ x=>Or.inl x),fZ,A,λ_ _=>rfl,?_,Or.inl rfl,λ t ht=>by cases ht⟩
 simp only [List.map_nil,List.append_nil]
 exact ⟨hb.k.fr h.f hne,bO hb.row (λ k hk=>h.f.block k (hb.row.lt k hk).2 (λ x=>hrw (by unfold PB at x; rw [<-x]; exact hk))),hb.lt⟩
theorem Ex {s:ByteArray} {n:Nat} (hV:AO s n) (hs:s.size<=2000000) {w:World} {rb bv B0:Nat} {d:dO} {fZ:Value} {xs:List Value} {p:Nat} {rt:Value} (A:Nat->Nat) {dp:Nat}
 (hn:2 * (s.size - p)+1<=n) (hp:p<=s.size) (rR:dp<=8) (rO:d.path.length<=dp * 10000000) (hxl:xs.length<=s.size) (hr:ay w rb (yG s p 0 rt) 161) (hb:J0 bv B0 d fZ xs w) (hk:d.kind=5) (hne:bv≠rb) (hrw:fZ.ownBlock≠some rb) (hB:B0<=w.heap.size) :
 Calls Tryz.prog 170 #[.pointer (some ⟨rb,0,none⟩),.pointer (some ⟨bv,0,none⟩),.int .i64 ((dp+1:Nat):Int)] w λ r w' =>
  r=.returned (.tuple #[])/\vP w rb bv B0 d fZ xs s p rt A dp (sF (bs s) n dp d.path p) w':=by
 obtain ⟨a0,c0,rfl⟩:=ah hb.row
 obtain ⟨T,hT⟩:∃T,T=aP (bs s) p:=⟨_,rfl⟩
 have XF:=lJ (s:=bs s) (i:=p) (by rw [an]; exact hp)
 have Y_:=JT (s:=bs s) (i:=p)
 rw [<-hT,an] at XF
 rw [<-hT,an] at Y_
 have OD:Hid (∀w0 w,RR rb s w0 p 0 rt w->Calls Tryz.prog 126 #[.pointer (some ⟨rb,0,none⟩)] w λ r w'=>r=.returned (.string (sb T.t))/\RR rb s w0 T.p T.e rt w'):=λ w0 w h=>by rw [hT]; exact JY h (by omega)
 have nA:s.size<=4000000:=by omega
 have R0:Hid (RR rb s w p 0 rt w):=⟨hr,Fr.refl _ _⟩
 have HB:=aa hb
 by_cases he:T.e=0
 ·obtain ⟨m,hm⟩:∃m,m=sk (bs s) T.p:=⟨_,rfl⟩
  have hml:m<=s.size:=by rw [hm,<-an s]; exact ir (by rw [an]; exact XF.2.1)
  have hmg:T.p<=m:=by rw [hm]; exact fV _ _
  by_cases oQ:bt (bs s) m=58
  ·have RQ:m<s.size:=SY oQ (by decide)
   have eR:sF (bs s) n dp d.path p=rd (bs s) n false (dp+1) T.t (d.path++[91]++iV T.t++[93]) 5 (m+1) []:=by
    unfold sF
    rw [<-hT,if_neg (by simpa using he),<-hm,if_pos oQ]
   rw [eR]
   have e1:dJ (bs s) m 0 58=m+1:=by simp [dJ,oQ]
   have e2:dK (bs s) m 0 58=0:=by simp [dK,oQ]
   have E1:=aa e1
   have E2:=aa e2
   have HE:=aa he
   have HM:=aa hm
   have XG:=J3 T.t
   have hz1:(sb d.path).size<=80000000:=by rw [gT]; omega
   have dN:(sb (iV T.t)).size<=4000002:=by rw [gT]; omega
   obtain ⟨P,hP⟩:∃P,P=sb d.path:=⟨_,rfl⟩
   obtain ⟨Q,hQ⟩:∃Q,Q=sb (iV T.t):=⟨_,rfl⟩
   obtain ⟨N,hN⟩:∃N,N=sb T.t:=⟨_,rfl⟩
   have HQ:Hid (∀w,Calls Tryz.prog 218 #[.string N] w λ r w'=>r=.returned (.string Q)/\Below w.heap.size w w'):=λ w=>by
    rw [hQ,hN]
    have:=JX (w:=w) (s:=sb T.t) (by rw [gT]; omega)
    rw [yJ] at this
    exact this
   have Y9:P++⟨#[91]⟩++Q++⟨#[93]⟩=sb (d.path++[91]++iV T.t++[93]):=by
    show P++sb [91]++Q++sb [93]=_
    rw [hP,hQ,bX,bX,bX]
   have HC:Hid (∀w3 w4,RR rb s w (m+1) 0 rt w3->Below w3.heap.size w3 w4->Calls Tryz.prog 97 #[.pointer (some ⟨rb,0,none⟩),.pointer (some ⟨bv,0,none⟩),.pointer (some ⟨w4.heap.size,0,none⟩),.int .i64 ((dp:Int)+1)] (w4.alloc (.cells #[.int .i64 0,.int .i64 0,.string ⟨#[]⟩,.string N,.string (P++⟨#[91]⟩++Q++⟨#[93]⟩),.int .i64 0,.int .i64 0,.int .i64 (-1),.slice none 0 0] 195)) λ r w' =>
    r=.returned (.tuple #[])/\vP w rb bv B0 d (.slice a0 xs.length c0) xs s p rt A dp (rd (bs s) n false (dp+1) T.t (d.path++[91]++iV T.t++[93]) 5 (m+1) []) w'):=λ w3 w4 h3 Pg=>by
    rw [Y9,hN]
    have f4:Fr (λ k=>k=rb) w w4:=h3.f.trans (Fr.aL Pg)
    have hr4:ay w4 rb (yG s (m+1) 0 rt) 161:=h3.k.fr (Fr.aL (K:=λ_=>False) Pg) id
    have BF:J0 bv B0 d (.slice a0 xs.length c0) xs w4:=⟨hb.k.fr f4 hne,bO hb.row (λ k hk=>f4.block k (hb.row.lt k hk).2 (λ x=>hrw (by rw [<-x]; exact hk))),hb.lt⟩
    have h2:=yL (w:=w4) hV A (p:=m+1) (by omega) (by omega) rR hxl hr4 BF (Or.inr hk) hne hrw (Nat.le_trans hB f4.size) T.t (d.path++[91]++iV T.t++[93]) (by simp; omega)
    rw [hk] at h2
    exact h2.mono (λ r w' ⟨e,h⟩=>⟨e,h.base f4 (by omega)⟩)
   rw [<-hP] at hz1
   rw [<-hQ] at dN
   rw [<-hN] at OD
   have Ls:(P++⟨#[91]⟩).size<=80000001:=by rw [ByteArray.size_append]; show P.size+1<=_; omega
   have Fg:(P++⟨#[91]⟩++Q).size<=84000003:=by rw [ByteArray.size_append]; omega
   have HP4:Hid (∀W,Fr (λ k=>k=rb) w W->W.cell? ⟨bv,4,none⟩=some (.string P)):=λ W f=>by
    rw [f.cell (p:=⟨bv,4,none⟩) hb.k.lt hne,hP]
    exact hb.k.cell 4
   clear eR hT XF Y_ hb hr e1 e2 he hm oQ hP hQ hN Y9 XG hV
   go_enter Tryz.func170,Tryz.ntmps170
   go_wp2_with fail
   refine (OD.out _ _ R0.out).mono ?_
   rintro r w1 ⟨rfl,h1⟩
   rw [HE.out] at h1
   have R1:=aa h1
   clear h1
   go_wp2_with fail
   refine (dL R1.out nA).mono ?_
   rintro r w2 ⟨rfl,j,hj,h2⟩
   have ny:j=m:=by rw [<-hj.eq,HM.out]
   subst ny
   have R2:=aa h2
   clear h2 hj
   go_wp2_with fail
   refine (jz R2.out nA 58 _ rfl (by decide)).mono ?_
   rintro r w3 ⟨rfl,h3⟩
   rw [E1.out,E2.out] at h3
   have R3:=aa h3
   have c2:w3.cell? ⟨rb,2,none⟩=some (.int .i64 0):=h3.c2
   have c4:w3.cell? ⟨bv,4,none⟩=some (.string P):=HP4.out _ h3.f
   clear h3
   go_wp2_with fail
   go_region_with (go_at_call 218; refine (HQ.out _).mono ?_; rintro r w4 ⟨rfl,Pg⟩; have c4':w4.cell? ⟨bv,4,none⟩=some (.string P):=HP4.out _ (R3.out.f.drew.trans (Fr.aL Pg)))
   all_goals
    go_wp2_with fail
    refine (HC.out w3 w4 R3.out (Fr.below (((Fr.refl (λ_=>False) w3).drew).trans (Fr.aL Pg)))).mono ?_
    rintro r w5 ⟨rfl,h5⟩
    have H5:=aa h5
    clear h5
    go_wp2
    go_end0
    exact ⟨rfl,H5.out⟩
  have eR:sF (bs s) n dp d.path p=⟨[],2,m⟩:=by
   unfold sF
   rw [<-hT,if_neg (by simpa using he),<-hm,if_neg oQ]
  rw [eR]
  have e1:dJ (bs s) m 0 58=m:=by simp [dJ,oQ]
  have e2:dK (bs s) m 0 58=2:=by simp [dK,oQ]
  have E1:=aa e1
  have E2:=aa e2
  have HE:=aa he
  have HM:=aa hm
  clear eR hT XF Y_ hb hr e1 e2 he hm oQ
  go_enter Tryz.func170,Tryz.ntmps170
  go_wp2_with fail
  refine (OD.out _ _ R0.out).mono ?_
  rintro r w1 ⟨rfl,h1⟩
  rw [HE.out] at h1
  have R1:=aa h1
  clear h1
  go_wp2_with fail
  refine (dL R1.out nA).mono ?_
  rintro r w2 ⟨rfl,j,hj,h2⟩
  have ny:j=m:=by rw [<-hj.eq,HM.out]
  subst ny
  have R2:=aa h2
  clear h2 hj
  go_wp2_with fail
  refine (jz R2.out nA 58 _ rfl (by decide)).mono ?_
  rintro r w3 ⟨rfl,h3⟩
  rw [E1.out,E2.out] at h3
  have R3:=aa h3
  have c2:w3.cell? ⟨rb,2,none⟩=some (.int .i64 2):=h3.c2
  clear h3
  go_wp2
  (try simp only [Exit.inBlock,Exit.then]); refine bodyPost_ret (results_none rfl _ _ _) rfl ?_
  exact ⟨rfl,vP.none R3.out HB.out hne hrw⟩
 have eR:sF (bs s) n dp d.path p=⟨[],T.e,T.p⟩:=by
  unfold sF
  rw [<-hT,if_pos (by simpa using he)]
 rw [eR]
 have e1:dJ (bs s) T.p T.e 58=T.p:=by simp [dJ,he]
 have e2:dK (bs s) T.p T.e 58=T.e:=by simp [dK,he]
 have E1:=aa e1
 have E2:=aa e2
 have Lc:((T.e:Int) != 0)=true:=by rw [bne_iff_ne]; omega
 have HN:=aa he
 clear eR hT XF Y_ hb hr e1 e2 he
 go_enter Tryz.func170,Tryz.ntmps170
 go_wp2_with fail
 refine (OD.out _ _ R0.out).mono ?_
 rintro r w1 ⟨rfl,h1⟩
 have R1:=aa h1
 clear h1
 go_wp2_with fail
 refine (ow R1.out HN.out).mono ?_
 rintro r w2 ⟨rfl,h2⟩
 have R2:=aa h2
 clear h2
 go_wp2_with fail
 refine (jz R2.out nA 58 _ rfl (by decide)).mono ?_
 rintro r w3 ⟨rfl,h3⟩
 rw [E1.out,E2.out] at h3
 have R3:=aa h3
 have c2:w3.cell? ⟨rb,2,none⟩=some (.int .i64 (T.e:Nat)):=h3.c2
 clear h3
 go_wp2
 (try simp only [Exit.inBlock,Exit.then]); refine bodyPost_ret (results_none rfl _ _ _) rfl ?_
 exact ⟨rfl,vP.none R3.out HB.out hne hrw⟩
structure vC (w:World) (rb bv:Nat) (d:dO) (s:ByteArray) (rt:Value) (A0:Nat->Nat) (dp j:Nat) (i e:Nat) (ws:List Tv) (fZ:Value) (A:Nat->Nat) (wr:World):Prop where
 r:ay wr rb (yG s i e rt) 161
 b:J0 bv w.heap.size d fZ (ws.map (dM A)) wr
 f:Fr (λ q=>q=rb\/q=bv) w wr
 a:∀f,f<j+1->A f=A0 f
 t:∀c ∈ ws,RT wr A (λ q=>w.heap.size<=q/\q<wr.heap.size/\fZ.ownBlock≠some q) i (9 - dp) c
theorem vC.step {w:World} {rb bv:Nat} {d:dO} {s:ByteArray} {rt:Value} {A0:Nat->Nat} {dp j i e i' e':Nat} {ws:List Tv} {fZ:Value} {A:Nat->Nat} {wr w2:World} (h:vC w rb bv d s rt A0 dp j i e ws fZ A wr) (k:RR rb s wr i' e' rt w2) (hne:bv≠rb) (hrb:rb<w.heap.size) (hi:i<=i') :
 vC w rb bv d s rt A0 dp j i' e' ws fZ A w2:=by
 have hb:∀q,w.heap.size<=q->q<wr.heap.size->w2.heap[q]?=wr.heap[q]?:=λ q h1 h2=>k.f.block q h2 (λ x=>by unfold PB at x; omega)
 refine ⟨k.k,⟨h.b.k.fr k.f hne,bO h.b.row (λ q hq=>hb q (h.b.row.lt q hq).1 (h.b.row.lt q hq).2),h.b.lt⟩,h.f.trans (k.f.mono (λ_ _ x=>Or.inl x)),h.a,λ c hc=>?_⟩
 have h1:=RT.keep (w':=w2) (λ q hq=>hb q hq.1 hq.2.1) _ _ (h.t c hc)
 exact RT.mono (λ q hq=>⟨hq.1,Nat.lt_of_lt_of_le hq.2.1 k.f.size,hq.2.2⟩) hi _ _ h1
theorem vC.item {w:World} {rb bv:Nat} {d:dO} {s:ByteArray} {rt:Value} {A0:Nat->Nat} {dp j i:Nat} {ws:List Tv} {fZ:Value} {A:Nat->Nat} {wr w2:World} {R:Rs} (h:vC w rb bv d s rt A0 dp j i 0 ws fZ A wr)
 (k:vP wr rb bv w.heap.size d fZ (ws.map (dM A)) s i rt A dp R w2) (hrb:rb<w.heap.size) (PK:bv<w.heap.size) (hji:j+1<=i) (hi:i<=R.p) :
 ∃J2 A',vC w rb bv d s rt A0 dp j R.p R.e (ws++R.ws) J2 A' w2:=by
 obtain ⟨jG,A',hA,hI,hM,hT⟩:=k.h
 have hrow:∀q,fZ.ownBlock=some q->w.heap.size<=q/\q<wr.heap.size:=λ q hq=>h.b.row.lt q hq
 have hf:Fr (λ q=>q=rb\/q=bv) w w2:=h.f.new k.f (by
  rintro q hq (x | x | x)
  ·exact Or.inl x
  ·exact Or.inr x
  have:=(hrow q x).1; omega)
 have hmap:ws.map (dM A')=ws.map (dM A):=List.map_congr_left (λ c hc=>by
  have:=(h.t c hc).ai
  unfold dM
  rw [hA _ this])
 refine ⟨jG,A',k.r,?_,hf,λ f hfj=>(hA f (by omega)).trans (h.a f hfj),λ c hc=>?_⟩
 ·rw [List.map_append,hmap]; exact hI
 rcases List.mem_append.1 hc with hc | hc
 ·have h1:=RT.keep (w':=w2) (λ q hq=>k.f.block q hq.2.1 (by
   rintro (x | x | x)
   ·have:=hq.1; omega
   ·have:=hq.1; omega
   exact hq.2.2 x)) _ _ (h.t c hc)
  have h2:=RT.adr (A':=A') (λ f hf=>hA f hf) _ _ h1
  refine RT.mono (λ q hq=>⟨hq.1,Nat.lt_of_lt_of_le hq.2.1 k.f.size,?_⟩) hi _ _ h2
  rcases hM with x | ⟨g,x1,x2,x3⟩
  ·rw [x]; exact hq.2.2
  rw [x1]; intro e; injection e with e; have:=hq.2.1; omega
 exact RT.mono (λ q hq=>⟨Nat.le_trans h.f.size hq.1,hq.2⟩) (Nat.le_refl _) _ _ (hT c hc)
def kD (d:dO) (R:Rs):dO:={ d with to:=if R.e=0 then R.p else d.to,cl:=if R.e=0 then (R.p:Int) - 1 else d.cl }
structure XH (w:World) (rb bv:Nat) (d:dO) (s:ByteArray) (rt:Value) (A0:Nat->Nat) (dp j:Nat) (R:Rs) (w':World):Prop where
 r:ay w' rb (yG s R.p R.e rt) 161
 f:Fr (λ q=>q=rb\/q=bv) w w'
 h:∃fZ A,(∀f,f<j+1->A f=A0 f)/\ay w' bv (rH (kD d R) fZ) 195/\(∀q,fZ.ownBlock=some q->w.heap.size<=q/\q<w'.heap.size)/\w'.ownsRow 0 159 1 fZ R.ws.length (R.ws.map (dM A)) /\
  ∀c ∈ R.ws,RT w' A (λ q=>w.heap.size<=q/\q<w'.heap.size) R.p (9 - dp) c
theorem vC.bad {w:World} {rb bv:Nat} {d:dO} {s:ByteArray} {rt:Value} {A0:Nat->Nat} {dp j:Nat} {R:Rs} {fZ:Value} {A:Nat->Nat} {wr:World} (h:vC w rb bv d s rt A0 dp j R.p R.e R.ws fZ A wr) (he:R.e≠0):XH w rb bv d s rt A0 dp j R wr:=by
 have e1:kD d R=d:=by unfold kD; rw [if_neg he,if_neg he]
 refine ⟨h.r,h.f,fZ,A,h.a,by rw [e1]; exact h.b.k,λ q hq=>h.b.row.lt q hq,?_,λ c hc=>RT.mono (λ q hq=>⟨hq.1,hq.2.1⟩) (Nat.le_refl _) _ _ (h.t c hc)⟩
 have:=iG h.b.row
 rw [List.length_map] at this
 exact this
theorem vC.good {w:World} {rb bv:Nat} {d:dO} {s:ByteArray} {rt:Value} {A0:Nat->Nat} {dp j:Nat} {R:Rs} {fZ:Value} {A:Nat->Nat} {wr:World} (h:vC w rb bv d s rt A0 dp j R.p R.e R.ws fZ A wr) (he:R.e=0) (hne:bv≠rb) (PK:bv<w.heap.size) :
 XH w rb bv d s rt A0 dp j R ((wr.setCell ⟨bv,6,none⟩ (.int .i64 (R.p:Nat))).setCell ⟨bv,7,none⟩ (.int .i64 ((R.p:Int) - 1))):=by
 have f2:Fr (λ q=>q=bv) wr ((wr.setCell ⟨bv,6,none⟩ (.int .i64 (R.p:Nat))).setCell ⟨bv,7,none⟩ (.int .i64 ((R.p:Int) - 1))) :=
  ((Fr.refl (λ q=>q=bv) wr).setCell ⟨bv,6,none⟩ (Or.inl rfl) _).setCell ⟨bv,7,none⟩ (Or.inl rfl) _
 have hb:∀q,w.heap.size<=q->q<wr.heap.size->((wr.setCell ⟨bv,6,none⟩ (.int .i64 (R.p:Nat))).setCell ⟨bv,7,none⟩ (.int .i64 ((R.p:Int) - 1))).heap[q]?=wr.heap[q]?:=λ q h1 h2=>f2.block q h2 (by omega)
 have hsz:((wr.setCell ⟨bv,6,none⟩ (.int .i64 (R.p:Nat))).setCell ⟨bv,7,none⟩ (.int .i64 ((R.p:Int) - 1))).heap.size=wr.heap.size:=by simp [World.setCell]
 have e1:kD d R={ d with to:=R.p,cl:=(R.p:Int) - 1 }:=by unfold kD; rw [if_pos he,if_pos he]
 refine ⟨h.r.fr f2 (λ e=>hne e.symm),h.f.trans (f2.mono (λ_ _ x=>Or.inr x)),fZ,A,h.a,?_,λ q hq=>by rw [hsz]; exact h.b.row.lt q hq,?_,λ c hc=>?_⟩
 ·rw [e1]; exact (h.b.k.set 6 _).set 7 _
 ·have:=iG (bO h.b.row (λ q hq=>hb q (h.b.row.lt q hq).1 (h.b.row.lt q hq).2))
  rw [List.length_map] at this
  exact this
 have h1:=RT.keep (λ q hq=>hb q hq.1 hq.2.1) _ _ (h.t c hc)
 exact RT.mono (λ q hq=>⟨hq.1,by rw [hsz]; exact hq.2.1⟩) (Nat.le_refl _) _ _ h1
end Go.Proofs.YtcbadebjpogmlaaGreatDoor
