import Derived.Test.YtcbadebjpogmlaaGreatDoorVsRqA
import Derived.Test.YtcbadebjpogmlaaGreatDoorVsRefF
import Derived.Test.YtcbadebjpogmlaaGreatDoorVsTyH
set_option maxHeartbeats 4000000
set_option maxRecDepth 100000
namespace Go.Proofs.YtcbadebjpogmlaaGreatDoor
open Go.RowKit Tr
def Az (k:Nat) (s:List UInt8) (t t':St) (g z:Nat) (w:World):Prop :=
 ∃D φ m,t'=tP t m/\0<m/\Ft D z w/\fR D w (λ w=>oW w g φ)/\∀N φ0,4 * m+1+k<=N->pC s N k t.p φ0=⟨φ,t.p+m⟩
def AA (k:Nat) (b:Nat) (s:ByteArray) (q c:Nat) (o:List UInt8) (n:Nat) (t:St) (w:World) (r:Ending) (w':World):Prop :=
 ∃g t',r=.returned (.pointer (some ⟨g,0,none⟩))/\Rd b s w t' w'/\Ok (bs s) q c 18 o n t'/\(t'.e=0->(1<=k->bt (bs s) t'.p≠38)/\(2<=k->bt (bs s) t'.p≠124))/\(bz (bs s)->Az k (bs s) t t' g w.heap.size w')
def DB (m:Nat):Prop:=∀(w:World) (b:Nat) (s:ByteArray) (t:St) (q c n:Nat) (o:List UInt8),aZ w b s t->s.size<=120->Ok (bs s) q c 10 o n t->o.length=n->n<=6->s.size - t.p<=m ->
 Calls Tryz.prog 215 #[.pointer (some ⟨b,0,none⟩)] w (AA 0 b s q c o n t w)
def DA (m:Nat):Prop:=∀(w:World) (b:Nat) (s:ByteArray) (t:St) (q c n:Nat) (o:List UInt8),aZ w b s t->s.size<=120->Ok (bs s) q c 10 o n t->o.length=n->n<=6->bD o=o->s.size - t.p<=m ->
 Calls Tryz.prog 167 #[.pointer (some ⟨b,0,none⟩)] w (AA 1 b s q c o n t w)
def DO (m:Nat):Prop:=∀(w:World) (b:Nat) (s:ByteArray) (t:St) (q c n:Nat) (o:List UInt8),aZ w b s t->s.size<=120->Ok (bs s) q c 10 o n t->o.length=n->n<=6->bD o=o->s.size - t.p<=m ->
 Calls Tryz.prog 119 #[.pointer (some ⟨b,0,none⟩)] w (AA 2 b s q c o n t w)
theorem MY {w:World} {base gb ga:Nat} {D1:Nat->Prop} {φ1:Tv->Bool} (hb:ay w gb #[.int .i64 13,.pointer (some ⟨ga,0,none⟩),.pointer none,.slice none 0 0,.pointer none] 249) (h1:base<=gb) (f1:Ft D1 base w) (o1:fR D1 w (λ w=>oW w ga φ1)) :
 Ft (λ k=>D1 k\/k=gb) base w/\fR (λ k=>D1 k\/k=gb) w (λ w=>oW w gb (λ t=>!(φ1 t))) :=
 ⟨f1.or (Ft.one hb (by decide) h1),λ w' s A D hi n t ht=>MZ (hb.sm s (Or.inr rfl)) (o1 w' (λ k hk=>s k (Or.inl hk)) A D hi n t ht)⟩
theorem Pu {b:Nat} {s:ByteArray} {D:Nat->Prop} {base:Nat} {w w':World} {t:St} (ft:Ft D base w) (r:Rd b s w t w') (hb:b<base):Sm D w w':=Sm.fr ft r.f (λ k hk e=>by unfold PB at e; omega)
theorem iP {D:Nat->Prop} {base:Nat} {w:World} (ft:Ft D base w) (o:Obj):Sm D w (w.alloc o):=Sm.fr (K:=λ_=>False) ft ((Fr.refl _ w).alloc o) (λ_ _ x=>x)
theorem SB {D:Nat->Prop} {base:Nat} {w:World} (ft:Ft D base w) {b:Nat} (hb:b<base) (i:Nat) (v:Value):Sm D w (w.setCell ⟨b,i,none⟩ v):=λ k hk=>Below.heap_setCell _ _ _ _ (λ e=>by have e2:k=b:=e; have:=ft.ge k hk; omega)
theorem Az.sm {k:Nat} {s:List UInt8} {t t':St} {g z:Nat} {w w':World} (h:Az k s t t' g z w) (hs:∀D,Ft D z w->Sm D w w'):Az k s t t' g z w':=by
 obtain ⟨D,φ,m,e,h1,h2,h3,h4⟩:=h
 exact ⟨D,φ,m,e,h1,h2.keep (hs D h2),h3.keep (hs D h2),h4⟩
def Jy (k:Nat) (s:List UInt8) (t u:St) (g z:Nat) (w:World):Prop :=
 ∃D φ m j,u=tP t m/\0<m/\j<=m/\Ft D z w/\fR D w (λ w=>oW w g φ)/\∀N φ0,4 * m+1+k<=N->pC s N k t.p φ0=pC s (N - 1 - j) (k+2) u.p φ
theorem Jy.rd {k:Nat} {s:List UInt8} {t u:St} {g z:Nat} {w w':World} (h:Jy k s t u g z w) {b:Nat} {s':ByteArray} {u':St} (r:Rd b s' w u' w') (hb:b<z):Jy k s t u g z w':=by
 obtain ⟨D,φ,m,j,e,h1,h2,h3,h4,h5⟩:=h
 have S:=Pu h3 r hb
 exact ⟨D,φ,m,j,e,h1,h2,h3.keep S,h4.keep S,h5⟩
theorem Az.start {k:Nat} {s:List UInt8} {t u:St} {g z:Nat} {w:World} (h:Az k s t u g z w) (hp:∀N φ,pC s (N+1) (k+1) t.p φ=pC s N (k+1+2) (pC s N k t.p φ).p (pC s N k t.p φ).v):Jy (k+1) s t u g z w:=by
 obtain ⟨D,φ,m,rfl,h1,h2,h3,h4⟩:=h
 refine ⟨D,φ,m,0,rfl,h1,Nat.zero_le _,h2,h3,λ N φ0 hN=>?_⟩
 rw [show N=(N - 1)+1 by omega,hp,h4 _ _ (by omega)]
 rfl
theorem Jy.done {k:Nat} {s:List UInt8} {t u:St} {g z:Nat} {w:World} (h:Jy k s t u g z w) (hp:∀N φ,pC s (N+1) (k+2) u.p φ=⟨φ,u.p⟩):Az k s t u g z w:=by
 obtain ⟨D,φ,m,j,rfl,h1,h2,h3,h4,h5⟩:=h
 refine ⟨D,φ,m,rfl,h1,h3,h4,λ N φ0 hN=>?_⟩
 rw [h5 N φ0 hN,show N - 1 - j=(N - 2 - j)+1 by omega,hp]
theorem Jy.next {k:Nat} {s:List UInt8} {t u u3 u4:St} {g g4 z z4:Nat} {w:World} {y:Int} {op:Bool->Bool->Bool} (h:Jy (k+1) s t u g z w) (h4:Az k s u3 u4 g4 z4 w) (e3:u3=tP u 2) (hz4:z<=z4) (hz:z<=w.heap.size)
 (hp:∀N φ,pC s (N+1) (k+1+2) u.p φ=pC s N (k+1+2) (pC s N k (u.p+2) φ).p (λ t=>op (φ t) ((pC s N k (u.p+2) φ).v t)))
 (hm:∀{w:World} {A:Nat->Nat} {b ba bb:Nat} {mx my:Bool} {t:Tv} {sl wp:Value},ay w b #[.int .i64 y,.pointer (some ⟨ba,0,none⟩),.pointer (some ⟨bb,0,none⟩),sl,wp] 249->ju w A ba t mx->ju w A bb t my->ju w A b t (op mx my)) :
 Jy (k+1) s t u4 w.heap.size z (w.alloc (.cells #[.int .i64 y,.pointer (some ⟨g,0,none⟩),.pointer (some ⟨g4,0,none⟩),.slice none 0 0,.pointer none] 249)):=by
 obtain ⟨D,φ,m,j,rfl,h1,h2,h3,h5,h6⟩:=h
 obtain ⟨D4,φ4,m4,rfl,p4,f4,o4,c4⟩:=h4
 subst e3
 have BN:=ay.new w #[.int .i64 y,.pointer (some ⟨g,0,none⟩),.pointer (some ⟨g4,0,none⟩),.slice none 0 0,.pointer none] 249
 have f4:=f4.low hz4
 have s1:=iP h3 (.cells #[.int .i64 y,.pointer (some ⟨g,0,none⟩),.pointer (some ⟨g4,0,none⟩),.slice none 0 0,.pointer none] 249)
 have s2:=iP f4 (.cells #[.int .i64 y,.pointer (some ⟨g,0,none⟩),.pointer (some ⟨g4,0,none⟩),.slice none 0 0,.pointer none] 249)
 have o1:=h5.keep s1
 have o2:=o4.keep s2
 refine ⟨λ k=>(D k\/D4 k)\/k=w.heap.size,λ t=>op (φ t) (φ4 t),m+(2+m4),j+1,by rw [jP,jP],by omega,by omega,((h3.keep s1).or (f4.keep s2)).or (Ft.one BN (by decide) hz),λ w' s A D hi n t ht=>hm (BN.sm s (Or.inr rfl)) (o1 w' (λ k hk=>s k (Or.inl (Or.inl hk))) A D hi n t ht) (o2 w' (λ k hk=>s k (Or.inl (Or.inr hk))) A D hi n t ht),λ N φ0 hN=>?_⟩
 rw [h6 N φ0 (by omega),show N - 1 - j=(N - 1 - (j+1))+1 by omega,hp,c4 _ _ (by omega)]
theorem Pv {M:Nat} (hB:DB M):DA M:=by
 intro w b s t q c n o h hs hok Pw Ud hto hm
 have dy:=h.lt
 have HB:=aa hB
 have HR:=aa (Rd.same h)
 have HO:=aa hok
 have Xe:=aa hto
 have KA:=aa Pw
 clear h hok hto Pw hB
 go_enter Tryz.func167,Tryz.ntmps167
 go_wp2_with fail
 refine (HB.out w b s t (base (bs s) t) c n o HR.out.m hs HO.out.mine KA.out Ud hm).mono ?_
 rintro r v1 ⟨g1,u1,rfl,r1,o1,n1,d1⟩
 have R1:=aa r1
 have O1:=aa (HO.out.Ac o1)
 have N1:=aa n1
 have D1:=aa d1
 clear r1 o1 n1 d1
 go_wp2
 go_loopw [3,4,5] (λ cv _ _ wr=>∃g u,cv=.pointer (some ⟨g,0,none⟩)/\Rd b s w u wr/\Ok (bs s) q c 18 o n u/\(u.e=0->t.p<=u.p)/\(u.e=0->2<=1->bt (bs s) u.p≠38)/\(bz (bs s)->Jy 1 (bs s) t u g w.heap.size wr)) (λ_ _ _ wr=>kF b s.size wr)
 case atStart=>exact ⟨g1,u1,rfl,R1.out,O1.out.1,λ he=>(O1.out.2 he).2,λ_ y=>by omega,λ hf=>(D1.out hf).start (λ_ _=>pC1 _ _ _ _)⟩
 case round =>
  clear R1 O1 N1 D1
  obtain ⟨g,u,rfl,hr,ho,hp,hn,hd⟩:=hrel
  have R:=aa hr
  have O:=aa ho
  have HP:=aa hp
  have HN:=aa hn
  have HD:=aa hd
  clear hr ho hp hn hd
  go_wp2_with fail
  refine (dU R.out.m 38 38 rfl (by omega)).mono ?_
  rintro r v2 ⟨rfl,g2⟩
  have R2:=aa (R.out.trans g2)
  have D2:=aa (λ hf=>(HD.out hf).rd g2 dy)
  clear g2
  cases hb:aj (bs s) u 38
  ·have vn:Hid (AA 1 b s q c o n t w (.returned (.pointer (some ⟨g,0,none⟩))) v2):=by
    refine ⟨g,u,rfl,R2.out,O.out,λ he=>?_,λ hf=>?_⟩
    ·have hx:bt (bs s) u.p≠38:=by rw [aK he] at hb; simpa using hb
     exact ⟨λ_=>hx,λ y=>by omega⟩
    rw [aK (aA hf O.out).e0] at hb
    exact (D2.out hf).done (λ_ _=>by rw [pC3,if_neg (by simpa using hb)])
   clear hb
   go_wp2
   go_ret
   exact vn.out
  have HE:=aa (aE hb)
  have hup:t.p<=u.p:=HP.out (aE hb).1
  have O3:=aa (Hx Xe.out O.out hb)
  have E3:Hid (bz (bs s)->aN (bs s) u [38,38]=tP u 2):=aa (λ hf=>(gM (aA hf O3.out.1).e0).2.2)
  clear hb
  go_wp2_with fail
  refine (dS R2.out.m ⟨#[38,38]⟩ (by decide) hs).mono ?_
  rintro r v3 ⟨rfl,g3⟩
  rw [Sd] at g3
  have R3:=aa (R2.out.trans g3)
  have D3:=aa (λ hf=>(D2.out hf).rd g3 dy)
  have We:=vj (bs s) [38,38] u
  clear g3
  generalize aN (bs s) u [38,38]=u3 at *
  go_wp2_with fail
  refine (HB.out v3 b s u3 (base (bs s) u3) c n o R3.out.m hs O3.out.1.mine KA.out Ud (by omega)).mono ?_
  rintro r v4 ⟨g4,u4,rfl,r4,o4,n4,d4⟩
  have R4:=aa (R3.out.trans r4)
  have O4:=aa (O3.out.1.Ac o4)
  have N4:=aa n4
  have D4:=aa (λ hf=>((D3.out hf).rd r4 dy).next (y:=12) (d4 hf) (E3.out hf) R3.out.f.size R4.out.f.size (λ_ _=>by rw [pC3,if_pos HE.out.2]) M7)
  clear r4 o4 n4 d4
  go_wp2
  go_roundw
  case rel=>exact ⟨_,u4,rfl,R4.out.alloc _,O4.out.1,λ he=>by have h1:=(O4.out.2 he); have h2:=O3.out.2 h1.1; omega,λ_ y=>by omega,D4.out⟩
  case measure =>
   rw [R.out.m.kF,(R4.out.m.alloc _).kF,if_pos HE.out.1]
   have hle:=O.out.le
   rw [an] at hle
   split
   ·rename_i he
    have h1:=(O4.out.2 he)
    have h2:=O3.out.2 h1.1
    omega
   omega
theorem Xf {M:Nat} (hB:DA M):DO M:=by
 intro w b s t q c n o h hs hok Pw Ud hto hm
 have dy:=h.lt
 have HB:=aa hB
 have HR:=aa (Rd.same h)
 have HO:=aa hok
 have Xe:=aa hto
 have KA:=aa Pw
 clear h hok hto Pw hB
 go_enter Tryz.func119,Tryz.ntmps119
 go_wp2_with fail
 refine (HB.out w b s t (base (bs s) t) c n o HR.out.m hs HO.out.mine KA.out Ud Xe.out hm).mono ?_
 rintro r v1 ⟨g1,u1,rfl,r1,o1,n1,d1⟩
 have R1:=aa r1
 have O1:=aa (HO.out.Ac o1)
 have N1:=aa n1
 have D1:=aa d1
 clear r1 o1 n1 d1
 go_wp2
 go_loopw [3,4,5] (λ cv _ _ wr=>∃g u,cv=.pointer (some ⟨g,0,none⟩)/\Rd b s w u wr/\Ok (bs s) q c 18 o n u/\(u.e=0->t.p<=u.p)/\(u.e=0->2<=2->bt (bs s) u.p≠38)/\(bz (bs s)->Jy 2 (bs s) t u g w.heap.size wr)) (λ_ _ _ wr=>kF b s.size wr)
 case atStart=>exact ⟨g1,u1,rfl,R1.out,O1.out.1,λ he=>(O1.out.2 he).2,λ he _=>(N1.out he).1 (by omega),λ hf=>(D1.out hf).start (λ_ _=>pC2 _ _ _ _)⟩
 case round =>
  clear R1 O1 N1 D1
  obtain ⟨g,u,rfl,hr,ho,hp,hn,hd⟩:=hrel
  have R:=aa hr
  have O:=aa ho
  have HP:=aa hp
  have HN:=aa hn
  have HD:=aa hd
  clear hr ho hp hn hd
  go_wp2_with fail
  refine (dU R.out.m 124 124 rfl (by omega)).mono ?_
  rintro r v2 ⟨rfl,g2⟩
  have R2:=aa (R.out.trans g2)
  have D2:=aa (λ hf=>(HD.out hf).rd g2 dy)
  clear g2
  cases hb:aj (bs s) u 124
  ·have vn:Hid (AA 2 b s q c o n t w (.returned (.pointer (some ⟨g,0,none⟩))) v2):=by
    refine ⟨g,u,rfl,R2.out,O.out,λ he=>?_,λ hf=>?_⟩
    ·have hx:bt (bs s) u.p≠124:=by rw [aK he] at hb; simpa using hb
     exact ⟨λ_=>HN.out he (by omega),λ_=>hx⟩
    rw [aK (aA hf O.out).e0] at hb
    exact (D2.out hf).done (λ_ _=>by rw [pC4,if_neg (by simpa using hb)])
   clear hb
   go_wp2
   go_ret
   exact vn.out
  have HE:=aa (aE hb)
  have hup:t.p<=u.p:=HP.out (aE hb).1
  have O3:=aa (Pa Xe.out O.out hb)
  have E3:Hid (bz (bs s)->aN (bs s) u [124,124]=tP u 2):=aa (λ hf=>(gM (aA hf O3.out.1).e0).2.2)
  clear hb
  go_wp2_with fail
  refine (dS R2.out.m ⟨#[124,124]⟩ (by decide) hs).mono ?_
  rintro r v3 ⟨rfl,g3⟩
  rw [WU] at g3
  have R3:=aa (R2.out.trans g3)
  have D3:=aa (λ hf=>(D2.out hf).rd g3 dy)
  have We:=vj (bs s) [124,124] u
  clear g3
  generalize aN (bs s) u [124,124]=u3 at *
  go_wp2_with fail
  refine (HB.out v3 b s u3 (base (bs s) u3) c n o R3.out.m hs O3.out.1.mine KA.out Ud Xe.out (by omega)).mono ?_
  rintro r v4 ⟨g4,u4,rfl,r4,o4,n4,d4⟩
  have R4:=aa (R3.out.trans r4)
  have O4:=aa (O3.out.1.Ac o4)
  have N4:=aa n4
  have D4:=aa (λ hf=>((D3.out hf).rd r4 dy).next (y:=11) (d4 hf) (E3.out hf) R3.out.f.size R4.out.f.size (λ_ _=>by rw [pC4,if_pos HE.out.2]) SD)
  clear r4 o4 n4 d4
  go_wp2
  go_roundw
  case rel=>exact ⟨_,u4,rfl,R4.out.alloc _,O4.out.1,λ he=>by have h1:=(O4.out.2 he); have h2:=O3.out.2 h1.1; omega,λ he _=>(N4.out he).1 (by omega),D4.out⟩
  case measure =>
   rw [R.out.m.kF,(R4.out.m.alloc _).kF,if_pos HE.out.1]
   have hle:=O.out.le
   rw [an] at hle
   split
   ·rename_i he
    have h1:=(O4.out.2 he)
    have h2:=O3.out.2 h1.1
    omega
   omega
theorem M8 {s:List UInt8} {p m2:Nat} {φ:Tv->Bool} (hb:bt s p=33) (hp:∀N φ0,4 * m2+1+0<=N->pC s N 0 (p+1) φ0=⟨φ,p+1+m2⟩) (N:Nat) (φ0:Tv->Bool) (hN:4 * (1+m2)+1+0<=N):pC s N 0 p φ0=⟨λ t=>!(φ t),p+(1+m2)⟩:=by
 rw [show N=(N - 1)+1 by omega,pC0,if_pos hb,hp _ _ (by omega)]
 simp only
 rw [Nat.add_assoc]
theorem M9 {s:List UInt8} {p m2:Nat} {φ:Tv->Bool} (hb:bt s p=40) (hp:∀N φ0,4 * m2+1+2<=N->pC s N 2 (p+1) φ0=⟨φ,p+1+m2⟩) (N:Nat) (φ0:Tv->Bool) (hN:4 * (1+m2+1)+1+0<=N):pC s N 0 p φ0=⟨φ,p+(1+m2+1)⟩:=by
 rw [show N=(N - 1)+1 by omega,pC0,if_neg (by omega),if_pos hb,hp _ _ (by omega)]
 simp only
 rw [show p+1+m2+1=p+(1+m2+1) by omega]
theorem Az.not {s:List UInt8} {t u:St} {g z z4:Nat} {w:World} (h:Az 0 s { aG t with n:=t.n+1 } u g z4 w) (hb:bt s t.p=33) (hz:z<=z4) (hw:z<=w.heap.size):Az 0 s t { u with n:=t.n } w.heap.size z (w.alloc (.cells #[.int .i64 13,.pointer (some ⟨g,0,none⟩),.pointer none,.slice none 0 0,.pointer none] 249)):=by
 obtain ⟨D,φ,m,rfl,h1,h2,h3,h4⟩:=h
 have h2:=h2.low hz
 have s1:=iP h2 (.cells #[.int .i64 13,.pointer (some ⟨g,0,none⟩),.pointer none,.slice none 0 0,.pointer none] 249)
 obtain ⟨n1,n2⟩:=MY (ay.new w _ _) hw (h2.keep s1) (h3.keep s1)
 exact ⟨_,_,1+m,by show St.mk (t.p+1+m) t.e t.n=St.mk (t.p+(1+m)) t.e t.n; rw [Nat.add_assoc],by omega,n1,n2,M8 hb h4⟩
theorem Az.par {s:List UInt8} {t u:St} {g z:Nat} {w:World} (h:Az 2 s { aG t with n:=t.n+1 } u g z w) (hb:bt s t.p=40) (he:aN s u [41]=tP u 1):Az 0 s t { aN s u [41] with n:=t.n } g z w:=by
 rw [he]
 obtain ⟨D,φ,m,rfl,h1,h2,h3,h4⟩:=h
 exact ⟨_,_,1+m+1,by show St.mk (t.p+1+m+1) t.e t.n=St.mk (t.p+(1+m+1)) t.e t.n; rw [Nat.add_assoc,Nat.add_assoc t.p,Nat.add_assoc],by omega,h2,h3,M9 hb h4⟩
theorem Cu (M:Nat) (hI:M=0\/∃k,M=k+1/\DB k/\DO k):DB M:=by
 intro w b s t q c n o h hs hok Pw Ud hm
 have dy:=h.lt
 have hnn:=hok.nn
 have HR:=aa (Rd.same h)
 have HO:=aa hok
 have KA:=aa Pw
 have HI:=aa hI
 have Cv:=aa hnn
 clear h hok Pw hI hnn
 go_enter Tryz.func215,Tryz.ntmps215
 go_wp2_with fail
 refine (dU HR.out.m 33 33 rfl (by omega)).mono ?_
 rintro r v1 ⟨rfl,g1⟩
 have R1:=aa (HR.out.trans g1)
 clear g1
 go_wp2_with fail
 refine (dU R1.out.m 40 40 rfl (by omega)).mono ?_
 rintro r v2 ⟨rfl,g2⟩
 have R2:=aa (R1.out.trans g2)
 clear g2 R1 HR
 obtain ⟨x1,h1⟩:∃x,aj (bs s) t 33=x:=⟨_,rfl⟩
 obtain ⟨x2,h2⟩:∃x,aj (bs s) t 40=x:=⟨_,rfl⟩
 rw [h1,h2]
 have H1:=aa h1
 have H2:=aa h2
 clear h1 h2
 go_upto_region 3 with fail
 go_cut [16] from 11 (λ x wc=>x=.bool (!x1 && !x2)/\wc=v2)
 case first=>cases x1<;>cases x2<;>(go_wp2; go_meet; exact ⟨rfl,rfl⟩)
 case rest =>
 obtain ⟨rfl,hw⟩:=hcut
 have hw:=hw.symm
 subst hw
 have dN:w.heap.size<=v2.heap.size:=R2.out.f.size
 cases hx:!x1 && !x2
 ·have HX:Hid (∃x,(x=33\/x=40)/\aj (bs s) t x=true):=by
   cases x1
   ·cases x2
    ·cases hx
    exact ⟨40,Or.inr rfl,H2.out⟩
   exact ⟨33,Or.inl rfl,H1.out⟩
  clear hx
  have c3:=R2.out.m.c3
  by_cases hn:n=6
  ·have ht6:((t.n:Int) == 6)=true:=by rw [Cv.out,hn]; rfl
   have HD:Hid (Ok (bs s) q c 18 o n (wrong t 3)):=by
    obtain ⟨x,y1,y2⟩:=HX.out
    exact BK x y1 HO.out y2 (by rw [KA.out,hn])
   have HL:Hid (bz (bs s)->False):=λ hf=>by
    obtain ⟨x,y1,y2⟩:=HX.out
    have:=(aA hf HD.out).e0
    rw [dI (aE y2).1] at this
    cases this
   clear HX hn
   go_wp2_with fail
   refine (pT R2.out.m 3 3 rfl).mono ?_
   rintro r v3 ⟨rfl,g3⟩
   have R3:=aa (R2.out.trans g3)
   clear g3 c3
   go_wp2
   go_ret
   exact ⟨_,_,rfl,R3.out.alloc _,HD.out,λ_=>⟨λ y=>by omega,λ y=>by omega⟩,λ hf=>(HL.out hf).elim⟩
  have hlt:t.p+1<=s.size:=by
   obtain ⟨x,y1,y2⟩:=HX.out
   exact Aw y2 (by omega)
  obtain ⟨k,hk,hSB,hSO⟩:∃k,M=k+1/\DB k/\DO k:=by
   rcases HI.out with e | e
   ·omega
   exact e
  have HSB:=aa hSB
  have HSO:=aa hSO
  have hnt:t.n=n:=Cv.out
  have ht6:((t.n:Int) == 6)=false:=cU
  have hn7:(t.n:Int)<=5:=by omega
  have HN6:Hid (o.length≠6):=by have:=KA.out; unfold Hid; omega
  have c1:=R2.out.m.c1
  have f1:=R2.out.m.fz 1
  have f3:=R2.out.m.fz 3
  have R3:=aa (((R2.out.jD (t.p+1)).lZ (t.n+1)).alloc (.cells #[.int .i64 0,.pointer none,.pointer none,.slice none 0 0,.pointer none] 249))
  have Xg:=R3.out.f.size
  clear hSB hSO hnt
  go_upto_if 44 with fail
  go_cut [5,6] from 45 (λ x5 _ wc=>∃g u,x5=.pointer (some ⟨g,0,none⟩)/\Rd b s w u wc/\u.n=t.n+1/\Ok (bs s) q c 18 o t.n { u with n:=t.n }/\(bz (bs s)->Az 0 (bs s) t { u with n:=t.n } g w.heap.size wc))
  case first =>
   clear c3 c1 f1 f3
   cases x1
   ·cases x2
    ·obtain ⟨x,rfl | rfl,y⟩:=HX.out
     ·rw [H1.out] at y; cases y
     rw [H2.out] at y; cases y
    have HL:=aa ((nY 40 (Or.inr rfl) HO.out H2.out HN6.out).lZ (t.n+1))
    go_wp2_with fail
    refine (HSO.out _ b s { aG t with n:=t.n+1 } q c (t.n+1) (o++[40]) R3.out.m hs (Or.inl HL.out) (by rw [List.length_append,KA.out,Cv.out]; rfl) (by omega) (j7 o) (by simp only [aG]; omega)).mono ?_
    rintro r v4 ⟨g4,u4,rfl,r4,o4,n4,d4⟩
    have R4:=aa (R3.out.trans r4)
    have O4:=aa (xu o4 (λ he=>⟨(n4 he).1 (by omega),(n4 he).2 (by omega)⟩))
    have D4:=aa d4
    clear r4 o4 n4 d4
    go_wp2_with fail
    refine (dS R4.out.m ⟨#[41]⟩ (by decide) hs).mono ?_
    rintro r v5 ⟨rfl,g5⟩
    rw [Jm] at g5
    have R5:=aa (R4.out.trans g5)
    have D5:=aa (λ hf=>((D4.out hf).sm (λ D ft=>Pu ft g5 (by omega))).par (aE H2.out).2 ((gM (aA hf O4.out).e0).2.2))
    clear g5
    go_wp2
    go_meet
    exact ⟨g4,_,rfl,R5.out,O4.out.nn,O4.out.lZ t.n,λ hf=>by
     obtain ⟨D,φ,m,y1,y2,y3,y4⟩:=D5.out hf
     exact ⟨D,φ,m,y1,y2,y3.low Xg,y4⟩⟩
   have HL:=aa ((nY 33 (Or.inl rfl) HO.out H1.out HN6.out).lZ (t.n+1))
   go_wp2_with fail
   refine (HSB.out _ b s { aG t with n:=t.n+1 } q c (t.n+1) (o++[33]) R3.out.m hs (Or.inl HL.out) (by rw [List.length_append,KA.out,Cv.out]; rfl) (by omega) (by simp only [aG]; omega)).mono ?_
   rintro r v4 ⟨g4,u4,rfl,r4,o4,n4,d4⟩
   have R4:=aa (R3.out.trans r4)
   have O4:=aa (tj o4)
   have D4:=aa d4
   clear r4 o4 n4 d4
   go_wp2
   go_meet
   exact ⟨_,u4,rfl,R4.out.alloc _,O4.out.nn,O4.out.lZ t.n,λ hf=>(D4.out hf).not (aE H1.out).2 Xg R4.out.f.size⟩
  case rest =>
   obtain ⟨g,u,rfl,r5,n5,o5,d5⟩:=hcut
   have R5:=aa r5
   have D5:=aa d5
   have O5:=aa o5
   clear c3 c1 f1 f3 r5 d5 o5
   have c3:=R5.out.m.c3
   have f3:=R5.out.m.fz 3
   rw [n5] at c3
   have YB:wc.cell? ⟨b,3,none⟩=some (.int .i64 ((t.n:Int)+1)):=c3
   clear c3
   go_wp2
   go_ret
   exact ⟨g,{ u with n:=t.n },rfl,by simpa using R5.out.lZ t.n,by rw [<-Cv.out]; exact O5.out,λ_=>⟨λ y=>by omega,λ y=>by omega⟩,λ hf=>(D5.out hf).sm (λ D ft=>by simpa using SB ft dy 3 (.int .i64 (t.n:Nat)))⟩
 obtain ⟨rfl,rfl⟩:x1=false/\x2=false:=by cases x1<;>cases x2<;>simp at hx ⊢
 clear hx
 go_wp2_with fail
 refine (SA R2.out.m hs HO.out H1.out H2.out).mono ?_
 rintro r v3 ⟨g3,u3,rfl,r3,o3,d3⟩
 have vn:Hid (AA 0 b s q c o n t w (.returned (.pointer (some ⟨g3,0,none⟩))) v3):=by
  refine ⟨g3,u3,rfl,R2.out.trans r3,o3,λ_=>⟨λ y=>by omega,λ y=>by omega⟩,λ hf=>?_⟩
  obtain ⟨D3,φ3,m3,rfl,p3,ft3,ok3,pt3⟩:=d3 hf
  refine ⟨D3,φ3,m3,rfl,p3,ft3.low dN,ok3,λ N φ0 hN=>?_⟩
  have b1:=H1.out
  have b2:=H2.out
  rw [aK (aA hf HO.out).e0] at b1 b2
  simp only [beq_eq_false_iff_ne] at b1 b2
  rw [show N=(N - 1)+1 by omega,pC0,if_neg b1,if_neg b2,pt3]
 clear r3 o3 d3
 go_wp2
 go_ret
 exact vn.out
theorem Px:∀m,DB m/\DO m
 | 0=>by
  have h:=Cu 0 (Or.inl rfl)
  exact ⟨h,Xf (Pv h)⟩
 | m+1=>by
  have ⟨h1,h2⟩:=Px m
  have h:=Cu (m+1) (Or.inr ⟨m,rfl,h1,h2⟩)
  exact ⟨h,Xf (Pv h)⟩
theorem SE {w:World} {b:Nat} {s:ByteArray} {t:St} {q c:Nat} (h:aZ w b s t) (hs:s.size<=120) (hok:Ok (bs s) q c 10 [] 0 t) :
 Calls Tryz.prog 119 #[.pointer (some ⟨b,0,none⟩)] w (AA 2 b s q c [] 0 t w):=(Px (s.size - t.p)).2 w b s t q c 0 [] h hs hok rfl (by omega) rfl (Nat.le_refl _)
def WhC (x:b_) (bv:Value) (w:World):Prop:=x.sort=5->∃g,bv=.pointer (some ⟨g,0,none⟩)/\oW w g x.wh
def SlD (s:List UInt8) (t t':St) (z:Nat) (v:Value) (w':World):Prop :=
 ∃x pa m D,v=.agg (rz x (.pointer pa))/\t'=tP t m/\0<m/\bU s t.p=⟨x,t.p+m⟩/\(1<=x.sort/\x.sort<=5)/\(-1000<x.n/\x.n<1000)/\Ft D z w'/\fR D w' (WhC x (.pointer pa))
def SlP (b:Nat) (s:ByteArray) (q c:Nat) (t:St) (w:World) (r:Ending) (w':World):Prop :=
 ∃v t',r=.returned v/\abf v/\Rd b s w t' w'/\Ok (bs s) q c 9 [] 0 t'/\(bz (bs s)->SlD (bs s) t t' w.heap.size v w')
theorem pX {s:List UInt8} {t:St} {z:Nat} {w':World} {x:b_} {pa:Option Addr} {m:Nat} (hm:0<m) (hp:bU s t.p=⟨x,t.p+m⟩) (hs:1<=x.sort/\x.sort<=4) (hn:-1000<x.n/\x.n<1000):SlD s t (tP t m) z (.agg (rz x (.pointer pa))) w' :=
 ⟨x,pa,m,λ_=>False,rfl,rfl,hm,hp,⟨hs.1,by omega⟩,hn,Ft.none _ _,λ_ _ e=>by omega⟩
theorem ay.c6 {w:World} {g:Nat} {T:TypeId} {x0 x1 x2 x3 x4 x5:Value} (h:ay w g #[x0,x1,x2,x3,x4,x5] T):w.cell? ⟨g,0,none⟩=some x0/\w.cell? ⟨g,1,none⟩=some x1/\w.cell? ⟨g,2,none⟩=some x2/\w.cell? ⟨g,3,none⟩=some x3/\w.cell? ⟨g,4,none⟩=some x4/\w.cell? ⟨g,5,none⟩=some x5 :=
 ⟨h.cell 0,h.cell 1,h.cell 2,h.cell 3,h.cell 4,h.cell 5⟩
theorem abl {s:List UInt8} {t:St} (hb:aj s t 39=true) (he:(eU s t).e=0):∃m,eU s t=tP t (m+2)/\(aH s t 39).p=t.p+1/\(dH aO s 8 (aH s t 39)).p=t.p+1+m/\bT aO s (t.p+1)=t.p+1+m:=by
 obtain ⟨e0,vJ⟩:=aE hb
 obtain ⟨_,m,h1,h2,h3⟩:=BY e0 he
 have e1:aH s t 39=aG t:=by unfold aH; rw [if_pos hb]
 have r1:bT aO s (t.p+1)=t.p+1+m:=h3.ag IE (Ag.self s (t.p+1) m)
 refine ⟨m,h1,by rw [e1]; rfl,?_,r1⟩
 rw [e1]
 unfold eU at he h1
 rw [e1] at he h1
 obtain ⟨_,e5⟩:=jd he
 rw [e5] at h1
 have:(aG (dH aO s 8 (aG t))).p=(tP t (m+2)).p:=by rw [h1]
 simp only [aG] at this ⊢
 omega
theorem M_ {s:List UInt8} {t:St} (hb:aj s t 42=true):bU s t.p=⟨⟨1,[],0,0,0,λ_=>false⟩,t.p+1⟩:=by
 unfold bU; rw [if_pos (aE hb).2]
theorem Jz {s:List UInt8} {t:St} {a b m:Nat} (hb:aj s t 39=true) (h1:a=t.p+1) (h2:b=t.p+1+m) (h3:bT aO s (t.p+1)=t.p+1+m):bU s t.p=⟨⟨2,sub s a b,0,0,0,λ_=>false⟩,t.p+(m+2)⟩:=by
 have:=(aE hb).2
 unfold bU; rw [if_neg (by omega),if_pos this,h3,h1,h2,show t.p+1+m+1=t.p+(m+2) by omega]
theorem JA {s:List UInt8} {t:St} {φ:Tv->Bool} {m:Nat} (hb:aj s t 63=true) (hle:t.p+1+m<=s.length) (hp:∀N φ0,4 * m+1+2<=N->pC s N 2 (t.p+1) φ0=⟨φ,t.p+1+m⟩):bU s t.p=⟨⟨5,[],0,0,0,φ⟩,t.p+(1+m)⟩:=by
 have:=(aE hb).2
 unfold bU; rw [if_neg (by omega),if_neg (by omega),if_neg (by omega),if_pos this,hp _ _ (by omega),Nat.add_assoc]
theorem JB {s:List UInt8} {t:St} {m:Nat} (hb:bt s t.p=45) (h:bT af s (t.p+1)=t.p+m):bU s t.p=⟨⟨3,[],-(bY s (t.p+1) (t.p+m):Int),0,0,λ_=>false⟩,t.p+m⟩:=by
 unfold bU; rw [if_neg (by omega),if_neg (by omega),if_pos hb,h]
theorem JC {s:List UInt8} {t:St} {m:Nat} (h1:bt s t.p≠42) (h2:bt s t.p≠39) (h3:bt s t.p≠63) (h4:bt s t.p≠45) (h:bT af s t.p=t.p+m) (h5:bt s (t.p+m)≠58):bU s t.p=⟨⟨3,[],(bY s t.p (t.p+m):Int),0,0,λ_=>false⟩,t.p+m⟩:=by
 unfold bU; rw [if_neg h1,if_neg h2,if_neg h4,if_neg h3,h,if_neg h5]
theorem Ec {s:List UInt8} {t:St} {m:Nat} (h1:bt s t.p≠42) (h2:bt s t.p≠39) (h3:bt s t.p≠63) (h4:bt s t.p≠45) (h:bT af s t.p=t.p+m) (h5:bt s (t.p+m)=58) (h6:af (bt s (t.p+m+1))=false):bU s t.p=⟨⟨4,[],0,(bY s t.p (t.p+m):Int),-1,λ_=>false⟩,t.p+(m+1)⟩:=by
 have r:bT af s (t.p+m+1)=t.p+m+1:=zX.ag (n:=0) qO ⟨λ j hj=>by omega,h6⟩ (Ag.self s (t.p+m+1) 0)
 unfold bU; rw [if_neg h1,if_neg h2,if_neg h4,if_neg h3,h,if_pos h5,r,if_pos rfl,Nat.add_assoc]
theorem Ed {s:List UInt8} {t:St} {m k:Nat} (h1:bt s t.p≠42) (h2:bt s t.p≠39) (h3:bt s t.p≠63) (h4:bt s t.p≠45) (h:bT af s t.p=t.p+m) (h5:bt s (t.p+m)=58) (hk:0<k) (h6:bT af s (t.p+m+1)=t.p+m+1+k):bU s t.p=⟨⟨4,[],0,(bY s t.p (t.p+m):Int),(bY s (t.p+m+1) (t.p+m+1+k):Int),λ_=>false⟩,t.p+(m+1+k)⟩:=by
 unfold bU; rw [if_neg h1,if_neg h2,if_neg h4,if_neg h3,h,if_pos h5,h6,if_neg (by omega),show t.p+m+1+k=t.p+(m+1+k) by omega]
theorem SF (s:List UInt8) (p:Nat):bY s p (p+0)=0:=by unfold bY; rw [show p+0 - p=0 by omega]; rfl
theorem abm {s:List UInt8} {t:St} (h:bt s t.p=58):bT af s t.p=t.p+0:=zX.ag (n:=0) qO ⟨λ j hj=>by omega,by rw [Nat.add_zero,h]; rfl⟩ (Ag.self s t.p 0)
theorem jv {s:List UInt8} {t:St} {b:Nat} (e:t.e=0) (h:aj s t b=false):bt s t.p≠b:=by rw [aK e] at h; simpa using h
theorem SG {s:List UInt8} {t:St} (e:t.e=0) (h:digit s t=false):af (bt s t.p)=false:=by simpa [digit,e] using h
def SlK (s:List UInt8) (q c:Nat) (t:St) (d:Bool) (n:Int) (u:St):Prop :=
 (d=true->Ok s q c 9 [] 0 u/\(bz s->∃m,u=tP t m/\0<m/\bU s t.p=⟨⟨3,[],n,0,0,λ_=>false⟩,t.p+m⟩/\(-1000<n/\n<1000))) /\
 (d=false->∃X,(X=6\/X=7)/\Ok s q c X [] 0 u/\aj s u 58=true/\(bz s->∃m,u=tP t m/\bT af s t.p=t.p+m/\n=(bY s t.p (t.p+m):Int)/\(bt s t.p≠42/\bt s t.p≠39/\bt s t.p≠63/\bt s t.p≠45)))
theorem Ee {s:List UInt8} {q c:Nat} {t:St} (h:Ok s q c 6 [] 0 t) (h5:aj s t 58=true):SlK s q c t false 0 t:=by
 have b:=(aE h5).2
 exact ⟨λ e=>(by cases e),λ_=>⟨6,Or.inl rfl,h,h5,λ_=>⟨0,rfl,abm b,by rw [SF]; rfl,by omega⟩⟩⟩
theorem Ef {s:List UInt8} {q c:Nat} {t:St} (h:Ok s q c 6 [] 0 t) (h1:aj s t 42=false) (h2:aj s t 39=false) (h3:aj s t 63=false) (h5:aj s t 58=false):SlK s q c t (aj s t 45 || !aj s (countP s t true) 58) (eI s t true) (countP s t true):=by
 cases h4:aj s t 45
 ·have O:=tA h h1 h2 h3 h4 h5
  have key:bz s->∃m v,countP s t true=tP t m/\0<m/\eI s t true=v/\(-1000<v/\v<1000)/\bT af s t.p=t.p+m/\v=(bY s t.p (t.p+m):Int)/\(bt s t.p≠42/\bt s t.p≠39/\bt s t.p≠63/\bt s t.p≠45):=λ hf=>by
   have E:=(aA hf h).e0
   have L:=aA hf O
   obtain ⟨m,v,e1,e2,e3,e4,e5⟩:=Cs L.e0 E (jI hf L (by omega))
   have n4:=jv E h4
   rcases e5 with ⟨x1,_,_⟩ | ⟨_,x2,x3⟩
   ·exact absurd x1 n4
   exact ⟨m,v,e1,e2,e3,e4,x2,x3,jv E h1,jv E h2,jv E h3,n4⟩
  cases h6:aj s (countP s t true) 58
  ·refine ⟨λ_=>⟨oJ O h6,λ hf=>?_⟩,λ e=>by cases e⟩
   obtain ⟨m,v,e1,e2,e3,e4,e5,e6,n1,n2,n3,n4⟩:=key hf
   have n5:=jv (aA hf O).e0 h6
   rw [e1] at n5
   have:=JC n1 n2 n3 n4 e5 n5
   rw [<-e6,<-e3] at this
   exact ⟨m,e1,e2,this,by rw [e3]; exact e4⟩
  refine ⟨λ e=>(by cases e),λ_=>⟨7,Or.inr rfl,O,h6,λ hf=>?_⟩⟩
  obtain ⟨m,v,e1,e2,e3,e4,e5,e6,e7⟩:=key hf
  exact ⟨m,e1,e5,by rw [e3,e6],e7⟩
 have O:=tq h h4
 refine ⟨λ_=>⟨O,λ hf=>?_⟩,λ e=>by cases e⟩
 have L:=aA hf O
 obtain ⟨m,v,e1,e2,e3,e4,e5⟩:=Cs L.e0 (aA hf h).e0 (jI hf L (by omega))
 have b45:=(aE h4).2
 rcases e5 with ⟨_,x2,x3⟩ | ⟨x1,_,_⟩
 ·have:=JB b45 x2
  rw [<-x3,<-e3] at this
  exact ⟨m,e1,e2,this,by rw [e3]; exact e4⟩
 exact absurd b45 x1
def PcK (s:List UInt8) (t u:St) (n y:Int):Prop:=∃m,u=tP t m/\0<m/\bU s t.p=⟨⟨4,[],0,n,y,λ_=>false⟩,t.p+m⟩
theorem SI {s:List UInt8} (hf:bz s) {q c:Nat} {t u:St} {n:Int} {m:Nat} (e:u=tP t m) (r:bT af s t.p=t.p+m) (hn:n=(bY s t.p (t.p+m):Int)) (hb:bt s t.p≠42/\bt s t.p≠39/\bt s t.p≠63/\bt s t.p≠45) (oQ:aj s u 58=true) (ho:Ok s q c 8 [] 0 (aN s u [58])) (hd:digit s (aN s u [58])=false):PcK s t (aN s u [58]) n (-1):=by
 have L:=aA hf ho
 have e8:aN s u [58]=tP u 1:=(gM L.e0).2.2
 have b58:=(aE oQ).2
 have nd:=SG L.e0 hd
 rw [e8] at nd ⊢
 subst e hn
 exact ⟨m+1,jP _ _ _,by omega,Ec hb.1 hb.2.1 hb.2.2.1 hb.2.2.2 r b58 nd⟩
theorem SJ {s:List UInt8} (hf:bz s) {q c:Nat} {t u:St} {n:Int} {m:Nat} (e:u=tP t m) (r:bT af s t.p=t.p+m) (hn:n=(bY s t.p (t.p+m):Int)) (hb:bt s t.p≠42/\bt s t.p≠39/\bt s t.p≠63/\bt s t.p≠45) (oQ:aj s u 58=true) (ho:Ok s q c 8 [] 0 (aN s u [58])) (hd:digit s (aN s u [58])=true):PcK s t (countP s (aN s u [58]) false) n (eI s (aN s u [58]) false):=by
 have e8:aN s u [58]=tP u 1:=(gM (aA hf ho).e0).2.2
 have L:=aA hf (zR ho hd)
 have b58:=(aE oQ).2
 obtain ⟨k,e1,e2,e3,e4,e5,e6⟩:=Sq L.e0 (jI hf L (by omega))
 rw [e8] at e1 e4 e5 ⊢
 subst e hn
 have:=Ed hb.1 hb.2.1 hb.2.2.1 hb.2.2.2 r b58 e2 e4
 rw [e5,e1]
 exact ⟨m+1+k,by rw [jP,jP,Nat.add_assoc],by omega,this⟩
theorem AB {w:World} {b:Nat} {s:ByteArray} {t:St} {q c:Nat} (h:aZ w b s t) (hs:s.size<=120) (hok:Ok (bs s) q c 6 [] 0 t) :
 Calls Tryz.prog 94 #[.pointer (some ⟨b,0,none⟩)] w (SlP b s q c t w):=by
 have dy:=h.lt
 have hle:=hok.le
 rw [an] at hle
 have R0:=aa ((Rd.same h).alloc (.cells #[.int .i64 0,.string ⟨#[]⟩,.int .i64 0,.int .i64 0,.int .i64 0,.pointer none] 189))
 have B0:=aa (ay.new w #[.int .i64 0,.string ⟨#[]⟩,.int .i64 0,.int .i64 0,.int .i64 0,.pointer none] 189)
 have HO:=aa hok
 clear h hok
 go_enter Tryz.func94,Tryz.ntmps94
 go_wp2_with fail
 refine (jO R0.out.m 42 42 rfl (by omega) hs).mono ?_
 rintro r v1 ⟨rfl,gg⟩
 cases h1:aj (bs s) t 42
 ·rw [show has (bs s) t 42=t by simp [has,h1]] at gg
  have R1:=aa (R0.out.trans gg)
  have B1:=aa (B0.out.rd gg dy)
  have H1:=aa h1
  clear gg h1 R0 B0
  go_wp2_with fail
  refine (dU R1.out.m 39 39 rfl (by omega)).mono ?_
  rintro r v2 ⟨rfl,gg⟩
  have R2:=aa (R1.out.trans gg)
  have B2:=aa (B1.out.rd gg dy)
  clear gg
  cases h2:aj (bs s) t 39
  ·have H2:=aa h2
   clear h2 R1 B1
   go_wp2_with fail
   refine (jO R2.out.m 63 63 rfl (by omega) hs).mono ?_
   rintro r v3 ⟨rfl,gg⟩
   cases h3:aj (bs s) t 63
   ·rw [show has (bs s) t 63=t by simp [has,h3]] at gg
    have R3:=aa (R2.out.trans gg)
    have B3:=aa (B2.out.rd gg dy)
    have H3:=aa h3
    clear gg h3 R2 B2
    go_wp2_with fail
    refine (dU R3.out.m 45 45 rfl (by omega)).mono ?_
    rintro r v4 ⟨rfl,gg⟩
    have R4:=aa (R3.out.trans gg)
    have B4:=aa (B3.out.rd gg dy)
    clear gg
    go_wp2_with fail
    refine (dU R4.out.m 58 58 rfl (by omega)).mono ?_
    rintro r v5 ⟨rfl,gg⟩
    have R5:=aa (R4.out.trans gg)
    have B5:=aa (B4.out.rd gg dy)
    clear gg
    clear R3 B3 R4 B4
    obtain ⟨x4,h4⟩:∃x,aj (bs s) t 45=x:=⟨_,rfl⟩
    obtain ⟨x5,h5⟩:∃x,aj (bs s) t 58=x:=⟨_,rfl⟩
    rw [h4,h5]
    have H4:=aa h4
    have H5:=aa h5
    clear h4 h5
    go_upto_if 36 with fail
    go_cut [9,10] from 37 (λ y9 y10 wc=>∃(x:Bool) (nv:Int) (u:St),y9=.bool x/\y10=.int .i64 nv/\Rd b s w u wc/\ay wc w.heap.size #[.int .i64 0,.string ⟨#[]⟩,.int .i64 0,.int .i64 0,.int .i64 0,.pointer none] 189/\SlK (bs s) q c t (x4 || !x) nv u)
    case first =>
     cases x5
     ·go_wp2_with fail
      refine (pU R5.out.m true hs hle).mono ?_
      rintro r v6 ⟨rfl,gg⟩
      have R6:=aa (R5.out.trans gg)
      have B6:=aa (B5.out.rd gg dy)
      clear gg
      have K6:=aa (Ef HO.out H1.out H2.out H3.out H5.out)
      rw [H4.out] at K6
      generalize eI (bs s) t true=cv at *
      generalize countP (bs s) t true=u at *
      go_wp2_with fail
      refine (dU R6.out.m 58 58 rfl (by omega)).mono ?_
      rintro r v7 ⟨rfl,gg⟩
      have R7:=aa (R6.out.trans gg)
      have B7:=aa (B6.out.rd gg dy)
      clear gg
      generalize aj (bs s) u 58=x at *
      go_wp2
      go_meet
      exact ⟨x,cv,u,rfl,rfl,R7.out,B7.out,K6.out⟩
     have e4:=Au (b:=45) H5.out (by decide)
     rw [H4.out] at e4
     subst e4
     go_wp2
     go_meet
     exact ⟨true,0,t,rfl,rfl,R5.out,B5.out,Ee HO.out H5.out⟩
    case rest =>
    obtain ⟨x,nv,u,rfl,rfl,r6,b6,k6⟩:=hcut
    have R6:=aa r6
    have B6:=aa b6
    have K6:=aa k6
    clear r6 b6 k6 R5 B5 H1 H2 H3 H5
    go_upto_region 18 with fail
    go_cut [45] from 41 (λ y w2=>y=.bool (x4 || !x)/\w2=wc)
    case first=>cases x4<;>cases x<;>(go_wp2; go_meet; exact ⟨rfl,rfl⟩)
    case rest =>
    obtain ⟨rfl,hw⟩:=hcut
    have hw:=hw.symm
    subst hw
    obtain ⟨d,hd⟩:∃d,(x4 || !x)=d:=⟨_,rfl⟩
    rw [hd]
    rw [hd] at K6
    clear hd
    cases d
    ·obtain ⟨X,hX,o6,oQ,k6⟩:=K6.out.2 rfl
     have O8:=aa (tw hX o6 oQ)
     have N8:=aa (λ hf hd=>by obtain ⟨m,e1,e2,e3,e4⟩:=k6 hf; exact SI hf e1 e2 e3 e4 oQ O8.out hd)
     have T8:=aa (λ hf hd=>by obtain ⟨m,e1,e2,e3,e4⟩:=k6 hf; exact SJ hf e1 e2 e3 e4 oQ O8.out hd)
     clear hX o6 oQ k6 K6
     go_wp2_with fail
     refine (dS R6.out.m ⟨#[58]⟩ (by decide) hs).mono ?_
     rintro r v8 ⟨rfl,gg⟩
     rw [Jn] at gg
     have R8:=aa (R6.out.trans gg)
     have B8:=aa (B6.out.rd gg dy)
     clear gg R6 B6
     generalize aN (bs s) u [58]=u8 at *
     have Xh:=O8.out.le
     rw [an] at Xh
     have R9:=aa (R8.out.alloc (.cells #[.int .i64 4,.string ⟨#[]⟩,.int .i64 0,.int .i64 nv,.int .i64 (-1),.pointer none] 189))
     have B9:=aa (B8.out.alloc (.cells #[.int .i64 4,.string ⟨#[]⟩,.int .i64 0,.int .i64 nv,.int .i64 (-1),.pointer none] 189))
     have X9:=aa (ay.new v8 #[.int .i64 4,.string ⟨#[]⟩,.int .i64 0,.int .i64 nv,.int .i64 (-1),.pointer none] 189)
     have hb8:b<v8.heap.size:=R8.out.lt
     have hw8:w.heap.size<v8.heap.size:=B8.out.lt
     have hne:w.heap.size≠v8.heap.size:=by omega
     have Xi:v8.heap.size≠w.heap.size:=by omega
     go_wp2_with fail
     refine (jm R9.out.m).mono ?_
     rintro r va ⟨rfl,gg⟩
     have RA:=aa (R9.out.trans gg)
     have BA:=aa (B9.out.rd gg dy)
     have XA:=aa (X9.out.rd gg hb8)
     clear gg R8 B8 R9 B9 X9
     obtain ⟨xd,hd⟩:∃x,digit (bs s) u8=x:=⟨_,rfl⟩
     rw [hd]
     have HD:=aa hd
     clear hd
     go_upto_if 54 with fail
     go_cut [] from 55 (λ wd=>∃(y:Int) (u9:St),Rd b s w u9 wd/\ay wd w.heap.size #[.int .i64 0,.string ⟨#[]⟩,.int .i64 0,.int .i64 0,.int .i64 0,.pointer none] 189/\ay wd v8.heap.size #[.int .i64 4,.string ⟨#[]⟩,.int .i64 0,.int .i64 nv,.int .i64 y,.pointer none] 189/\Ok (bs s) q c 9 [] 0 u9/\(bz (bs s)->PcK (bs s) t u9 nv y))
     case first =>
      cases xd
      ·have O9:=aa (xy O8.out HD.out)
       have D9:=aa (λ hf=>N8.out hf HD.out)
       go_wp2
       go_meet
       exact ⟨_,_,RA.out,BA.out,XA.out,O9.out,D9.out⟩
      have O9:=aa (zR O8.out HD.out)
      have D9:=aa (λ hf=>T8.out hf HD.out)
      go_wp2_with fail
      refine (pU RA.out.m false hs Xh).mono ?_
      rintro r vb ⟨rfl,gg⟩
      have RB:=aa (RA.out.trans gg)
      have BB:=aa (BA.out.rd gg dy)
      have XB:=aa (XA.out.rd gg hb8)
      clear gg
      have hg:=XB.out.fz 4
      have m4:=XB.out.c6.2.2.2.2.1
      go_wp2
      go_meet
      exact ⟨_,_,RB.out.cM dy _ 4 (Nat.le_of_lt hw8) _,BB.out.other hne 4 _,XB.out.set 4 _,O9.out,D9.out⟩
     case rest =>
     obtain ⟨y,u9,r9,b9,x9,o9,d9⟩:=hcut
     have RB:=aa r9
     have BB:=aa b9
     have XB:=aa x9
     have O9:=aa o9
     have D9:=aa d9
     clear r9 b9 x9 o9 d9 RA BA XA
     have hg:=XB.out.fz
     obtain ⟨m0,m1,m2,m3,m4,m5⟩:=XB.out.c6
     have hf:=BB.out.fz
     obtain ⟨k0,k1,k2,k3,k4,k5⟩:=BB.out.c6
     go_wp2
     refine mX rfl rfl ((((((BB.out.set 0 _).set 1 _).set 2 _).set 3 _).set 4 _).set 5 _) ?_
     refine ⟨_,u9,rfl,⟨_,_,_,_,_,_,rfl⟩,RB.out.sj dy _ (Nat.le_refl _) _ _ _ _ _ _,O9.out,λ hf=>?_⟩
     obtain ⟨m,rfl,e2,e3⟩:=D9.out hf
     exact pX e2 e3 ⟨by simp,by simp⟩ ⟨by simp,by simp⟩
    obtain ⟨o6,k6⟩:=K6.out.1 rfl
    have O6:=aa o6
    have D6:=aa k6
    clear o6 k6 K6
    have hf:=B6.out.fz
    obtain ⟨k0,k1,k2,k3,k4,k5⟩:=B6.out.c6
    go_wp2
    refine mX rfl rfl ((((((B6.out.set 0 _).set 1 _).set 2 _).set 3 _).set 4 _).set 5 _) ?_
    refine ⟨_,u,rfl,⟨_,_,_,_,_,_,rfl⟩,R6.out.sj dy _ (Nat.le_refl _) _ _ _ _ _ _,O6.out,λ hf=>?_⟩
    obtain ⟨m,rfl,e2,e3,e4⟩:=D6.out hf
    exact pX e2 e3 ⟨by simp,by simp⟩ e4
   rw [show has (bs s) t 63=aG t by simp [has,h3]] at gg
   have R3:=aa (R2.out.trans gg)
   have B3:=aa (B2.out.rd gg dy)
   have H3:=aa h3
   clear gg h3 R2 B2
   go_wp2_with fail
   refine (SE R3.out.m hs (tu HO.out H3.out)).mono ?_
   rintro r v4 ⟨g4,u4,rfl,gg,o4,n4,d4⟩
   have R4:=aa (R3.out.trans gg)
   have B4:=aa (B3.out.rd gg dy)
   have O4:=aa (xx o4 (λ he=>⟨(n4 he).1 (by omega),(n4 he).2 (by omega)⟩))
   have D4:=aa d4
   have Xg:w.heap.size<v3.heap.size:=B3.out.lt
   clear gg o4 n4 d4
   have hf:=B4.out.fz
   obtain ⟨k0,k1,k2,k3,k4,k5⟩:=B4.out.c6
   go_wp2
   refine mX rfl rfl ((((((B4.out.set 0 _).set 1 _).set 2 _).set 3 _).set 4 _).set 5 _) ?_
   refine ⟨_,u4,rfl,⟨_,_,_,_,_,_,rfl⟩,R4.out.sj dy _ (Nat.le_refl _) _ _ _ _ _ _,O4.out,λ hf=>?_⟩
   obtain ⟨D4,φ4,m4,e1,_,ft4,ok4,pc4⟩:=D4.out hf
   have SM:∀W,Sm D4 v4 W->Ft D4 w.heap.size W/\fR D4 W (WhC ⟨5,[],0,0,0,φ4⟩ (.pointer (some ⟨g4,0,none⟩))):=λ W sm=>⟨(ft4.low (Nat.le_of_lt Xg)).keep sm,λ w'' s'' _=>⟨g4,rfl,(ok4.keep sm) w'' s''⟩⟩
   have hr:∀{W:World} (x:Sm D4 v4 W) (i:Nat) (y:Value),Sm D4 v4 (W.setCell ⟨w.heap.size,i,none⟩ y):=λ x i y k hk=>(Below.heap_setCell _ _ _ _ (by show k≠w.heap.size; have:=ft4.ge k hk; omega)).trans (x k hk)
   obtain ⟨f5,o5⟩:=SM _ (hr (hr (hr (hr (hr (hr (λ_ _=>rfl) 0 _) 1 _) 2 _) 3 _) 4 _) 5 _)
   have Ue:=O4.out.le
   rw [e1] at Ue
   exact ⟨⟨5,[],0,0,0,φ4⟩,some ⟨g4,0,none⟩,1+m4,D4,rfl,by rw [e1]; exact jP t 1 m4,by omega,JA H3.out Ue pc4,⟨by simp,by simp⟩,⟨by simp,by simp⟩,f5,o5⟩
  have H2:=aa h2
  clear h2 R1 B1
  go_wp2_with fail
  refine (Cm R2.out.m hs hle).mono ?_
  rintro r v3 ⟨rfl,gg⟩
  have R3:=aa (R2.out.trans gg)
  have B3:=aa (B2.out.rd gg dy)
  clear gg
  have hf:=B3.out.fz
  obtain ⟨k0,k1,k2,k3,k4,k5⟩:=B3.out.c6
  go_wp2
  refine mX rfl rfl ((((((B3.out.set 0 _).set 1 _).set 2 _).set 3 _).set 4 _).set 5 _) ?_
  refine ⟨_,_,rfl,⟨_,_,_,_,_,_,rfl⟩,R3.out.sj dy _ (Nat.le_refl _) _ _ _ _ _ _,n_ HO.out H2.out,λ hf=>?_⟩
  obtain ⟨m,e1,e2,e3,e4⟩:=abl H2.out (aA hf (n_ HO.out H2.out)).e0
  rw [<-Ax,e1]
  exact pX (m:=m+2) (x:=⟨2,sub (bs s) (aH (bs s) t 39).p (dH aO (bs s) 8 (aH (bs s) t 39)).p,0,0,0,λ_=>false⟩) (by omega) (Jz H2.out e2 e3 e4) ⟨by simp,by simp⟩ ⟨by simp,by simp⟩
 rw [show has (bs s) t 42=aG t by simp [has,h1]] at gg
 have R1:=aa (R0.out.trans gg)
 have B1:=aa (B0.out.rd gg dy)
 have H1:=aa h1
 clear gg h1
 have hf:=B1.out.fz
 obtain ⟨k0,k1,k2,k3,k4,k5⟩:=B1.out.c6
 go_wp2
 refine mX rfl rfl ((((((B1.out.set 0 _).set 1 _).set 2 _).set 3 _).set 4 _).set 5 _) ?_
 refine ⟨_,_,rfl,⟨_,_,_,_,_,_,rfl⟩,R1.out.sj dy _ (Nat.le_refl _) _ _ _ _ _ _,xw HO.out H1.out,λ hf=>?_⟩
 exact pX (m:=1) (x:=⟨1,[],0,0,0,λ_=>false⟩) (by omega) (M_ H1.out) ⟨by simp,by simp⟩ ⟨by simp,by simp⟩
end Go.Proofs.YtcbadebjpogmlaaGreatDoor
