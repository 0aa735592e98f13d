import Derived.Test.YtcbadebjpogmlaaGreatDoorVsMkQ
import Derived.Laws.EntriesVeiled
set_option maxHeartbeats 1000000
namespace Go.Proofs.YtcbadebjpogmlaaGreatDoor
open Go.RowKit Tr
structure SV where
 k:Int
 nm:ByteArray
 fr:Int
 to:Int
 met:Value
 hm:met=.nilFunc\/∃f x y,met=.func f x y
def SV.cells (s:SV):List Value:=[.int .i64 s.k,.string s.nm,.int .i64 s.fr,.int .i64 s.to,s.met]
def SV.agg (s:SV):Value:=.agg #[.int .i64 s.k,.string s.nm,.int .i64 s.fr,.int .i64 s.to,s.met]
theorem SV.one (s:SV):∀u ∈ s.cells,u.oneCell'=true:=by
 intro u hu
 simp [SV.cells] at hu
 rcases hu with rfl | rfl | rfl | rfl | rfl
 ·rfl
 ·rfl
 ·rfl
 ·rfl
 rcases s.hm with h | ⟨f,x,y,h⟩<;>rw [h]<;>rfl
def lR (w:World) (s:SV) (x:b_):Prop :=
 (x.sort=1/\s.k=0)\/(x.sort=2/\s.k=1/\x.name=bs s.nm)\/(x.sort=3/\s.k=2/\x.n=s.fr/\0<=s.fr)\/(x.sort=3/\s.k=3/\x.n=-s.fr/\0<s.fr/\s.fr<=1000) \/
 (x.sort=4/\s.k=4/\x.ai=s.fr/\((x.to<0/\4000000<s.to)\/(0<=x.to/\x.to=s.to)))\/(x.sort=5/\s.k=5/\dh w s.met x.wh)
def Ro (g:Nat) (q:ByteArray) (p v:Value) (n:Nat) (w0:World) (a:Nat) (k:Int) (nm:ByteArray) (fr to:Int) (met:Value) (r:Ending) (w':World):Prop:=r=.returned (.agg #[.int .i64 k,.string nm,.int .i64 fr,.int .i64 to,met])/\Qt g q p v n w0 a w'
theorem Qt.uK {g:Nat} {q:ByteArray} {p v:Value} {n:Nat} {w0 w:World} {a:Nat} (h:Qt g q p v n w0 a w) (b:Nat) (hb:w0.heap.size<=b) (hg:g≠b) (x0 x1 x2 x3 x4:Value) :
 Qt g q p v n w0 a (((((w.setCell ⟨b,0,none⟩ x0).setCell ⟨b,1,none⟩ x1).setCell ⟨b,2,none⟩ x2).setCell ⟨b,3,none⟩ x3).setCell ⟨b,4,none⟩ x4) :=
 ⟨((((h.b.other hg 0 _).other hg 1 _).other hg 2 _).other hg 3 _).other hg 4 _,
  ((((h.f.setCell ⟨b,0,none⟩ (Or.inr hb) _).setCell ⟨b,1,none⟩ (Or.inr hb) _).setCell ⟨b,2,none⟩ (Or.inr hb) _).setCell ⟨b,3,none⟩ (Or.inr hb) _).setCell ⟨b,4,none⟩ (Or.inr hb) _,h.le⟩
theorem nZ {R:Ending->World->Prop} {a:Act} {W:World} {g:Nat} {x0 x1 x2 x3 x4:Value} (hd:a.defers=[]) (ha:a.tmps[2]?.getD undef=.pointer (some ⟨g,0,none⟩))
 (hB:ay W g #[x0,x1,x2,x3,x4] 239) (hR:R (.returned (.agg #[x0,x1,x2,x3,x4])) W):bodyPost Tryz.prog Tryz.f203 R .ret a W:=by
 have k0:=hB.cell 0
 have k1:=hB.cell 1
 have k2:=hB.cell 2
 have k3:=hB.cell 3
 have k4:=hB.cell 4
 simp at k0 k1 k2 k3 k4
 refine bodyPost_ret (v:=.agg #[x0,x1,x2,x3,x4]) ?_ hd hR
 simp [results,Tryz.results203,go_sem,ha,k0,k1,k2,k3,k4]
theorem Ml {w0 w:World} {g:Nat} {q:ByteArray} {p v:Value} {n:Nat} (hq:q.size<=1000) {t:St} (h:Qt g q p v n w0 t.p w) (T0:tk q t.p ⟨#[42]⟩=true) :
 Calls Tryz.prog 203 #[.pointer (some ⟨g,0,none⟩)] w (Ro g q p v n w0 (t.p+1) 0 ⟨#[]⟩ 0 0 .nilFunc):=by
 have J:=aa (h.alloc (.cells #[.int .i64 0,.string ⟨#[]⟩,.int .i64 0,.int .i64 0,.nilFunc] 239))
 have H:=aa J.out.here
 have B0:=aa (ay.new w #[.int .i64 0,.string ⟨#[]⟩,.int .i64 0,.int .i64 0,.nilFunc] 239)
 have hne:g≠w.heap.size:=Nat.ne_of_lt h.b.lt
 have hw0:w0.heap.size<=w.heap.size:=h.f.size
 clear h
 go_enter Tryz.func203,Tryz.ntmps203
 go_wp2_with fail
 refine (de H.out hq _ T0 (t.p+1) rfl).mono ?_
 rintro r w1 ⟨rfl,h1⟩
 clear H
 have H:=aa h1
 clear h1
 have B:=aa (B0.out.fr H.out.f (λ e=>hne e.symm))
 have hfz:=B.out.fz
 have z0:=B.out.cell 0
 have z1:=B.out.cell 1
 have z2:=B.out.cell 2
 have z3:=B.out.cell 3
 have z4:=B.out.cell 4
 simp at z0 z1 z2 z3 z4
 have F:=aa (J.out.join H.out)
 clear H J B0
 go_wp2
 refine nZ rfl rfl (((((B.out.set 0 _).set 1 _).set 2 _).set 3 _).set 4 _) ?_
 exact ⟨rfl,F.out.uK _ hw0 hne _ _ _ _ _⟩
theorem Hy {w0 w:World} {g:Nat} {q:ByteArray} {p v:Value} {n:Nat} (hq:q.size<=1000) {t:St} (h:Qt g q p v n w0 t.p w) (T0:tk q t.p ⟨#[42]⟩=false) (T1:tk q t.p ⟨#[39]⟩=true) :
 Calls Tryz.prog 203 #[.pointer (some ⟨g,0,none⟩)] w (λ r w'=>∃k,c_ aO q (t.p+1) k/\Ro g q p v n w0 (if tk q k ⟨#[39]⟩ then k+1 else k) 1 (q.extract (t.p+1) k) 0 0 .nilFunc r w'):=by
 have J:=aa (h.alloc (.cells #[.int .i64 0,.string ⟨#[]⟩,.int .i64 0,.int .i64 0,.nilFunc] 239))
 have H:=aa J.out.here
 have B0:=aa (ay.new w #[.int .i64 0,.string ⟨#[]⟩,.int .i64 0,.int .i64 0,.nilFunc] 239)
 have hne:g≠w.heap.size:=Nat.ne_of_lt h.b.lt
 have hw0:w0.heap.size<=w.heap.size:=h.f.size
 clear h
 go_enter Tryz.func203,Tryz.ntmps203
 go_wp2_with fail
 refine (cI H.out hq _ T0).mono ?_
 rintro r w1 ⟨rfl,h1⟩
 clear H
 have H:=aa h1
 clear h1
 go_wp2_with fail
 refine (de H.out hq _ T1 (t.p+1) rfl).mono ?_
 rintro r w1 ⟨rfl,h1⟩
 clear H
 have H:=aa h1
 clear h1
 go_wp2_with fail
 refine (wU H.out hq).mono ?_
 rintro r w1 ⟨k,hk,rfl,h1⟩
 have HK:=aa hk
 clear H hk
 have H:=aa h1
 clear h1
 have B:=aa (B0.out.fr H.out.f (λ e=>hne e.symm))
 have hfz:=B.out.fz
 have z0:=B.out.cell 0
 have z1:=B.out.cell 1
 have z2:=B.out.cell 2
 have z3:=B.out.cell 3
 have z4:=B.out.cell 4
 simp at z0 z1 z2 z3 z4
 have F:=aa (J.out.join H.out)
 clear H J B0
 go_wp2
 refine nZ rfl rfl (((((B.out.set 0 _).set 1 _).set 2 _).set 3 _).set 4 _) ?_
 exact ⟨k,HK.out,⟨rfl,F.out.uK _ hw0 hne _ _ _ _ _⟩⟩
theorem Hz {w0 w:World} {g:Nat} {q:ByteArray} {p v:Value} {n:Nat} (hq:q.size<=1000) {t:St} (h:Qt g q p v n w0 t.p w) (T0:tk q t.p ⟨#[42]⟩=false) (T1:tk q t.p ⟨#[39]⟩=false) (T2:tk q t.p ⟨#[45]⟩=true) (he:Er g w0) (qB:∀k,c_ af q (t.p+1) k->k<=t.p+1+18) :
 Calls Tryz.prog 203 #[.pointer (some ⟨g,0,none⟩)] w (λ r w'=>∃k,c_ af q (t.p+1) k/\Ro g q p v n w0 k 3 ⟨#[]⟩ ((bY (bs q) (t.p+1) k:Nat):Int) 0 .nilFunc r w'):=by
 have J:=aa (h.alloc (.cells #[.int .i64 0,.string ⟨#[]⟩,.int .i64 0,.int .i64 0,.nilFunc] 239))
 have H:=aa J.out.here
 have B0:=aa (ay.new w #[.int .i64 0,.string ⟨#[]⟩,.int .i64 0,.int .i64 0,.nilFunc] 239)
 have hne:g≠w.heap.size:=Nat.ne_of_lt h.b.lt
 have hw0:w0.heap.size<=w.heap.size:=h.f.size
 clear h
 have HE:=aa (he.keep J.out.f)
 have yV:=aa qB
 clear he qB
 go_enter Tryz.func203,Tryz.ntmps203
 go_wp2_with fail
 refine (cI H.out hq _ T0).mono ?_
 rintro r w1 ⟨rfl,h1⟩
 clear H
 have H:=aa h1
 clear h1
 go_wp2_with fail
 refine (cI H.out hq _ T1).mono ?_
 rintro r w1 ⟨rfl,h1⟩
 clear H
 have H:=aa h1
 clear h1
 go_wp2_with fail
 refine (de H.out hq _ T2 (t.p+1) rfl).mono ?_
 rintro r w1 ⟨rfl,h1⟩
 clear H
 have H:=aa h1
 clear h1
 go_wp2_with fail
 refine (jc H.out hq HE.out yV.out _).mono ?_
 rintro r w1 ⟨k,m,⟨hk,hm⟩,rfl,h1⟩
 rw [j3] at hm
 subst hm
 have HK:=aa hk
 clear H hk
 have H:=aa h1
 clear h1
 have B:=aa (B0.out.fr H.out.f (λ e=>hne e.symm))
 have hfz:=B.out.fz
 have z0:=B.out.cell 0
 have z1:=B.out.cell 1
 have z2:=B.out.cell 2
 have z3:=B.out.cell 3
 have z4:=B.out.cell 4
 simp at z0 z1 z2 z3 z4
 have F:=aa (J.out.join H.out)
 clear H J B0
 go_wp2
 refine nZ rfl rfl (((((B.out.set 0 _).set 1 _).set 2 _).set 3 _).set 4 _) ?_
 exact ⟨k,HK.out,⟨rfl,F.out.uK _ hw0 hne _ _ _ _ _⟩⟩
theorem H6 {w0 w:World} {g:Nat} {q:ByteArray} {p v:Value} {n:Nat} (hq:q.size<=1000) {t:St} (h:Qt g q p v n w0 t.p w) (T0:tk q t.p ⟨#[42]⟩=false) (T1:tk q t.p ⟨#[39]⟩=false) (T2:tk q t.p ⟨#[45]⟩=false) (T3:tk q t.p ⟨#[63]⟩=true) (hf:bz (bs q)) (he:Er g w0) {q0 c d:Nat} (hok:Live (bs q) q0 c 10 [] d (aG t)) :
 Calls Tryz.prog 203 #[.pointer (some ⟨g,0,none⟩)] w (λ r w'=>∃t' f D φ,Live (bs q) q0 c 18 [] d t'/\(bt (bs q) t'.p≠38/\bt (bs q) t'.p≠124)/\(∀N φ0,bd q 2 (t.p+1)<=N->pC (bs q) N 2 (t.p+1) φ0=⟨φ,t'.p⟩)/\Ft D w.heap.size w'/\fR D w' (λ w=>dh w f φ)/\Ro g q p v n w0 t'.p 5 ⟨#[]⟩ 0 0 f r w'):=by
 have J:=aa (h.alloc (.cells #[.int .i64 0,.string ⟨#[]⟩,.int .i64 0,.int .i64 0,.nilFunc] 239))
 have H:=aa J.out.here
 have B0:=aa (ay.new w #[.int .i64 0,.string ⟨#[]⟩,.int .i64 0,.int .i64 0,.nilFunc] 239)
 have hne:g≠w.heap.size:=Nat.ne_of_lt h.b.lt
 have hw0:w0.heap.size<=w.heap.size:=h.f.size
 clear h
 have HE:=aa (he.keep J.out.f)
 have HF:=aa hf
 have L:=aa hok
 clear he hf hok
 go_enter Tryz.func203,Tryz.ntmps203
 go_wp2_with fail
 refine (cI H.out hq _ T0).mono ?_
 rintro r w1 ⟨rfl,h1⟩
 clear H
 have H:=aa h1
 clear h1
 go_wp2_with fail
 refine (cI H.out hq _ T1).mono ?_
 rintro r w1 ⟨rfl,h1⟩
 clear H
 have H:=aa h1
 clear h1
 go_wp2_with fail
 refine (cI H.out hq _ T2).mono ?_
 rintro r w1 ⟨rfl,h1⟩
 clear H
 have H:=aa h1
 clear h1
 go_wp2_with fail
 refine (de H.out hq _ T3 (t.p+1) rfl).mono ?_
 rintro r w1 ⟨rfl,h1⟩
 clear H
 have H:=aa h1
 clear h1
 go_wp2_with fail
 refine (Rl (t:=aG t) hq HF.out (HE.out.keep H.out.f) L.out H.out.here).mono ?_
 rintro r w2 ⟨t2,f2,D2,φ2,hl,hn,eV,rfl,hft,hok,h2⟩
 obtain ⟨N2,cap2,rfl,_,_⟩:=hok.self
 have L2:=aa hl
 have N2':=aa hn
 have V6:=aa eV
 have qH:=aa hft
 have tf:=aa hok
 have kR:w.heap.size<w1.heap.size:=Nat.lt_of_lt_of_le (by simp) H.out.f.size
 have H':=aa (H.out.join h2)
 clear H hl hn eV hft hok h2
 have H:=aa H'.out
 clear H'
 have B:=aa (B0.out.fr H.out.f (λ e=>hne e.symm))
 have hfz:=B.out.fz
 have z0:=B.out.cell 0
 have z1:=B.out.cell 1
 have z2:=B.out.cell 2
 have z3:=B.out.cell 3
 have z4:=B.out.cell 4
 simp at z0 z1 z2 z3 z4
 have F:=aa (J.out.join H.out)
 clear H J B0
 go_wp2
 refine nZ rfl rfl (((((B.out.set 0 _).set 1 _).set 2 _).set 3 _).set 4 _) ?_
 have hr:∀{W:World} (x:Sm D2 w2 W) (i:Nat) (y:Value),Sm D2 w2 (W.setCell ⟨w.heap.size,i,none⟩ y):=λ x i y k hk=>(Below.heap_setCell _ _ _ _ (by show k≠w.heap.size; have:=qH.out.ge k hk; omega)).trans (x k hk)
 have s5:=hr (hr (hr (hr (hr (λ_ _=>rfl) 0 (.int .i64 5)) 1 (.string ⟨#[]⟩)) 2 (.int .i64 0)) 3 (.int .i64 0)) 4 (.func (.func N2) #[] cap2)
 exact ⟨t2,_,D2,φ2,L2.out,⟨N2'.out 38 (by simp),N2'.out 124 (by simp)⟩,V6.out,(qH.out.keep s5).low (Nat.le_of_lt kR),tf.out.keep s5,rfl,F.out.uK _ hw0 hne _ _ _ _ _⟩
theorem Rp {w0 w:World} {g:Nat} {q:ByteArray} {p v:Value} {n:Nat} (hq:q.size<=1000) {t:St} (h:Qt g q p v n w0 t.p w) (T0:tk q t.p ⟨#[42]⟩=false) (T1:tk q t.p ⟨#[39]⟩=false) (T2:tk q t.p ⟨#[45]⟩=false) (T3:tk q t.p ⟨#[63]⟩=false) (he:Er g w0) {a:Nat} (ha:∀k,c_ af q t.p k->k=a) (qB:∀k,c_ af q t.p k->k<=t.p+18) (T5:tk q a ⟨#[58]⟩=false) :
 Calls Tryz.prog 203 #[.pointer (some ⟨g,0,none⟩)] w (Ro g q p v n w0 a 2 ⟨#[]⟩ ((bY (bs q) t.p a:Nat):Int) 0 .nilFunc):=by
 have J:=aa (h.alloc (.cells #[.int .i64 0,.string ⟨#[]⟩,.int .i64 0,.int .i64 0,.nilFunc] 239))
 have H:=aa J.out.here
 have B0:=aa (ay.new w #[.int .i64 0,.string ⟨#[]⟩,.int .i64 0,.int .i64 0,.nilFunc] 239)
 have hne:g≠w.heap.size:=Nat.ne_of_lt h.b.lt
 have hw0:w0.heap.size<=w.heap.size:=h.f.size
 clear h
 have HE:=aa (he.keep J.out.f)
 have yV:=aa qB
 clear he qB
 have HA:=aa ha
 clear ha
 go_enter Tryz.func203,Tryz.ntmps203
 go_wp2_with fail
 refine (cI H.out hq _ T0).mono ?_
 rintro r w1 ⟨rfl,h1⟩
 clear H
 have H:=aa h1
 clear h1
 go_wp2_with fail
 refine (cI H.out hq _ T1).mono ?_
 rintro r w1 ⟨rfl,h1⟩
 clear H
 have H:=aa h1
 clear h1
 go_wp2_with fail
 refine (cI H.out hq _ T2).mono ?_
 rintro r w1 ⟨rfl,h1⟩
 clear H
 have H:=aa h1
 clear h1
 go_wp2_with fail
 refine (cI H.out hq _ T3).mono ?_
 rintro r w1 ⟨rfl,h1⟩
 clear H
 have H:=aa h1
 clear h1
 go_wp2_with fail
 refine (jc H.out hq HE.out yV.out _).mono ?_
 rintro r w1 ⟨k,m,⟨hk,hm⟩,rfl,h1⟩
 rw [j3] at hm
 subst hm
 have HK:=aa hk
 clear H hk
 have H:=aa h1
 clear h1
 obtain rfl:=HA.out k HK.out
 go_wp2_with fail
 refine (cI H.out hq _ T5).mono ?_
 rintro r w1 ⟨rfl,h1⟩
 clear H
 have H:=aa h1
 clear h1
 have B:=aa (B0.out.fr H.out.f (λ e=>hne e.symm))
 have hfz:=B.out.fz
 have z0:=B.out.cell 0
 have z1:=B.out.cell 1
 have z2:=B.out.cell 2
 have z3:=B.out.cell 3
 have z4:=B.out.cell 4
 simp at z0 z1 z2 z3 z4
 have F:=aa (J.out.join H.out)
 clear H J B0
 go_wp2
 refine nZ rfl rfl (((((B.out.set 0 _).set 1 _).set 2 _).set 3 _).set 4 _) ?_
 exact ⟨rfl,F.out.uK _ hw0 hne _ _ _ _ _⟩
theorem H7 {w0 w:World} {g:Nat} {q:ByteArray} {p v:Value} {n:Nat} (hq:q.size<=1000) {t:St} (h:Qt g q p v n w0 t.p w) (T0:tk q t.p ⟨#[42]⟩=false) (T1:tk q t.p ⟨#[39]⟩=false) (T2:tk q t.p ⟨#[45]⟩=false) (T3:tk q t.p ⟨#[63]⟩=false) (he:Er g w0) {a:Nat} (ha:∀k,c_ af q t.p k->k=a) (qB:∀k,c_ af q t.p k->k<=t.p+18) (T5:tk q a ⟨#[58]⟩=true) (h19:∀k,c_ af q (a+1) k->k<=a+1+18) :
 Calls Tryz.prog 203 #[.pointer (some ⟨g,0,none⟩)] w (λ r w'=>∃k,c_ af q (a+1) k/\Ro g q p v n w0 k 4 ⟨#[]⟩ ((bY (bs q) t.p a:Nat):Int) (if k=a+1 then 9223372036854775807 else ((bY (bs q) (a+1) k:Nat):Int)) .nilFunc r w'):=by
 have J:=aa (h.alloc (.cells #[.int .i64 0,.string ⟨#[]⟩,.int .i64 0,.int .i64 0,.nilFunc] 239))
 have H:=aa J.out.here
 have B0:=aa (ay.new w #[.int .i64 0,.string ⟨#[]⟩,.int .i64 0,.int .i64 0,.nilFunc] 239)
 have hne:g≠w.heap.size:=Nat.ne_of_lt h.b.lt
 have hw0:w0.heap.size<=w.heap.size:=h.f.size
 clear h
 have HE:=aa (he.keep J.out.f)
 have yV:=aa qB
 clear he qB
 have HA:=aa ha
 have H19:=aa h19
 clear ha h19
 go_enter Tryz.func203,Tryz.ntmps203
 go_wp2_with fail
 refine (cI H.out hq _ T0).mono ?_
 rintro r w1 ⟨rfl,h1⟩
 clear H
 have H:=aa h1
 clear h1
 go_wp2_with fail
 refine (cI H.out hq _ T1).mono ?_
 rintro r w1 ⟨rfl,h1⟩
 clear H
 have H:=aa h1
 clear h1
 go_wp2_with fail
 refine (cI H.out hq _ T2).mono ?_
 rintro r w1 ⟨rfl,h1⟩
 clear H
 have H:=aa h1
 clear h1
 go_wp2_with fail
 refine (cI H.out hq _ T3).mono ?_
 rintro r w1 ⟨rfl,h1⟩
 clear H
 have H:=aa h1
 clear h1
 go_wp2_with fail
 refine (jc H.out hq HE.out yV.out _).mono ?_
 rintro r w1 ⟨k,m,⟨hk,hm⟩,rfl,h1⟩
 rw [j3] at hm
 subst hm
 have HK:=aa hk
 clear H hk
 have H:=aa h1
 clear h1
 obtain rfl:=HA.out k HK.out
 go_wp2_with fail
 refine (de H.out hq _ T5 (k+1) rfl).mono ?_
 rintro r w1 ⟨rfl,h1⟩
 clear H
 have H:=aa h1
 clear h1
 go_wp2_with fail
 refine (jc H.out hq HE.out H19.out _).mono ?_
 rintro r w1 ⟨k2,m2,⟨hk,hm2⟩,rfl,h1⟩
 have YF:=aa hk
 have YG:=aa hm2
 clear H hk hm2
 have H:=aa h1
 clear h1
 have B:=aa (B0.out.fr H.out.f (λ e=>hne e.symm))
 have hfz:=B.out.fz
 have z0:=B.out.cell 0
 have z1:=B.out.cell 1
 have z2:=B.out.cell 2
 have z3:=B.out.cell 3
 have z4:=B.out.cell 4
 simp at z0 z1 z2 z3 z4
 have F:=aa (J.out.join H.out)
 clear H J B0
 go_wp2
 refine nZ rfl rfl (((((B.out.set 0 _).set 1 _).set 2 _).set 3 _).set 4 _) ?_
 exact ⟨k2,YF.out,by rw [<-YG.out],F.out.uK _ hw0 hne _ _ _ _ _⟩
theorem qJ {ok:Nat->Bool} {q:ByteArray} {a k:Nat} (h:c_ ok q a k) (hn:ok (bt (bs q) a)=false):k=a:=by
 rcases Nat.lt_or_ge a k with x | x
 ·rw [h.all a (Nat.le_refl _) x] at hn; cases hn
 have:=h.ge; omega
def Kw (g:Nat) (q:ByteArray) (p v:Value) (n:Nat) (w0 w:World) (q0 c a:Nat) (r:Ending) (w':World):Prop :=
 ∃t' s D,Live (bs q) q0 c 9 [] 0 t'/\(bU (bs q) a).p=t'.p/\r=.returned s.agg/\Ft D w.heap.size w'/\fR D w' (λ w=>lR w s (bU (bs q) a).v)/\Qt g q p v n w0 t'.p w'
theorem Kw.of {g:Nat} {q:ByteArray} {p v:Value} {n:Nat} {w0 w:World} {q0 c a:Nat} {r:Ending} {w':World} {t':St} {k:Int} {nm:ByteArray} {fr to:Int} (hl:Live (bs q) q0 c 9 [] 0 t') (hp:(bU (bs q) a).p=t'.p) (h:Ro g q p v n w0 t'.p k nm fr to .nilFunc r w')
 (hs:∀w,lR w ⟨k,nm,fr,to,.nilFunc,Or.inl rfl⟩ (bU (bs q) a).v):Kw g q p v n w0 w q0 c a r w' :=
 ⟨t',⟨k,nm,fr,to,.nilFunc,Or.inl rfl⟩,λ_=>False,hl,hp,h.1,Ft.none _ _,λ w _=>hs w,h.2⟩
theorem qK {w0 w:World} {g:Nat} {q:ByteArray} {p v:Value} {n:Nat} (hq:q.size<=1000) (hf:bz (bs q)) (he:Er g w0) {q0 c:Nat} {t:St} (hok:Live (bs q) q0 c 6 [] 0 t) (h:Qt g q p v n w0 t.p w) :
 Calls Tryz.prog 203 #[.pointer (some ⟨g,0,none⟩)] w (Kw g q p v n w0 w q0 c t.p):=by
 have e0:=hok.e0
 by_cases h1:aj (bs q) t 42=true
 ·have eP:bU (bs q) t.p=⟨⟨1,[],0,0,0,λ_=>false⟩,t.p+1⟩:=by unfold bU; rw [if_pos (cX h1)]
  exact (Ml hq h ((s_ q e0 42).trans h1)).mono (λ r w' hr=>Kw.of (t':=aG t) (aA hf (xw (Or.inl hok) h1)) (by rw [eP]; rfl) hr (λ w=>by rw [eP]; exact Or.inl ⟨rfl,rfl⟩))
 have h1:aj (bs q) t 42=false:=by simpa using h1
 have T0:=fm (sign:=⟨#[42]⟩) e0 rfl h1
 by_cases h2:aj (bs q) t 39=true
 ·have a1:=aA hf (n_ (Or.inl hok) h2)
  have e1:aH (bs q) t 39=aG t:=by unfold aH; rw [if_pos h2]
  unfold eU at a1
  rw [e1] at a1
  refine (Hy hq h T0 ((s_ q e0 39).trans h2)).mono ?_
  rintro r w' ⟨k,hk,hr⟩
  obtain ⟨b1,b2⟩:=wY (t:=aG t) a1.e0 hk
  rw [b2,if_pos rfl] at hr
  rw [b1] at a1
  have eP:bU (bs q) t.p=⟨⟨2,sub (bs q) (t.p+1) k,0,0,0,λ_=>false⟩,k+1⟩:=by unfold bU; rw [if_neg (aT e0 h1),if_pos (cX h2),hk.eq (by decide)]
  exact Kw.of a1 (by rw [eP]) hr (λ w=>by rw [eP]; exact Or.inr (Or.inl ⟨rfl,rfl,(cP _ _ _).symm⟩))
 have h2:aj (bs q) t 39=false:=by simpa using h2
 have T1:=fm (sign:=⟨#[39]⟩) e0 rfl h2
 by_cases h3:aj (bs q) t 45=true
 ·have a1:=aA hf (tq (Or.inl hok) h3)
  unfold countP dx at a1
  simp only [if_true,Bool.true_and] at a1
  have e1:has (bs q) t 45=aG t:=by unfold has; rw [if_pos h3]
  rw [e1] at a1
  refine (Hz hq h T0 T1 ((s_ q e0 45).trans h3) he (λ k hk=>?_)).mono ?_
  ·have:=(j0 hf (t:=aG t) e0 a1 (Or.inr (Or.inl rfl)) hk).2
   simp only [aG] at this
   omega
  rintro r w' ⟨k,hk,hr⟩
  have YH:=wZ (t:=aG t) e0 a1.e0
  have hce:=j0 hf (t:=aG t) e0 a1 (Or.inr (Or.inl rfl)) hk
  rw [hce.1] at a1
  have hlt:t.p+1<k:=by
   rcases Nat.lt_or_ge (t.p+1) k with x | x
   ·exact x
   exfalso
   have hkk:k=t.p+1:=by have:=hk.ge; omega
   have h9:=YH.1
   rw [show (aG t).p=t.p+1 from rfl,<-hkk] at h9
   have h10:=hk.stop (by have:=eo h9; rcases Nat.lt_or_ge k q.size with y | y; exact y; rw [gK (by omega)] at this; omega)
   rw [h9] at h10
   cases h10
  have eP:bU (bs q) t.p=⟨⟨3,[],-(bY (bs q) (t.p+1) k:Int),0,0,λ_=>false⟩,k⟩:=by unfold bU; rw [if_neg (aT e0 h1),if_neg (aT e0 h2),if_pos (cX h3),hk.eq (by decide)]
  have v1:=hk.pos hlt (YH.2 (by first | rfl | exact h3))
  have v2:=hk.val hce.2
  exact Kw.of a1 (by rw [eP]) hr (λ w=>by rw [eP]; exact Or.inr (Or.inr (Or.inr (Or.inl ⟨rfl,rfl,rfl,by show (0:Int)<((bY (bs q) (t.p+1) k:Nat):Int); omega,by show ((bY (bs q) (t.p+1) k:Nat):Int)<=1000; omega⟩))))
 have h3:aj (bs q) t 45=false:=by simpa using h3
 have T2:=fm (sign:=⟨#[45]⟩) e0 rfl h3
 by_cases h4:aj (bs q) t 63=true
 ·have a1:=aA hf (tu (Or.inl hok) h4)
  refine (H6 hq h T0 T1 T2 ((s_ q e0 63).trans h4) hf he a1).mono ?_
  rintro r w' ⟨t2,f,D,φ,hl,hn,eV,hft,V8,hr⟩
  have hx:bd q 2 (t.p+1)<=4 * (bs q).length+9:=by rw [an]; simp [bd]; omega
  have eP:bU (bs q) t.p=⟨⟨5,[],0,0,0,φ⟩,t2.p⟩:=by unfold bU; rw [if_neg (aT e0 h1),if_neg (aT e0 h2),if_neg (aT e0 h3),if_pos (cX h4),eV _ _ hx]
  obtain ⟨N2,cap2,hff,_,_⟩:=V8.self
  exact ⟨t2,⟨5,⟨#[]⟩,0,0,f,Or.inr ⟨_,_,_,hff⟩⟩,D,aA hf (xx (Or.inl hl) (λ_=>hn)),by rw [eP],hr.1,hft,λ w s=>by rw [eP]; exact Or.inr (Or.inr (Or.inr (Or.inr (Or.inr ⟨rfl,rfl,V8 w s⟩)))),hr.2⟩
 have h4:aj (bs q) t 63=false:=by simpa using h4
 have T3:=fm (sign:=⟨#[63]⟩) e0 rfl h4
 have YI:∀a,(∀k,c_ af q t.p k->k=a)->bT af (bs q) t.p=a:=λ a ha=>by
  have hle:t.p<=q.size:=h.le
  refine ha _ ⟨eG _ _ _ _,?_,λ i h1 h2=>fN _ _ _ _ i h1 h2,λ_=>nQ _ _ _ (by decide)⟩
  rcases Nat.lt_or_ge q.size (bT af (bs q) t.p) with x | x
  ·have:=fN af (bs q) _ t.p q.size hle x
   rw [gK (by omega)] at this
   cases this
  exact x
 have E9:=(⟨aT e0 h1,aT e0 h2,aT e0 h3,aT e0 h4⟩:bt (bs q) t.p≠42/\bt (bs q) t.p≠39/\bt (bs q) t.p≠45/\bt (bs q) t.p≠63)
 -- a place, or the piece from it on
 have rest:∀(t1:St),t1.e=0->(∀k,c_ af q t.p k->k=t1.p)->t1.p<=t.p+3->(aj (bs q) t1 58=true->Live (bs q) q0 c 8 [] 0 { t1 with p:=t1.p+1 })->(aj (bs q) t1 58=false->Live (bs q) q0 c 9 [] 0 t1) ->
  Calls Tryz.prog 203 #[.pointer (some ⟨g,0,none⟩)] w (Kw g q p v n w0 w q0 c t.p):=by
  intro t1 e1 sL hle ha hb
  have hrE:bT af (bs q) t.p=t1.p:=YI t1.p sL
  by_cases h6:aj (bs q) t1 58=true
  ·have a1:=ha h6
   have T5:tk q t1.p ⟨#[58]⟩=true:=(s_ q e1 58).trans h6
   by_cases h7:digit (bs q) { t1 with p:=t1.p+1 }=true
   ·have a2:=aA hf (zR (Or.inl a1) h7)
    unfold countP dx at a2
    simp only [Bool.false_and] at a2
    rw [if_neg (by decide)] at a2
    refine (H7 hq h T0 T1 T2 T3 he sL (λ k hk=>by have:=sL k hk; omega) T5 (λ k hk=>?_)).mono ?_
    ·have:=(j0 hf (t:={ t1 with p:=t1.p+1 }) e1 a2 (Or.inr (Or.inl rfl)) hk).2
     simp only at this
     omega
    rintro r w' ⟨k,hk,hr⟩
    have eP:bU (bs q) t.p=⟨⟨4,[],0,(bY (bs q) t.p t1.p:Int),(if k=t1.p+1 then -1 else (bY (bs q) (t1.p+1) k:Int)),λ_=>false⟩,k⟩:=by
     unfold bU
     rw [if_neg E9.1,if_neg E9.2.1,if_neg E9.2.2.1,if_neg E9.2.2.2,hrE,if_pos (cX h6),hk.eq (by decide)]
    have hce:=j0 hf (t:={ t1 with p:=t1.p+1 }) e1 a2 (Or.inr (Or.inl rfl)) hk
    have hv:=hk.val hce.2
    rw [hce.1] at a2
    have hne:k≠t1.p+1:=λ x=>by
     have h9:af (bt (bs q) (t1.p+1))=true:=by simpa [digit,e1] using h7
     rw [<-x] at h9
     have h10:=hk.stop (by have:=eo h9; rcases Nat.lt_or_ge k q.size with y | y; exact y; rw [gK (by omega)] at this; omega)
     rw [h9] at h10
     cases h10
    rw [if_neg hne] at hr eP
    exact Kw.of a2 (by rw [eP]) hr (λ w=>by rw [eP]; exact Or.inr (Or.inr (Or.inr (Or.inr (Or.inl ⟨rfl,rfl,rfl,Or.inr ⟨by show (0:Int)<=((bY (bs q) (t1.p+1) k:Nat):Int); omega,rfl⟩⟩)))))
   have h7:digit (bs q) { t1 with p:=t1.p+1 }=false:=by simpa using h7
   have a2:=aA hf (xy (Or.inl a1) h7)
   have hd:af (bt (bs q) (t1.p+1))=false:=by simpa [digit,e1] using h7
   refine (H7 hq h T0 T1 T2 T3 he sL (λ k hk=>by have:=sL k hk; omega) T5 (λ k hk=>?_)).mono ?_
   ·have:=qJ hk hd; omega
   rintro r w' ⟨k,hk,hr⟩
   have eP:bU (bs q) t.p=⟨⟨4,[],0,(bY (bs q) t.p t1.p:Int),(if k=t1.p+1 then -1 else (bY (bs q) (t1.p+1) k:Int)),λ_=>false⟩,k⟩:=by
    unfold bU
    rw [if_neg E9.1,if_neg E9.2.1,if_neg E9.2.2.1,if_neg E9.2.2.2,hrE,if_pos (cX h6),hk.eq (by decide)]
   have hkk:=qJ hk hd
   rw [if_pos hkk] at hr eP
   rw [hkk] at hr eP
   exact Kw.of a2 (by rw [eP]) hr (λ w=>by rw [eP]; exact Or.inr (Or.inr (Or.inr (Or.inr (Or.inl ⟨rfl,rfl,rfl,Or.inl ⟨by show (-1:Int)<0; decide,by show (4000000:Int)<9223372036854775807; decide⟩⟩)))))
  have h6:aj (bs q) t1 58=false:=by simpa using h6
  have T5:=fm (sign:=⟨#[58]⟩) e1 rfl h6
  exact (Rp hq h T0 T1 T2 T3 he sL (λ k hk=>by have:=sL k hk; omega) T5).mono (λ r w' hr=>by
   have eP:bU (bs q) t.p=⟨⟨3,[],(bY (bs q) t.p t1.p:Int),0,0,λ_=>false⟩,t1.p⟩:=by
    unfold bU
    rw [if_neg E9.1,if_neg E9.2.1,if_neg E9.2.2.1,if_neg E9.2.2.2,hrE,if_neg (aT e1 h6)]
   exact Kw.of (hb h6) (by rw [eP]) hr (λ w=>by rw [eP]; exact Or.inr (Or.inr (Or.inl ⟨rfl,rfl,rfl,by show (0:Int)<=((bY (bs q) t.p t1.p:Nat):Int); omega⟩))))
 have colon:∀(t1:St) (X:Nat),X=6\/X=7->Live (bs q) q0 c X [] 0 t1->aj (bs q) t1 58=true->Live (bs q) q0 c 8 [] 0 { t1 with p:=t1.p+1 }:=by
  intro t1 X hX hl hs
  have a1:=aA hf (tw hX (Or.inl hl) hs)
  obtain ⟨_,e2⟩:=gQ (sign:=⟨#[58]⟩) a1.e0
  rw [show [58]=nb ⟨#[58]⟩ from rfl,e2] at a1
  exact a1
 by_cases h5:aj (bs q) t 58=true
 ·have hd:af (bt (bs q) t.p)=false:=by rw [(aE h5).2]; decide
  exact rest t e0 (λ k hk=>qJ hk hd) (by omega) (λ hs=>colon t 6 (Or.inl rfl) hok hs) (λ hs=>by rw [h5] at hs; cases hs)
 have h5:aj (bs q) t 58=false:=by simpa using h5
 have a1:=aA hf (tA (Or.inl hok) h1 h2 h4 h3 h5)
 unfold countP dx at a1
 simp only [if_true,Bool.true_and] at a1
 have e1:has (bs q) t 45=t:=by unfold has; rw [if_neg (by rw [h3]; decide)]
 rw [e1] at a1
 have hle:(aX (bs q) t (aj (bs q) t 45)).p<=t.p+3:=by
  unfold aX
  split
  ·unfold wrong; split<;>simp
  split
  ·simp [aG]
  unfold dH
  split
  ·exact gL _ _ _ _
  omega
 refine rest _ a1.e0 (λ k hk=>?_) hle (λ hs=>colon _ 7 (Or.inr rfl) a1 hs) (λ hs=>aA hf (oJ (Or.inl a1) hs))
 have:=(j0 hf e0 a1 (Or.inl rfl) hk).1
 rw [this]
theorem Ld (s:ByteArray) (w:World) (hlim:s.size<=281474976710656):Calls Tryz.prog 62 #[.string s] w λ r w'=>r=.returned (.string s)/\Below w.heap.size w w':=by
 go_enter Tryz.func62,Tryz.ntmps62
 go_wp2_with fail
 refine (L7 s w hlim).mono ?_
 rintro r w1 ⟨rfl,hb⟩
 have H:=aa hb
 clear hb
 go_wp2
 go_ret
 exact ⟨rfl,H.out⟩
theorem Mk.qt {g:Nat} {q:ByteArray} {a:Nat} {t:List UInt8} {n:Nat} {p v:Value} {w:World} (h:Mk g q a t n p v w):Qt g q p v n w a w:=⟨h.b,Fr.refl _ _,h.le⟩
theorem Mk.step {g:Nat} {q:ByteArray} {a a':Nat} {t:List UInt8} {n:Nat} {p v:Value} {w w':World} (h:Mk g q a t n p v w) (k:Qt g q p v n w a' w'):Mk g q a' t n p v w' :=
 ⟨k.b,h.o,aW h.row k.f (λ k hk e=>by omega),k.le⟩
theorem Mk.alloc {g:Nat} {q:ByteArray} {a:Nat} {t:List UInt8} {n:Nat} {p v:Value} {w:World} (h:Mk g q a t n p v w) (o:Obj):Mk g q a t n p v (w.alloc o):=h.step (h.qt.alloc o)
theorem Mk.lt {g:Nat} {q:ByteArray} {a:Nat} {t:List UInt8} {n:Nat} {p v:Value} {w:World} (h:Mk g q a t n p v w):∀k,KG g v k->k<w.heap.size:=by
 rintro k (rfl | hk)
 ·exact h.b.lt
 exact (h.row.lt k hk).2
theorem KG.of {g:Nat} {v:Value} {w w':World} (h:Fr (λ k=>k=g) w w'):Fr (KG g v) w w':=h.mono (λ_ _ e=>Or.inl e)
def WsP (g:Nat) (q:ByteArray) (a:Nat) (t:List UInt8) (n:Nat) (v:Value) (w:World) (k:Int) (nm:ByteArray) (r:Ending) (w':World):Prop :=
 r=.returned (.agg #[.int .i64 k,.string nm,.int .i64 0,.int .i64 0,.nilFunc])/\∃p' v',Mk g q a t n p' v' w'/\Fr (KG g v) w w'
theorem Mk.uK {g:Nat} {q:ByteArray} {a:Nat} {t:List UInt8} {n:Nat} {p v:Value} {w:World} (h:Mk g q a t n p v w) (b:Nat) (hb:¬KG g v b) (x0 x1 x2 x3 x4:Value) :
 Mk g q a t n p v (((((w.setCell ⟨b,0,none⟩ x0).setCell ⟨b,1,none⟩ x1).setCell ⟨b,2,none⟩ x2).setCell ⟨b,3,none⟩ x3).setCell ⟨b,4,none⟩ x4):=by
 have hg:g≠b:=λ e=>hb (Or.inl e.symm)
 have f:Fr (λ k=>k=b) w (((((w.setCell ⟨b,0,none⟩ x0).setCell ⟨b,1,none⟩ x1).setCell ⟨b,2,none⟩ x2).setCell ⟨b,3,none⟩ x3).setCell ⟨b,4,none⟩ x4) :=
  (((((Fr.refl (λ k=>k=b) w).setCell ⟨b,0,none⟩ (Or.inl rfl) _).setCell ⟨b,1,none⟩ (Or.inl rfl) _).setCell ⟨b,2,none⟩ (Or.inl rfl) _).setCell ⟨b,3,none⟩ (Or.inl rfl) _).setCell ⟨b,4,none⟩ (Or.inl rfl) _
 refine ⟨h.b.fr f hg,h.o,?_,h.le⟩
 refine ⟨h.row.1,?_⟩
 rcases h.row.2 with x | ⟨k,cap,cur,h1,h2,h3,h4⟩
 ·exact Or.inl x
 refine Or.inr ⟨k,cap,cur,h1,h2,(f.block k (bH h3) (λ e=>hb (Or.inr (by rw [h1,<-e]; rfl)))).trans h3,h4⟩
theorem Mk.apart {g:Nat} {q:ByteArray} {a:Nat} {t:List UInt8} {n:Nat} {p v:Value} {w:World} (h:Mk g q a t n p v w) {b:Nat} {cs:Array Value} {T:TypeId} (hb:ay w b cs T) (hT:T≠5) (hg:g≠b):¬KG g v b:=by
 rintro (e | e)
 ·exact hg e.symm
 rcases h.row.2 with ⟨x,_⟩ | ⟨k,cap,cur,x1,_,x3,_⟩
 ·rw [x] at e; cases e
 rw [x1] at e
 have ek:k=b:=Option.some.inj e
 subst ek
 unfold ay at hb
 rw [x3] at hb
 injection hb with hb
 injection hb with _ h2 _
 exact hT h2.symm
theorem H8 {R:Ending->World->Prop} {a:Act} {W:World} {g:Nat} {x0 x1 x2 x3 x4:Value} (hd:a.defers=[]) (ha:a.tmps[2]?.getD undef=.pointer (some ⟨g,0,none⟩))
 (hB:ay W g #[x0,x1,x2,x3,x4] 239) (hR:R (.returned (.agg #[x0,x1,x2,x3,x4])) W):bodyPost Tryz.prog Tryz.f160 R .ret a W:=by
 have k0:=hB.cell 0
 have k1:=hB.cell 1
 have k2:=hB.cell 2
 have k3:=hB.cell 3
 have k4:=hB.cell 4
 simp at k0 k1 k2 k3 k4
 refine bodyPost_ret (v:=.agg #[x0,x1,x2,x3,x4]) ?_ hd hR
 simp [results,Tryz.results160,go_sem,ha,k0,k1,k2,k3,k4]
theorem Mm {w:World} {g:Nat} {q:ByteArray} {a:Nat} {t:List UInt8} {n:Nat} {p v:Value} (hq:q.size<=1000) (h:Mk g q a t n p v w) (hl:t.length<=100000) (T0:tk q a ⟨#[42]⟩=true) :
 Calls Tryz.prog 160 #[.pointer (some ⟨g,0,none⟩)] w (WsP g q (a+1) (t++[91,42,93]) n v w 0 ⟨#[]⟩):=by
 have J:=aa (h.alloc (.cells #[.int .i64 0,.string ⟨#[]⟩,.int .i64 0,.int .i64 0,.nilFunc] 239))
 have B0:=aa (ay.new w #[.int .i64 0,.string ⟨#[]⟩,.int .i64 0,.int .i64 0,.nilFunc] 239)
 have hnk:¬KG g v w.heap.size:=λ x=>Nat.lt_irrefl _ (h.lt _ x)
 have F0:=aa ((Fr.refl (KG g v) w).alloc (.cells #[.int .i64 0,.string ⟨#[]⟩,.int .i64 0,.int .i64 0,.nilFunc] 239))
 clear h
 go_enter Tryz.func160,Tryz.ntmps160
 go_wp2_with fail
 refine (de J.out.qt hq _ T0 (a+1) rfl).mono ?_
 rintro r w1 ⟨rfl,h1⟩
 have M1:=aa (J.out.step h1)
 have F1:=aa (F0.out.trans (KG.of h1.f))
 have B1:=aa (B0.out.fr (KG.of h1.f) hnk)
 clear h1 J F0 B0
 go_wp2_with fail
 refine (mL M1.out ⟨#[91,42,93]⟩ (by show t.length+3<=_; omega)).mono ?_
 rintro r w2 ⟨rfl,p2,v2,h2,f2⟩
 have M2:=aa h2
 have F2:=aa (F1.out.trans f2)
 have B2:=aa (B1.out.fr f2 hnk)
 have Rq:¬KG g v2 w.heap.size:=h2.apart B2.out (by decide) (λ e=>hnk (Or.inl e.symm))
 clear h2 f2 M1 F1 B1
 have hfz:=B2.out.fz
 have z0:=B2.out.cell 0
 have z1:=B2.out.cell 1
 have z2:=B2.out.cell 2
 have z3:=B2.out.cell 3
 have z4:=B2.out.cell 4
 simp at z0 z1 z2 z3 z4
 go_wp2
 refine H8 rfl rfl (((((B2.out.set 0 _).set 1 _).set 2 _).set 3 _).set 4 _) ?_
 refine ⟨rfl,p2,v2,M2.out.uK _ Rq _ _ _ _ _,?_⟩
 have hr:∀{W:World} (x:Fr (KG g v) w W) (i:Nat) (y:Value),Fr (KG g v) w (W.setCell ⟨w.heap.size,i,none⟩ y):=λ x i y=>x.setCell ⟨w.heap.size,i,none⟩ (Or.inr (Nat.le_refl _)) y
 exact hr (hr (hr (hr (hr F2.out 0 _) 1 _) 2 _) 3 _) 4 _
theorem Mn {w:World} {g:Nat} {q:ByteArray} {a:Nat} {t:List UInt8} {n:Nat} {p v:Value} (hq:q.size<=1000) (h:Mk g q a t n p v w) (hl:t.length<=100000) (T0:tk q a ⟨#[42]⟩=false) :
 Calls Tryz.prog 160 #[.pointer (some ⟨g,0,none⟩)] w (λ r w'=>∃k,c_ isLet q a k/\WsP g q k (t++([91,39]++sub (bs q) a k++[39,93])) n v w 1 (q.extract a k) r w'):=by
 have J:=aa (h.alloc (.cells #[.int .i64 0,.string ⟨#[]⟩,.int .i64 0,.int .i64 0,.nilFunc] 239))
 have B0:=aa (ay.new w #[.int .i64 0,.string ⟨#[]⟩,.int .i64 0,.int .i64 0,.nilFunc] 239)
 have hnk:¬KG g v w.heap.size:=λ x=>Nat.lt_irrefl _ (h.lt _ x)
 have F0:=aa ((Fr.refl (KG g v) w).alloc (.cells #[.int .i64 0,.string ⟨#[]⟩,.int .i64 0,.int .i64 0,.nilFunc] 239))
 clear h
 go_enter Tryz.func160,Tryz.ntmps160
 go_wp2_with fail
 refine (cI J.out.qt hq _ T0).mono ?_
 rintro r w1 ⟨rfl,h1⟩
 have H1:=aa h1
 clear h1
 go_wp2_with fail
 refine (kS H1.out hq).mono ?_
 rintro r w1 ⟨k,hk,rfl,h1⟩
 have HK:=aa hk
 have wT:=hk.le
 clear hk H1
 have M1:=aa (J.out.step h1)
 have F1:=aa (F0.out.trans (KG.of h1.f))
 have B1:=aa (B0.out.fr (KG.of h1.f) hnk)
 clear h1 J F0 B0
 go_wp2_with fail
 refine (mL M1.out _ (by simp [ByteArray.size_append,ByteArray.size_extract]; have e2:(⟨#[91,39]⟩:ByteArray).size=2:=rfl; have e3:(⟨#[39,93]⟩:ByteArray).size=2:=rfl; omega)).mono ?_
 rintro r w2 ⟨rfl,p2,v2,h2,f2⟩
 have e4:bs (⟨#[91,39]⟩++q.extract a k++⟨#[39,93]⟩)=[91,39]++sub (bs q) a k++[39,93]:=by rw [fS,fS,cP]; rfl
 rw [e4] at h2
 have M2:=aa h2
 clear e4
 have F2:=aa (F1.out.trans f2)
 have B2:=aa (B1.out.fr f2 hnk)
 have Rq:¬KG g v2 w.heap.size:=h2.apart B2.out (by decide) (λ e=>hnk (Or.inl e.symm))
 clear h2 f2 M1 F1 B1
 have hfz:=B2.out.fz
 have z0:=B2.out.cell 0
 have z1:=B2.out.cell 1
 have z2:=B2.out.cell 2
 have z3:=B2.out.cell 3
 have z4:=B2.out.cell 4
 simp at z0 z1 z2 z3 z4
 go_wp2
 refine H8 rfl rfl (((((B2.out.set 0 _).set 1 _).set 2 _).set 3 _).set 4 _) ?_
 refine ⟨k,HK.out,rfl,p2,v2,M2.out.uK _ Rq _ _ _ _ _,?_⟩
 have hr:∀{W:World} (x:Fr (KG g v) w W) (i:Nat) (y:Value),Fr (KG g v) w (W.setCell ⟨w.heap.size,i,none⟩ y):=λ x i y=>x.setCell ⟨w.heap.size,i,none⟩ (Or.inr (Nat.le_refl _)) y
 exact hr (hr (hr (hr (hr F2.out 0 _) 1 _) 2 _) 3 _) 4 _
end Go.Proofs.YtcbadebjpogmlaaGreatDoor
