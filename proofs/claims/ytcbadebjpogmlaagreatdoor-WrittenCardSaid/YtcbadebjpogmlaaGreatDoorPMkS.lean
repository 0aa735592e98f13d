import Derived.Test.YtcbadebjpogmlaaGreatDoorPMkQ
import Derived.Laws.EntriesVeiled
namespace Go.Proofs.YtcbadebjpogmlaaGreatDoor
open Go.RowKit Tr
structure SV where
 k:Int
 nm:ByteArray
 fr:Int
 to:Int
 met:Value
 hm:met=.nilFunc∨∃f x y,met=.func f x y
def SV.cells (s:SV):List Value:=[.int .i64 s.k,.string s.nm,.int .i64 s.fr,.int .i64 s.to,s.met]
def SV.agg (s:SV):Value:=.agg #[.int .i64 s.k,.string s.nm,.int .i64 s.fr,.int .i64 s.to,s.met]
theorem SV.one (s:SV):∀u ∈ s.cells,u.oneCell'=true:=by
 intro u hu
 simp [SV.cells] at hu
 rcases hu with rfl | rfl | rfl | rfl | rfl
 ·rfl
 ·rfl
 ·rfl
 ·rfl
 rcases s.hm with h | ⟨f,x,y,h⟩<;>rw [h]<;>rfl
def SelIs (w:World) (s:SV) (x:Sel):Prop :=
 (x.sort=1∧s.k=0)∨(x.sort=2∧s.k=1∧x.name=bs s.nm)∨(x.sort=3∧s.k=2∧x.n=s.fr∧0≤s.fr)∨(x.sort=3∧s.k=3∧x.n=-s.fr∧0<s.fr∧s.fr≤1000) ∨
 (x.sort=4∧s.k=4∧x.frm=s.fr∧((x.to<0∧4000000<s.to)∨(0≤x.to∧x.to=s.to)))∨(x.sort=5∧s.k=5∧CondV w s.met x.wh)
def SeP (g:Nat) (q:ByteArray) (p v:Value) (n:Nat) (w0:World) (a:Nat) (k:Int) (nm:ByteArray) (fr to:Int) (met:Value) (r:Ending) (w':World):Prop:=r=.returned (.agg #[.int .i64 k,.string nm,.int .i64 fr,.int .i64 to,met])∧Qt g q p v n w0 a w'
theorem Qt.set5 {g:Nat} {q:ByteArray} {p v:Value} {n:Nat} {w0 w:World} {a:Nat} (h:Qt g q p v n w0 a w) (b:Nat) (hb:w0.heap.size≤b) (hg:g≠b) (x0 x1 x2 x3 x4:Value) :
 Qt g q p v n w0 a (((((w.setCell ⟨b,0,none⟩ x0).setCell ⟨b,1,none⟩ x1).setCell ⟨b,2,none⟩ x2).setCell ⟨b,3,none⟩ x3).setCell ⟨b,4,none⟩ x4) :=
 ⟨((((h.b.other hg 0 _).other hg 1 _).other hg 2 _).other hg 3 _).other hg 4 _,
  ((((h.f.setCell ⟨b,0,none⟩ (Or.inr hb) _).setCell ⟨b,1,none⟩ (Or.inr hb) _).setCell ⟨b,2,none⟩ (Or.inr hb) _).setCell ⟨b,3,none⟩ (Or.inr hb) _).setCell ⟨b,4,none⟩ (Or.inr hb) _,h.le⟩
set_option maxHeartbeats 1000000 in
theorem ret_mk {R:Ending→World→Prop} {a:Act} {W:World} {g:Nat} {x0 x1 x2 x3 x4:Value} (hd:a.defers=[]) (ha:a.tmps[2]?.getD undef=.pointer (some ⟨g,0,none⟩))
 (hB:Blk W g #[x0,x1,x2,x3,x4] 239) (hR:R (.returned (.agg #[x0,x1,x2,x3,x4])) W):bodyPost Tryz.prog Tryz.f203 R .ret a W:=by
 have k0:=hB.cell 0
 have k1:=hB.cell 1
 have k2:=hB.cell 2
 have k3:=hB.cell 3
 have k4:=hB.cell 4
 simp at k0 k1 k2 k3 k4
 refine bodyPost_ret (v:=.agg #[x0,x1,x2,x3,x4]) ?_ hd hR
 simp [results,Tryz.results203,go_sem,ha,k0,k1,k2,k3,k4]
set_option maxHeartbeats 1000000 in
theorem se_star {w0 w:World} {g:Nat} {q:ByteArray} {p v:Value} {n:Nat} (hq:q.size≤1000) {t:St} (h:Qt g q p v n w0 t.p w) (T0:tk q t.p ⟨#[42]⟩=true) :
 Calls Tryz.prog 203 #[.pointer (some ⟨g,0,none⟩)] w (SeP g q p v n w0 (t.p+1) 0 ⟨#[]⟩ 0 0 .nilFunc):=by
 have J:=hide (h.alloc (.cells #[.int .i64 0,.string ⟨#[]⟩,.int .i64 0,.int .i64 0,.nilFunc] 239))
 have H:=hide J.out.here
 have B0:=hide (Blk.new w #[.int .i64 0,.string ⟨#[]⟩,.int .i64 0,.int .i64 0,.nilFunc] 239)
 have hne:g≠w.heap.size:=Nat.ne_of_lt h.b.lt
 have hw0:w0.heap.size≤w.heap.size:=h.f.size
 clear h
 go_enter Tryz.func203,Tryz.ntmps203
 go_wp2_with fail
 refine (c_yes H.out hq _ T0 (t.p+1) rfl).mono ?_
 rintro r w1 ⟨rfl,h1⟩
 clear H
 have H:=hide h1
 clear h1
 have B:=hide (B0.out.fr H.out.f (fun e=>hne e.symm))
 have hfz:=B.out.fz
 have z0:=B.out.cell 0
 have z1:=B.out.cell 1
 have z2:=B.out.cell 2
 have z3:=B.out.cell 3
 have z4:=B.out.cell 4
 simp at z0 z1 z2 z3 z4
 have F:=hide (J.out.join H.out)
 clear H J B0
 go_wp2
 refine ret_mk rfl rfl (((((B.out.set 0 _).set 1 _).set 2 _).set 3 _).set 4 _) ?_
 exact ⟨rfl,F.out.set5 _ hw0 hne _ _ _ _ _⟩
set_option maxHeartbeats 1000000 in
theorem se_quote {w0 w:World} {g:Nat} {q:ByteArray} {p v:Value} {n:Nat} (hq:q.size≤1000) {t:St} (h:Qt g q p v n w0 t.p w) (T0:tk q t.p ⟨#[42]⟩=false) (T1:tk q t.p ⟨#[39]⟩=true) :
 Calls Tryz.prog 203 #[.pointer (some ⟨g,0,none⟩)] w (fun r w'=>∃k,RunP isQuo q (t.p+1) k∧SeP g q p v n w0 (if tk q k ⟨#[39]⟩ then k+1 else k) 1 (q.extract (t.p+1) k) 0 0 .nilFunc r w'):=by
 have J:=hide (h.alloc (.cells #[.int .i64 0,.string ⟨#[]⟩,.int .i64 0,.int .i64 0,.nilFunc] 239))
 have H:=hide J.out.here
 have B0:=hide (Blk.new w #[.int .i64 0,.string ⟨#[]⟩,.int .i64 0,.int .i64 0,.nilFunc] 239)
 have hne:g≠w.heap.size:=Nat.ne_of_lt h.b.lt
 have hw0:w0.heap.size≤w.heap.size:=h.f.size
 clear h
 go_enter Tryz.func203,Tryz.ntmps203
 go_wp2_with fail
 refine (c_no H.out hq _ T0).mono ?_
 rintro r w1 ⟨rfl,h1⟩
 clear H
 have H:=hide h1
 clear h1
 go_wp2_with fail
 refine (c_yes H.out hq _ T1 (t.p+1) rfl).mono ?_
 rintro r w1 ⟨rfl,h1⟩
 clear H
 have H:=hide h1
 clear h1
 go_wp2_with fail
 refine (c_quoted H.out hq).mono ?_
 rintro r w1 ⟨k,hk,rfl,h1⟩
 have HK:=hide hk
 clear H hk
 have H:=hide h1
 clear h1
 have B:=hide (B0.out.fr H.out.f (fun e=>hne e.symm))
 have hfz:=B.out.fz
 have z0:=B.out.cell 0
 have z1:=B.out.cell 1
 have z2:=B.out.cell 2
 have z3:=B.out.cell 3
 have z4:=B.out.cell 4
 simp at z0 z1 z2 z3 z4
 have F:=hide (J.out.join H.out)
 clear H J B0
 go_wp2
 refine ret_mk rfl rfl (((((B.out.set 0 _).set 1 _).set 2 _).set 3 _).set 4 _) ?_
 exact ⟨k,HK.out,⟨rfl,F.out.set5 _ hw0 hne _ _ _ _ _⟩⟩
set_option maxHeartbeats 1000000 in
theorem se_minus {w0 w:World} {g:Nat} {q:ByteArray} {p v:Value} {n:Nat} (hq:q.size≤1000) {t:St} (h:Qt g q p v n w0 t.p w) (T0:tk q t.p ⟨#[42]⟩=false) (T1:tk q t.p ⟨#[39]⟩=false) (T2:tk q t.p ⟨#[45]⟩=true) (he:Er g w0) (h18:∀k,RunP isDig q (t.p+1) k→k≤t.p+1+18) :
 Calls Tryz.prog 203 #[.pointer (some ⟨g,0,none⟩)] w (fun r w'=>∃k,RunP isDig q (t.p+1) k∧SeP g q p v n w0 k 3 ⟨#[]⟩ ((cVal (bs q) (t.p+1) k:Nat):Int) 0 .nilFunc r w'):=by
 have J:=hide (h.alloc (.cells #[.int .i64 0,.string ⟨#[]⟩,.int .i64 0,.int .i64 0,.nilFunc] 239))
 have H:=hide J.out.here
 have B0:=hide (Blk.new w #[.int .i64 0,.string ⟨#[]⟩,.int .i64 0,.int .i64 0,.nilFunc] 239)
 have hne:g≠w.heap.size:=Nat.ne_of_lt h.b.lt
 have hw0:w0.heap.size≤w.heap.size:=h.f.size
 clear h
 have HE:=hide (he.keep J.out.f)
 have H18:=hide h18
 clear he h18
 go_enter Tryz.func203,Tryz.ntmps203
 go_wp2_with fail
 refine (c_no H.out hq _ T0).mono ?_
 rintro r w1 ⟨rfl,h1⟩
 clear H
 have H:=hide h1
 clear h1
 go_wp2_with fail
 refine (c_no H.out hq _ T1).mono ?_
 rintro r w1 ⟨rfl,h1⟩
 clear H
 have H:=hide h1
 clear h1
 go_wp2_with fail
 refine (c_yes H.out hq _ T2 (t.p+1) rfl).mono ?_
 rintro r w1 ⟨rfl,h1⟩
 clear H
 have H:=hide h1
 clear h1
 go_wp2_with fail
 refine (k_count H.out hq HE.out H18.out _).mono ?_
 rintro r w1 ⟨k,m,⟨hk,hm⟩,rfl,h1⟩
 rw [cVal_if] at hm
 subst hm
 have HK:=hide hk
 clear H hk
 have H:=hide h1
 clear h1
 have B:=hide (B0.out.fr H.out.f (fun e=>hne e.symm))
 have hfz:=B.out.fz
 have z0:=B.out.cell 0
 have z1:=B.out.cell 1
 have z2:=B.out.cell 2
 have z3:=B.out.cell 3
 have z4:=B.out.cell 4
 simp at z0 z1 z2 z3 z4
 have F:=hide (J.out.join H.out)
 clear H J B0
 go_wp2
 refine ret_mk rfl rfl (((((B.out.set 0 _).set 1 _).set 2 _).set 3 _).set 4 _) ?_
 exact ⟨k,HK.out,⟨rfl,F.out.set5 _ hw0 hne _ _ _ _ _⟩⟩
set_option maxHeartbeats 1000000 in
theorem se_where {w0 w:World} {g:Nat} {q:ByteArray} {p v:Value} {n:Nat} (hq:q.size≤1000) {t:St} (h:Qt g q p v n w0 t.p w) (T0:tk q t.p ⟨#[42]⟩=false) (T1:tk q t.p ⟨#[39]⟩=false) (T2:tk q t.p ⟨#[45]⟩=false) (T3:tk q t.p ⟨#[63]⟩=true) (hf:FinP (bs q)) (he:Er g w0) {q0 c d:Nat} (hok:Live (bs q) q0 c 10 [] d (adv t)) :
 Calls Tryz.prog 203 #[.pointer (some ⟨g,0,none⟩)] w (fun r w'=>∃t' f D φ,Live (bs q) q0 c 18 [] d t'∧(bt (bs q) t'.p≠38∧bt (bs q) t'.p≠124)∧(∀N φ0,bd q 2 (t.p+1)≤N→pC (bs q) N 2 (t.p+1) φ0=⟨φ,t'.p⟩)∧Ft D w.heap.size w'∧OkD D w' (fun w=>CondV w f φ)∧SeP g q p v n w0 t'.p 5 ⟨#[]⟩ 0 0 f r w'):=by
 have J:=hide (h.alloc (.cells #[.int .i64 0,.string ⟨#[]⟩,.int .i64 0,.int .i64 0,.nilFunc] 239))
 have H:=hide J.out.here
 have B0:=hide (Blk.new w #[.int .i64 0,.string ⟨#[]⟩,.int .i64 0,.int .i64 0,.nilFunc] 239)
 have hne:g≠w.heap.size:=Nat.ne_of_lt h.b.lt
 have hw0:w0.heap.size≤w.heap.size:=h.f.size
 clear h
 have HE:=hide (he.keep J.out.f)
 have HF:=hide hf
 have L:=hide hok
 clear he hf hok
 go_enter Tryz.func203,Tryz.ntmps203
 go_wp2_with fail
 refine (c_no H.out hq _ T0).mono ?_
 rintro r w1 ⟨rfl,h1⟩
 clear H
 have H:=hide h1
 clear h1
 go_wp2_with fail
 refine (c_no H.out hq _ T1).mono ?_
 rintro r w1 ⟨rfl,h1⟩
 clear H
 have H:=hide h1
 clear h1
 go_wp2_with fail
 refine (c_no H.out hq _ T2).mono ?_
 rintro r w1 ⟨rfl,h1⟩
 clear H
 have H:=hide h1
 clear h1
 go_wp2_with fail
 refine (c_yes H.out hq _ T3 (t.p+1) rfl).mono ?_
 rintro r w1 ⟨rfl,h1⟩
 clear H
 have H:=hide h1
 clear h1
 go_wp2_with fail
 refine (k_cond (t:=adv t) hq HF.out (HE.out.keep H.out.f) L.out H.out.here).mono ?_
 rintro r w2 ⟨t2,f2,D2,φ2,hl,hn,hpc,rfl,hft,hok,h2⟩
 obtain ⟨N2,cap2,rfl,_,_⟩:=hok.self
 have L2:=hide hl
 have N2':=hide hn
 have PC2:=hide hpc
 have FT2:=hide hft
 have OK2:=hide hok
 have hsz1:w.heap.size<w1.heap.size:=Nat.lt_of_lt_of_le (by simp) H.out.f.size
 have H':=hide (H.out.join h2)
 clear H hl hn hpc hft hok h2
 have H:=hide H'.out
 clear H'
 have B:=hide (B0.out.fr H.out.f (fun e=>hne e.symm))
 have hfz:=B.out.fz
 have z0:=B.out.cell 0
 have z1:=B.out.cell 1
 have z2:=B.out.cell 2
 have z3:=B.out.cell 3
 have z4:=B.out.cell 4
 simp at z0 z1 z2 z3 z4
 have F:=hide (J.out.join H.out)
 clear H J B0
 go_wp2
 refine ret_mk rfl rfl (((((B.out.set 0 _).set 1 _).set 2 _).set 3 _).set 4 _) ?_
 have hr:∀{W:World} (x:Sm D2 w2 W) (i:Nat) (y:Value),Sm D2 w2 (W.setCell ⟨w.heap.size,i,none⟩ y):=fun x i y k hk=>(Below.heap_setCell _ _ _ _ (by show k≠w.heap.size; have:=FT2.out.ge k hk; omega)).trans (x k hk)
 have s5:=hr (hr (hr (hr (hr (fun _ _=>rfl) 0 (.int .i64 5)) 1 (.string ⟨#[]⟩)) 2 (.int .i64 0)) 3 (.int .i64 0)) 4 (.func (.func N2) #[] cap2)
 exact ⟨t2,_,D2,φ2,L2.out,⟨N2'.out 38 (by simp),N2'.out 124 (by simp)⟩,PC2.out,(FT2.out.keep s5).low (Nat.le_of_lt hsz1),OK2.out.keep s5,rfl,F.out.set5 _ hw0 hne _ _ _ _ _⟩
set_option maxHeartbeats 1000000 in
theorem se_one {w0 w:World} {g:Nat} {q:ByteArray} {p v:Value} {n:Nat} (hq:q.size≤1000) {t:St} (h:Qt g q p v n w0 t.p w) (T0:tk q t.p ⟨#[42]⟩=false) (T1:tk q t.p ⟨#[39]⟩=false) (T2:tk q t.p ⟨#[45]⟩=false) (T3:tk q t.p ⟨#[63]⟩=false) (he:Er g w0) {a:Nat} (ha:∀k,RunP isDig q t.p k→k=a) (h18:∀k,RunP isDig q t.p k→k≤t.p+18) (T5:tk q a ⟨#[58]⟩=false) :
 Calls Tryz.prog 203 #[.pointer (some ⟨g,0,none⟩)] w (SeP g q p v n w0 a 2 ⟨#[]⟩ ((cVal (bs q) t.p a:Nat):Int) 0 .nilFunc):=by
 have J:=hide (h.alloc (.cells #[.int .i64 0,.string ⟨#[]⟩,.int .i64 0,.int .i64 0,.nilFunc] 239))
 have H:=hide J.out.here
 have B0:=hide (Blk.new w #[.int .i64 0,.string ⟨#[]⟩,.int .i64 0,.int .i64 0,.nilFunc] 239)
 have hne:g≠w.heap.size:=Nat.ne_of_lt h.b.lt
 have hw0:w0.heap.size≤w.heap.size:=h.f.size
 clear h
 have HE:=hide (he.keep J.out.f)
 have H18:=hide h18
 clear he h18
 have HA:=hide ha
 clear ha
 go_enter Tryz.func203,Tryz.ntmps203
 go_wp2_with fail
 refine (c_no H.out hq _ T0).mono ?_
 rintro r w1 ⟨rfl,h1⟩
 clear H
 have H:=hide h1
 clear h1
 go_wp2_with fail
 refine (c_no H.out hq _ T1).mono ?_
 rintro r w1 ⟨rfl,h1⟩
 clear H
 have H:=hide h1
 clear h1
 go_wp2_with fail
 refine (c_no H.out hq _ T2).mono ?_
 rintro r w1 ⟨rfl,h1⟩
 clear H
 have H:=hide h1
 clear h1
 go_wp2_with fail
 refine (c_no H.out hq _ T3).mono ?_
 rintro r w1 ⟨rfl,h1⟩
 clear H
 have H:=hide h1
 clear h1
 go_wp2_with fail
 refine (k_count H.out hq HE.out H18.out _).mono ?_
 rintro r w1 ⟨k,m,⟨hk,hm⟩,rfl,h1⟩
 rw [cVal_if] at hm
 subst hm
 have HK:=hide hk
 clear H hk
 have H:=hide h1
 clear h1
 obtain rfl:=HA.out k HK.out
 go_wp2_with fail
 refine (c_no H.out hq _ T5).mono ?_
 rintro r w1 ⟨rfl,h1⟩
 clear H
 have H:=hide h1
 clear h1
 have B:=hide (B0.out.fr H.out.f (fun e=>hne e.symm))
 have hfz:=B.out.fz
 have z0:=B.out.cell 0
 have z1:=B.out.cell 1
 have z2:=B.out.cell 2
 have z3:=B.out.cell 3
 have z4:=B.out.cell 4
 simp at z0 z1 z2 z3 z4
 have F:=hide (J.out.join H.out)
 clear H J B0
 go_wp2
 refine ret_mk rfl rfl (((((B.out.set 0 _).set 1 _).set 2 _).set 3 _).set 4 _) ?_
 exact ⟨rfl,F.out.set5 _ hw0 hne _ _ _ _ _⟩
set_option maxHeartbeats 1000000 in
theorem se_two {w0 w:World} {g:Nat} {q:ByteArray} {p v:Value} {n:Nat} (hq:q.size≤1000) {t:St} (h:Qt g q p v n w0 t.p w) (T0:tk q t.p ⟨#[42]⟩=false) (T1:tk q t.p ⟨#[39]⟩=false) (T2:tk q t.p ⟨#[45]⟩=false) (T3:tk q t.p ⟨#[63]⟩=false) (he:Er g w0) {a:Nat} (ha:∀k,RunP isDig q t.p k→k=a) (h18:∀k,RunP isDig q t.p k→k≤t.p+18) (T5:tk q a ⟨#[58]⟩=true) (h19:∀k,RunP isDig q (a+1) k→k≤a+1+18) :
 Calls Tryz.prog 203 #[.pointer (some ⟨g,0,none⟩)] w (fun r w'=>∃k,RunP isDig q (a+1) k∧SeP g q p v n w0 k 4 ⟨#[]⟩ ((cVal (bs q) t.p a:Nat):Int) (if k=a+1 then 9223372036854775807 else ((cVal (bs q) (a+1) k:Nat):Int)) .nilFunc r w'):=by
 have J:=hide (h.alloc (.cells #[.int .i64 0,.string ⟨#[]⟩,.int .i64 0,.int .i64 0,.nilFunc] 239))
 have H:=hide J.out.here
 have B0:=hide (Blk.new w #[.int .i64 0,.string ⟨#[]⟩,.int .i64 0,.int .i64 0,.nilFunc] 239)
 have hne:g≠w.heap.size:=Nat.ne_of_lt h.b.lt
 have hw0:w0.heap.size≤w.heap.size:=h.f.size
 clear h
 have HE:=hide (he.keep J.out.f)
 have H18:=hide h18
 clear he h18
 have HA:=hide ha
 have H19:=hide h19
 clear ha h19
 go_enter Tryz.func203,Tryz.ntmps203
 go_wp2_with fail
 refine (c_no H.out hq _ T0).mono ?_
 rintro r w1 ⟨rfl,h1⟩
 clear H
 have H:=hide h1
 clear h1
 go_wp2_with fail
 refine (c_no H.out hq _ T1).mono ?_
 rintro r w1 ⟨rfl,h1⟩
 clear H
 have H:=hide h1
 clear h1
 go_wp2_with fail
 refine (c_no H.out hq _ T2).mono ?_
 rintro r w1 ⟨rfl,h1⟩
 clear H
 have H:=hide h1
 clear h1
 go_wp2_with fail
 refine (c_no H.out hq _ T3).mono ?_
 rintro r w1 ⟨rfl,h1⟩
 clear H
 have H:=hide h1
 clear h1
 go_wp2_with fail
 refine (k_count H.out hq HE.out H18.out _).mono ?_
 rintro r w1 ⟨k,m,⟨hk,hm⟩,rfl,h1⟩
 rw [cVal_if] at hm
 subst hm
 have HK:=hide hk
 clear H hk
 have H:=hide h1
 clear h1
 obtain rfl:=HA.out k HK.out
 go_wp2_with fail
 refine (c_yes H.out hq _ T5 (k+1) rfl).mono ?_
 rintro r w1 ⟨rfl,h1⟩
 clear H
 have H:=hide h1
 clear h1
 go_wp2_with fail
 refine (k_count H.out hq HE.out H19.out _).mono ?_
 rintro r w1 ⟨k2,m2,⟨hk,hm2⟩,rfl,h1⟩
 have HK2:=hide hk
 have HM2:=hide hm2
 clear H hk hm2
 have H:=hide h1
 clear h1
 have B:=hide (B0.out.fr H.out.f (fun e=>hne e.symm))
 have hfz:=B.out.fz
 have z0:=B.out.cell 0
 have z1:=B.out.cell 1
 have z2:=B.out.cell 2
 have z3:=B.out.cell 3
 have z4:=B.out.cell 4
 simp at z0 z1 z2 z3 z4
 have F:=hide (J.out.join H.out)
 clear H J B0
 go_wp2
 refine ret_mk rfl rfl (((((B.out.set 0 _).set 1 _).set 2 _).set 3 _).set 4 _) ?_
 exact ⟨k2,HK2.out,by rw [← HM2.out],F.out.set5 _ hw0 hne _ _ _ _ _⟩
theorem run_none {ok:Nat→Bool} {q:ByteArray} {a k:Nat} (h:RunP ok q a k) (hn:ok (bt (bs q) a)=false):k=a:=by
 rcases Nat.lt_or_ge a k with x | x
 ·rw [h.all a (Nat.le_refl _) x] at hn; cases hn
 have:=h.ge; omega
def SeM (g:Nat) (q:ByteArray) (p v:Value) (n:Nat) (w0 w:World) (q0 c a:Nat) (r:Ending) (w':World):Prop :=
 ∃t' s D,Live (bs q) q0 c 9 [] 0 t'∧(pSel (bs q) a).p=t'.p∧r=.returned s.agg∧Ft D w.heap.size w'∧OkD D w' (fun w=>SelIs w s (pSel (bs q) a).v)∧Qt g q p v n w0 t'.p w'
theorem SeM.of {g:Nat} {q:ByteArray} {p v:Value} {n:Nat} {w0 w:World} {q0 c a:Nat} {r:Ending} {w':World} {t':St} {k:Int} {nm:ByteArray} {fr to:Int} (hl:Live (bs q) q0 c 9 [] 0 t') (hp:(pSel (bs q) a).p=t'.p) (h:SeP g q p v n w0 t'.p k nm fr to .nilFunc r w')
 (hs:∀w,SelIs w ⟨k,nm,fr,to,.nilFunc,Or.inl rfl⟩ (pSel (bs q) a).v):SeM g q p v n w0 w q0 c a r w' :=
 ⟨t',⟨k,nm,fr,to,.nilFunc,Or.inl rfl⟩,fun _=>False,hl,hp,h.1,Ft.none _ _,fun w _=>hs w,h.2⟩
theorem k_selector {w0 w:World} {g:Nat} {q:ByteArray} {p v:Value} {n:Nat} (hq:q.size≤1000) (hf:FinP (bs q)) (he:Er g w0) {q0 c:Nat} {t:St} (hok:Live (bs q) q0 c 6 [] 0 t) (h:Qt g q p v n w0 t.p w) :
 Calls Tryz.prog 203 #[.pointer (some ⟨g,0,none⟩)] w (SeM g q p v n w0 w q0 c t.p):=by
 have e0:=hok.e0
 by_cases h1:sees (bs q) t 42=true
 ·have eP:pSel (bs q) t.p=⟨⟨1,[],0,0,0,fun _=>false⟩,t.p+1⟩:=by unfold pSel; rw [if_pos (sees_b h1)]
  exact (se_star hq h ((tk1 q e0 42).trans h1)).mono (fun r w' hr=>SeM.of (t':=adv t) (fin_live hf (sel_star (Or.inl hok) h1)) (by rw [eP]; rfl) hr (fun w=>by rw [eP]; exact Or.inl ⟨rfl,rfl⟩))
 have h1:sees (bs q) t 42=false:=by simpa using h1
 have T0:=tk_ne (sign:=⟨#[42]⟩) e0 rfl h1
 by_cases h2:sees (bs q) t 39=true
 ·have a1:=fin_live hf (sel_quote (Or.inl hok) h2)
  have e1:must1 (bs q) t 39=adv t:=by unfold must1; rw [if_pos h2]
  unfold quoteP at a1
  rw [e1] at a1
  refine (se_quote hq h T0 ((tk1 q e0 39).trans h2)).mono ?_
  rintro r w' ⟨k,hk,hr⟩
  obtain ⟨b1,b2⟩:=quote_eq (t:=adv t) a1.e0 hk
  rw [b2,if_pos rfl] at hr
  rw [b1] at a1
  have eP:pSel (bs q) t.p=⟨⟨2,sub (bs q) (t.p+1) k,0,0,0,fun _=>false⟩,k+1⟩:=by unfold pSel; rw [if_neg (sees_nb e0 h1),if_pos (sees_b h2),hk.eq (by decide)]
  exact SeM.of a1 (by rw [eP]) hr (fun w=>by rw [eP]; exact Or.inr (Or.inl ⟨rfl,rfl,(bs_extract _ _ _).symm⟩))
 have h2:sees (bs q) t 39=false:=by simpa using h2
 have T1:=tk_ne (sign:=⟨#[39]⟩) e0 rfl h2
 by_cases h3:sees (bs q) t 45=true
 ·have a1:=fin_live hf (sel_minus (Or.inl hok) h3)
  unfold countP minusP at a1
  simp only [if_true,Bool.true_and] at a1
  have e1:has (bs q) t 45=adv t:=by unfold has; rw [if_pos h3]
  rw [e1] at a1
  refine (se_minus hq h T0 T1 ((tk1 q e0 45).trans h3) he (fun k hk=>?_)).mono ?_
  ·have:=(cnt_eq hf (t:=adv t) e0 a1 (Or.inr (Or.inl rfl)) hk).2
   simp only [adv] at this
   omega
  rintro r w' ⟨k,hk,hr⟩
  have hhd:=cnt_head (t:=adv t) e0 a1.e0
  have hce:=cnt_eq hf (t:=adv t) e0 a1 (Or.inr (Or.inl rfl)) hk
  rw [hce.1] at a1
  have hlt:t.p+1<k:=by
   rcases Nat.lt_or_ge (t.p+1) k with x | x
   ·exact x
   exfalso
   have hkk:k=t.p+1:=by have:=hk.ge; omega
   have h9:=hhd.1
   rw [show (adv t).p=t.p+1 from rfl,← hkk] at h9
   have h10:=hk.stop (by have:=isDig_lt h9; rcases Nat.lt_or_ge k q.size with y | y; exact y; rw [btB_ge (by omega)] at this; omega)
   rw [h9] at h10
   cases h10
  have eP:pSel (bs q) t.p=⟨⟨3,[],-(cVal (bs q) (t.p+1) k:Int),0,0,fun _=>false⟩,k⟩:=by unfold pSel; rw [if_neg (sees_nb e0 h1),if_neg (sees_nb e0 h2),if_pos (sees_b h3),hk.eq (by decide)]
  have v1:=hk.pos hlt (hhd.2 (by first | rfl | exact h3))
  have v2:=hk.val hce.2
  exact SeM.of a1 (by rw [eP]) hr (fun w=>by rw [eP]; exact Or.inr (Or.inr (Or.inr (Or.inl ⟨rfl,rfl,rfl,by show (0:Int)<((cVal (bs q) (t.p+1) k:Nat):Int); omega,by show ((cVal (bs q) (t.p+1) k:Nat):Int)≤1000; omega⟩))))
 have h3:sees (bs q) t 45=false:=by simpa using h3
 have T2:=tk_ne (sign:=⟨#[45]⟩) e0 rfl h3
 by_cases h4:sees (bs q) t 63=true
 ·have a1:=fin_live hf (sel_where (Or.inl hok) h4)
  refine (se_where hq h T0 T1 T2 ((tk1 q e0 63).trans h4) hf he a1).mono ?_
  rintro r w' ⟨t2,f,D,φ,hl,hn,hpc,hft,hokd,hr⟩
  have hx:bd q 2 (t.p+1)≤4 * (bs q).length+9:=by rw [bs_len]; simp [bd]; omega
  have eP:pSel (bs q) t.p=⟨⟨5,[],0,0,0,φ⟩,t2.p⟩:=by unfold pSel; rw [if_neg (sees_nb e0 h1),if_neg (sees_nb e0 h2),if_neg (sees_nb e0 h3),if_pos (sees_b h4),hpc _ _ hx]
  obtain ⟨N2,cap2,hff,_,_⟩:=hokd.self
  exact ⟨t2,⟨5,⟨#[]⟩,0,0,f,Or.inr ⟨_,_,_,hff⟩⟩,D,fin_live hf (ok_where (Or.inl hl) (fun _=>hn)),by rw [eP],hr.1,hft,fun w s=>by rw [eP]; exact Or.inr (Or.inr (Or.inr (Or.inr (Or.inr ⟨rfl,rfl,hokd w s⟩)))),hr.2⟩
 have h4:sees (bs q) t 63=false:=by simpa using h4
 have T3:=tk_ne (sign:=⟨#[63]⟩) e0 rfl h4
 have hr0:∀a,(∀k,RunP isDig q t.p k→k=a)→rEnd isDig (bs q) t.p=a:=fun a ha=>by
  have hle:t.p≤q.size:=h.le
  refine ha _ ⟨run_ge _ _ _ _,?_,fun i h1 h2=>run_ok _ _ _ _ i h1 h2,fun _=>rEnd_stop _ _ _ (by decide)⟩
  rcases Nat.lt_or_ge q.size (rEnd isDig (bs q) t.p) with x | x
  ·have:=run_ok isDig (bs q) _ t.p q.size hle x
   rw [btB_ge (by omega)] at this
   cases this
  exact x
 have no3:=(⟨sees_nb e0 h1,sees_nb e0 h2,sees_nb e0 h3,sees_nb e0 h4⟩:bt (bs q) t.p≠42∧bt (bs q) t.p≠39∧bt (bs q) t.p≠45∧bt (bs q) t.p≠63)
 -- a place, or the piece from it on
 have rest:∀(t1:St),t1.e=0→(∀k,RunP isDig q t.p k→k=t1.p)→t1.p≤t.p+3→(sees (bs q) t1 58=true→Live (bs q) q0 c 8 [] 0 { t1 with p:=t1.p+1 })→(sees (bs q) t1 58=false→Live (bs q) q0 c 9 [] 0 t1) →
  Calls Tryz.prog 203 #[.pointer (some ⟨g,0,none⟩)] w (SeM g q p v n w0 w q0 c t.p):=by
  intro t1 e1 hk1 hle ha hb
  have hrE:rEnd isDig (bs q) t.p=t1.p:=hr0 t1.p hk1
  by_cases h6:sees (bs q) t1 58=true
  ·have a1:=ha h6
   have T5:tk q t1.p ⟨#[58]⟩=true:=(tk1 q e1 58).trans h6
   by_cases h7:digit (bs q) { t1 with p:=t1.p+1 }=true
   ·have a2:=fin_live hf (sel_to (Or.inl a1) h7)
    unfold countP minusP at a2
    simp only [Bool.false_and] at a2
    rw [if_neg (by decide)] at a2
    refine (se_two hq h T0 T1 T2 T3 he hk1 (fun k hk=>by have:=hk1 k hk; omega) T5 (fun k hk=>?_)).mono ?_
    ·have:=(cnt_eq hf (t:={ t1 with p:=t1.p+1 }) e1 a2 (Or.inr (Or.inl rfl)) hk).2
     simp only at this
     omega
    rintro r w' ⟨k,hk,hr⟩
    have eP:pSel (bs q) t.p=⟨⟨4,[],0,(cVal (bs q) t.p t1.p:Int),(if k=t1.p+1 then -1 else (cVal (bs q) (t1.p+1) k:Int)),fun _=>false⟩,k⟩:=by
     unfold pSel
     rw [if_neg no3.1,if_neg no3.2.1,if_neg no3.2.2.1,if_neg no3.2.2.2,hrE,if_pos (sees_b h6),hk.eq (by decide)]
    have hce:=cnt_eq hf (t:={ t1 with p:=t1.p+1 }) e1 a2 (Or.inr (Or.inl rfl)) hk
    have hv:=hk.val hce.2
    rw [hce.1] at a2
    have hne:k≠t1.p+1:=fun x=>by
     have h9:isDig (bt (bs q) (t1.p+1))=true:=by simpa [digit,e1] using h7
     rw [← x] at h9
     have h10:=hk.stop (by have:=isDig_lt h9; rcases Nat.lt_or_ge k q.size with y | y; exact y; rw [btB_ge (by omega)] at this; omega)
     rw [h9] at h10
     cases h10
    rw [if_neg hne] at hr eP
    exact SeM.of a2 (by rw [eP]) hr (fun w=>by rw [eP]; exact Or.inr (Or.inr (Or.inr (Or.inr (Or.inl ⟨rfl,rfl,rfl,Or.inr ⟨by show (0:Int)≤((cVal (bs q) (t1.p+1) k:Nat):Int); omega,rfl⟩⟩)))))
   have h7:digit (bs q) { t1 with p:=t1.p+1 }=false:=by simpa using h7
   have a2:=fin_live hf (sel_noto (Or.inl a1) h7)
   have hd:isDig (bt (bs q) (t1.p+1))=false:=by simpa [digit,e1] using h7
   refine (se_two hq h T0 T1 T2 T3 he hk1 (fun k hk=>by have:=hk1 k hk; omega) T5 (fun k hk=>?_)).mono ?_
   ·have:=run_none hk hd; omega
   rintro r w' ⟨k,hk,hr⟩
   have eP:pSel (bs q) t.p=⟨⟨4,[],0,(cVal (bs q) t.p t1.p:Int),(if k=t1.p+1 then -1 else (cVal (bs q) (t1.p+1) k:Int)),fun _=>false⟩,k⟩:=by
    unfold pSel
    rw [if_neg no3.1,if_neg no3.2.1,if_neg no3.2.2.1,if_neg no3.2.2.2,hrE,if_pos (sees_b h6),hk.eq (by decide)]
   have hkk:=run_none hk hd
   rw [if_pos hkk] at hr eP
   rw [hkk] at hr eP
   exact SeM.of a2 (by rw [eP]) hr (fun w=>by rw [eP]; exact Or.inr (Or.inr (Or.inr (Or.inr (Or.inl ⟨rfl,rfl,rfl,Or.inl ⟨by show (-1:Int)<0; decide,by show (4000000:Int)<9223372036854775807; decide⟩⟩)))))
  have h6:sees (bs q) t1 58=false:=by simpa using h6
  have T5:=tk_ne (sign:=⟨#[58]⟩) e1 rfl h6
  exact (se_one hq h T0 T1 T2 T3 he hk1 (fun k hk=>by have:=hk1 k hk; omega) T5).mono (fun r w' hr=>by
   have eP:pSel (bs q) t.p=⟨⟨3,[],(cVal (bs q) t.p t1.p:Int),0,0,fun _=>false⟩,t1.p⟩:=by
    unfold pSel
    rw [if_neg no3.1,if_neg no3.2.1,if_neg no3.2.2.1,if_neg no3.2.2.2,hrE,if_neg (sees_nb e1 h6)]
   exact SeM.of (hb h6) (by rw [eP]) hr (fun w=>by rw [eP]; exact Or.inr (Or.inr (Or.inl ⟨rfl,rfl,rfl,by show (0:Int)≤((cVal (bs q) t.p t1.p:Nat):Int); omega⟩))))
 have colon:∀(t1:St) (X:Nat),X=6∨X=7→Live (bs q) q0 c X [] 0 t1→sees (bs q) t1 58=true→Live (bs q) q0 c 8 [] 0 { t1 with p:=t1.p+1 }:=by
  intro t1 X hX hl hs
  have a1:=fin_live hf (sel_colon hX (Or.inl hl) hs)
  obtain ⟨_,e2⟩:=tk_must (sign:=⟨#[58]⟩) a1.e0
  rw [show [58]=nb ⟨#[58]⟩ from rfl,e2] at a1
  exact a1
 by_cases h5:sees (bs q) t 58=true
 ·have hd:isDig (bt (bs q) t.p)=false:=by rw [(sees_e h5).2]; decide
  exact rest t e0 (fun k hk=>run_none hk hd) (by omega) (fun hs=>colon t 6 (Or.inl rfl) hok hs) (fun hs=>by rw [h5] at hs; cases hs)
 have h5:sees (bs q) t 58=false:=by simpa using h5
 have a1:=fin_live hf (sel_count (Or.inl hok) h1 h2 h4 h3 h5)
 unfold countP minusP at a1
 simp only [if_true,Bool.true_and] at a1
 have e1:has (bs q) t 45=t:=by unfold has; rw [if_neg (by rw [h3]; decide)]
 rw [e1] at a1
 have hle:(countQ (bs q) t (sees (bs q) t 45)).p≤t.p+3:=by
  unfold countQ
  split
  ·unfold wrong; split<;>simp
  split
  ·simp [adv]
  unfold runP
  split
  ·exact run_le _ _ _ _
  omega
 refine rest _ a1.e0 (fun k hk=>?_) hle (fun hs=>colon _ 7 (Or.inr rfl) a1 hs) (fun hs=>fin_live hf (sel_nocolon (Or.inl a1) hs))
 have:=(cnt_eq hf e0 a1 (Or.inl rfl) hk).1
 rw [this]
end Go.Proofs.YtcbadebjpogmlaaGreatDoor
namespace Go.Proofs.YtcbadebjpogmlaaGreatDoor
open Go.RowKit Tr
theorem m_clone (s:ByteArray) (w:World) (hlim:s.size≤281474976710656):Calls Tryz.prog 62 #[.string s] w fun r w'=>r=.returned (.string s)∧Below w.heap.size w w':=by
 go_enter Tryz.func62,Tryz.ntmps62
 go_wp2_with fail
 refine (l_clone s w hlim).mono ?_
 rintro r w1 ⟨rfl,hb⟩
 have H:=hide hb
 clear hb
 go_wp2
 go_ret
 exact ⟨rfl,H.out⟩
theorem Mk.qt {g:Nat} {q:ByteArray} {a:Nat} {t:List UInt8} {n:Nat} {p v:Value} {w:World} (h:Mk g q a t n p v w):Qt g q p v n w a w:=⟨h.b,Fr.refl _ _,h.le⟩
theorem Mk.step {g:Nat} {q:ByteArray} {a a':Nat} {t:List UInt8} {n:Nat} {p v:Value} {w w':World} (h:Mk g q a t n p v w) (k:Qt g q p v n w a' w'):Mk g q a' t n p v w' :=
 ⟨k.b,h.o,own_fr h.row k.f (fun k hk e=>by omega),k.le⟩
theorem Mk.alloc {g:Nat} {q:ByteArray} {a:Nat} {t:List UInt8} {n:Nat} {p v:Value} {w:World} (h:Mk g q a t n p v w) (o:Obj):Mk g q a t n p v (w.alloc o):=h.step (h.qt.alloc o)
theorem Mk.lt {g:Nat} {q:ByteArray} {a:Nat} {t:List UInt8} {n:Nat} {p v:Value} {w:World} (h:Mk g q a t n p v w):∀k,KG g v k→k<w.heap.size:=by
 rintro k (rfl | hk)
 ·exact h.b.lt
 exact (h.row.lt k hk).2
theorem KG.of {g:Nat} {v:Value} {w w':World} (h:Fr (fun k=>k=g) w w'):Fr (KG g v) w w':=h.mono (fun _ _ e=>Or.inl e)
def WsP (g:Nat) (q:ByteArray) (a:Nat) (t:List UInt8) (n:Nat) (v:Value) (w:World) (k:Int) (nm:ByteArray) (r:Ending) (w':World):Prop :=
 r=.returned (.agg #[.int .i64 k,.string nm,.int .i64 0,.int .i64 0,.nilFunc])∧∃p' v',Mk g q a t n p' v' w'∧Fr (KG g v) w w'
theorem Mk.set5 {g:Nat} {q:ByteArray} {a:Nat} {t:List UInt8} {n:Nat} {p v:Value} {w:World} (h:Mk g q a t n p v w) (b:Nat) (hb:¬KG g v b) (x0 x1 x2 x3 x4:Value) :
 Mk g q a t n p v (((((w.setCell ⟨b,0,none⟩ x0).setCell ⟨b,1,none⟩ x1).setCell ⟨b,2,none⟩ x2).setCell ⟨b,3,none⟩ x3).setCell ⟨b,4,none⟩ x4):=by
 have hg:g≠b:=fun e=>hb (Or.inl e.symm)
 have f:Fr (fun k=>k=b) w (((((w.setCell ⟨b,0,none⟩ x0).setCell ⟨b,1,none⟩ x1).setCell ⟨b,2,none⟩ x2).setCell ⟨b,3,none⟩ x3).setCell ⟨b,4,none⟩ x4) :=
  (((((Fr.refl (fun k=>k=b) w).setCell ⟨b,0,none⟩ (Or.inl rfl) _).setCell ⟨b,1,none⟩ (Or.inl rfl) _).setCell ⟨b,2,none⟩ (Or.inl rfl) _).setCell ⟨b,3,none⟩ (Or.inl rfl) _).setCell ⟨b,4,none⟩ (Or.inl rfl) _
 refine ⟨h.b.fr f hg,h.o,?_,h.le⟩
 refine ⟨h.row.1,?_⟩
 rcases h.row.2 with x | ⟨k,cap,cur,h1,h2,h3,h4⟩
 ·exact Or.inl x
 refine Or.inr ⟨k,cap,cur,h1,h2,(f.block k (lt_of_some h3) (fun e=>hb (Or.inr (by rw [h1,← e]; rfl)))).trans h3,h4⟩
theorem Mk.apart {g:Nat} {q:ByteArray} {a:Nat} {t:List UInt8} {n:Nat} {p v:Value} {w:World} (h:Mk g q a t n p v w) {b:Nat} {cs:Array Value} {T:TypeId} (hb:Blk w b cs T) (hT:T≠5) (hg:g≠b):¬KG g v b:=by
 rintro (e | e)
 ·exact hg e.symm
 rcases h.row.2 with ⟨x,_⟩ | ⟨k,cap,cur,x1,_,x3,_⟩
 ·rw [x] at e; cases e
 rw [x1] at e
 have ek:k=b:=Option.some.inj e
 subst ek
 unfold Blk at hb
 rw [x3] at hb
 injection hb with hb
 injection hb with _ h2 _
 exact hT h2.symm
set_option maxHeartbeats 1000000 in
theorem ret_ws {R:Ending→World→Prop} {a:Act} {W:World} {g:Nat} {x0 x1 x2 x3 x4:Value} (hd:a.defers=[]) (ha:a.tmps[2]?.getD undef=.pointer (some ⟨g,0,none⟩))
 (hB:Blk W g #[x0,x1,x2,x3,x4] 239) (hR:R (.returned (.agg #[x0,x1,x2,x3,x4])) W):bodyPost Tryz.prog Tryz.f160 R .ret a W:=by
 have k0:=hB.cell 0
 have k1:=hB.cell 1
 have k2:=hB.cell 2
 have k3:=hB.cell 3
 have k4:=hB.cell 4
 simp at k0 k1 k2 k3 k4
 refine bodyPost_ret (v:=.agg #[x0,x1,x2,x3,x4]) ?_ hd hR
 simp [results,Tryz.results160,go_sem,ha,k0,k1,k2,k3,k4]
set_option maxHeartbeats 1000000 in
theorem ws_star {w:World} {g:Nat} {q:ByteArray} {a:Nat} {t:List UInt8} {n:Nat} {p v:Value} (hq:q.size≤1000) (h:Mk g q a t n p v w) (hl:t.length≤100000) (T0:tk q a ⟨#[42]⟩=true) :
 Calls Tryz.prog 160 #[.pointer (some ⟨g,0,none⟩)] w (WsP g q (a+1) (t++[91,42,93]) n v w 0 ⟨#[]⟩):=by
 have J:=hide (h.alloc (.cells #[.int .i64 0,.string ⟨#[]⟩,.int .i64 0,.int .i64 0,.nilFunc] 239))
 have B0:=hide (Blk.new w #[.int .i64 0,.string ⟨#[]⟩,.int .i64 0,.int .i64 0,.nilFunc] 239)
 have hnk:¬KG g v w.heap.size:=fun x=>Nat.lt_irrefl _ (h.lt _ x)
 have F0:=hide ((Fr.refl (KG g v) w).alloc (.cells #[.int .i64 0,.string ⟨#[]⟩,.int .i64 0,.int .i64 0,.nilFunc] 239))
 clear h
 go_enter Tryz.func160,Tryz.ntmps160
 go_wp2_with fail
 refine (c_yes J.out.qt hq _ T0 (a+1) rfl).mono ?_
 rintro r w1 ⟨rfl,h1⟩
 have M1:=hide (J.out.step h1)
 have F1:=hide (F0.out.trans (KG.of h1.f))
 have B1:=hide (B0.out.fr (KG.of h1.f) hnk)
 clear h1 J F0 B0
 go_wp2_with fail
 refine (c_write M1.out ⟨#[91,42,93]⟩ (by show t.length+3≤_; omega)).mono ?_
 rintro r w2 ⟨rfl,p2,v2,h2,f2⟩
 have M2:=hide h2
 have F2:=hide (F1.out.trans f2)
 have B2:=hide (B1.out.fr f2 hnk)
 have hnk2:¬KG g v2 w.heap.size:=h2.apart B2.out (by decide) (fun e=>hnk (Or.inl e.symm))
 clear h2 f2 M1 F1 B1
 have hfz:=B2.out.fz
 have z0:=B2.out.cell 0
 have z1:=B2.out.cell 1
 have z2:=B2.out.cell 2
 have z3:=B2.out.cell 3
 have z4:=B2.out.cell 4
 simp at z0 z1 z2 z3 z4
 go_wp2
 refine ret_ws rfl rfl (((((B2.out.set 0 _).set 1 _).set 2 _).set 3 _).set 4 _) ?_
 refine ⟨rfl,p2,v2,M2.out.set5 _ hnk2 _ _ _ _ _,?_⟩
 have hr:∀{W:World} (x:Fr (KG g v) w W) (i:Nat) (y:Value),Fr (KG g v) w (W.setCell ⟨w.heap.size,i,none⟩ y):=fun x i y=>x.setCell ⟨w.heap.size,i,none⟩ (Or.inr (Nat.le_refl _)) y
 exact hr (hr (hr (hr (hr F2.out 0 _) 1 _) 2 _) 3 _) 4 _
set_option maxHeartbeats 1000000 in
theorem ws_word {w:World} {g:Nat} {q:ByteArray} {a:Nat} {t:List UInt8} {n:Nat} {p v:Value} (hq:q.size≤1000) (h:Mk g q a t n p v w) (hl:t.length≤100000) (T0:tk q a ⟨#[42]⟩=false) :
 Calls Tryz.prog 160 #[.pointer (some ⟨g,0,none⟩)] w (fun r w'=>∃k,RunP isLet q a k∧WsP g q k (t++([91,39]++sub (bs q) a k++[39,93])) n v w 1 (q.extract a k) r w'):=by
 have J:=hide (h.alloc (.cells #[.int .i64 0,.string ⟨#[]⟩,.int .i64 0,.int .i64 0,.nilFunc] 239))
 have B0:=hide (Blk.new w #[.int .i64 0,.string ⟨#[]⟩,.int .i64 0,.int .i64 0,.nilFunc] 239)
 have hnk:¬KG g v w.heap.size:=fun x=>Nat.lt_irrefl _ (h.lt _ x)
 have F0:=hide ((Fr.refl (KG g v) w).alloc (.cells #[.int .i64 0,.string ⟨#[]⟩,.int .i64 0,.int .i64 0,.nilFunc] 239))
 clear h
 go_enter Tryz.func160,Tryz.ntmps160
 go_wp2_with fail
 refine (c_no J.out.qt hq _ T0).mono ?_
 rintro r w1 ⟨rfl,h1⟩
 have H1:=hide h1
 clear h1
 go_wp2_with fail
 refine (c_run_isLetter H1.out hq).mono ?_
 rintro r w1 ⟨k,hk,rfl,h1⟩
 have HK:=hide hk
 have hkq:=hk.le
 clear hk H1
 have M1:=hide (J.out.step h1)
 have F1:=hide (F0.out.trans (KG.of h1.f))
 have B1:=hide (B0.out.fr (KG.of h1.f) hnk)
 clear h1 J F0 B0
 go_wp2_with fail
 refine (c_write M1.out _ (by simp [ByteArray.size_append,ByteArray.size_extract]; have e2:(⟨#[91,39]⟩:ByteArray).size=2:=rfl; have e3:(⟨#[39,93]⟩:ByteArray).size=2:=rfl; omega)).mono ?_
 rintro r w2 ⟨rfl,p2,v2,h2,f2⟩
 have e4:bs (⟨#[91,39]⟩++q.extract a k++⟨#[39,93]⟩)=[91,39]++sub (bs q) a k++[39,93]:=by rw [bs_append,bs_append,bs_extract]; rfl
 rw [e4] at h2
 have M2:=hide h2
 clear e4
 have F2:=hide (F1.out.trans f2)
 have B2:=hide (B1.out.fr f2 hnk)
 have hnk2:¬KG g v2 w.heap.size:=h2.apart B2.out (by decide) (fun e=>hnk (Or.inl e.symm))
 clear h2 f2 M1 F1 B1
 have hfz:=B2.out.fz
 have z0:=B2.out.cell 0
 have z1:=B2.out.cell 1
 have z2:=B2.out.cell 2
 have z3:=B2.out.cell 3
 have z4:=B2.out.cell 4
 simp at z0 z1 z2 z3 z4
 go_wp2
 refine ret_ws rfl rfl (((((B2.out.set 0 _).set 1 _).set 2 _).set 3 _).set 4 _) ?_
 refine ⟨k,HK.out,rfl,p2,v2,M2.out.set5 _ hnk2 _ _ _ _ _,?_⟩
 have hr:∀{W:World} (x:Fr (KG g v) w W) (i:Nat) (y:Value),Fr (KG g v) w (W.setCell ⟨w.heap.size,i,none⟩ y):=fun x i y=>x.setCell ⟨w.heap.size,i,none⟩ (Or.inr (Nat.le_refl _)) y
 exact hr (hr (hr (hr (hr F2.out 0 _) 1 _) 2 _) 3 _) 4 _
end Go.Proofs.YtcbadebjpogmlaaGreatDoor
