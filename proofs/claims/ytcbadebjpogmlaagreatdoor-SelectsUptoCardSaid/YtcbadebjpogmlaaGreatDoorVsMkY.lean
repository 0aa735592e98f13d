import Derived.Test.YtcbadebjpogmlaaGreatDoorVsMkU
import Derived.Test.YtcbadebjpogmlaaGreatDoorVsPlain7
import Derived.Test.YtcbadebjpogmlaaGreatDoorVsRefF
import Derived.Deep.Cut
set_option maxHeartbeats 2000000
set_option maxRecDepth 100000
namespace Go.Proofs.YtcbadebjpogmlaaGreatDoor
open Go.RowKit Tr
structure FU (g:Nat) (w w':World):Prop where
 os:w'.os=w.os
 tape:w'.tape=w.tape
 output:w'.output=w.output
 size:w.heap.size<=w'.heap.size
 low:∀k,k<g->k<w.heap.size->w'.heap[k]?=w.heap[k]?
 typ:∀k cs T fz,k≠g->T≠5->w.heap[k]?=some (.cells cs T fz)->w'.heap[k]?=w.heap[k]?
theorem FU.trans {g:Nat} {a b c:World} (h:FU g a b) (k:FU g b c):FU g a c :=
 ⟨k.os.trans h.os,k.tape.trans h.tape,k.output.trans h.output,Nat.le_trans h.size k.size,λ i hi hs=>(k.low i hi (Nat.lt_of_lt_of_le hs h.size)).trans (h.low i hi hs),
  λ i cs T fz hi hT hc=>(k.typ i cs T fz hi hT ((h.typ i cs T fz hi hT hc).trans hc)).trans (h.typ i cs T fz hi hT hc)⟩
theorem FU.refl (g:Nat) (w:World):FU g w w:=⟨rfl,rfl,rfl,Nat.le_refl _,λ_ _ _=>rfl,λ_ _ _ _ _ _ _=>rfl⟩
theorem FU.of {g:Nat} {q:ByteArray} {a:Nat} {t:List UInt8} {n:Nat} {p v:Value} {w w':World} (h:Mk g q a t n p v w) (f:Fr (KG g v) w w'):FU g w w':=by
 refine ⟨f.os,f.tape,f.output,f.size,λ k hk hs=>f.block k hs ?_,λ k cs T fz hk hT hc=>f.block k (bH hc) ?_⟩
 ·rintro (e | e)
  ·omega
  have:=(h.row.lt k e).1; omega
 rintro (e | e)
 ·exact hk e
 rcases h.row.2 with ⟨x,_⟩ | ⟨k2,cap,cur,x1,_,x3,_⟩
 ·rw [x] at e; cases e
 rw [x1] at e
 have ek:k2=k:=Option.some.inj e
 subst ek
 rw [x3] at hc
 injection hc with hc
 injection hc with _ h2 _
 exact hT h2.symm
theorem FU.od {g:Nat} {w w':World} (f:Fr (λ k=>k=g) w w'):FU g w w' :=
 ⟨f.os,f.tape,f.output,f.size,λ k hk hs=>f.block k hs (by omega),λ k _ _ _ hk _ hc=>f.block k (bH hc) hk⟩
theorem FU.aL {g:Nat} {w w':World} (f:Below w.heap.size w w'):FU g w w':=FU.od (Fr.aL f)
theorem FU.drewN {g:Nat} {a w:World} (h:FU g a w) (n:Nat):FU g a (w.drewN n):=⟨h.os,h.tape,h.output,h.size,h.low,h.typ⟩
theorem Er.fu {g:Nat} {w w':World} (h:Er g w) (f:FU g w w') (hG:6<g):Er g w':=by
 obtain ⟨⟨ev,h1,h2⟩,h3,h4⟩:=h
 exact ⟨⟨ev,(World.cell?_of_block (w:=w) (a:=⟨6,0,none⟩) (f.low _ hG h4)).trans h1,h2⟩,h3,Nat.lt_of_lt_of_le h4 f.size⟩
def Wf (g:Nat) (q:ByteArray) (a n:Nat) (w:World) (r:Ending) (w':World):Prop :=
 ∃(t':St) (n':Nat) (uM:List UInt8) (p' v' f f':Value) (x:Sg) (D:Nat->Prop),lS (bs q) n' uM t'/\a<t'.p/\n'=n+x.l.length/\r=.returned (.agg #[f,f',.bool x.late])/\fD (bs q) a=⟨x,t'.p⟩/\(Ft D w.heap.size w'/\fR D w' (λ w=>SgV w f f' x))/\Mk g q t'.p uM n' p' v' w'/\FU g w w'
def zU (g:Nat) (q:ByteArray) (a n:Nat) (R:PS (List b_)) (w:World) (r:Ending) (w':World):Prop :=
 ∃(t':St) (j cp:Nat) (ao:Option Addr) (uM:List UInt8) (p' v':Value) (l:List SV) (xs:List b_) (D:Nat->Prop),lS (bs q) (n+j) uM t'/\a<=t'.p/\j<=q.size/\r=.returned (.slice ao j cp) /\
  (xA w.heap.size xs D (.slice ao j cp) l w'/\xs.length=j/\l.length=j/\R=⟨xs,t'.p⟩)/\Mk g q t'.p uM n p' v' w'/\FU g w w'
theorem lS.few {s:List UInt8} {c:Nat} {acc:List UInt8} {t:St} (h:lS s c acc t):c<=t.p:=by
 have:=Le s t.p
 have:=h.ct
 omega
theorem Ik {q:ByteArray} {a:Nat} (h:bt (bs q) a≠46\/bt (bs q) (a+1)≠46):tk q a ⟨#[46,46]⟩=false:=by
 rw [jZ]
 show (bt (bs q) a == 46 && (bt (bs q) (a+1) == 46 && true))=false
 rcases h with h | h<;>simp [h]
theorem Mr {q:ByteArray} {a:Nat} (h:bt (bs q) a=46) (h':bt (bs q) (a+1)=46):tk q a ⟨#[46,46]⟩=true:=by
 rw [jZ]
 show (bt (bs q) a == 46 && (bt (bs q) (a+1) == 46 && true))=true
 simp [h,h']
theorem zU.le {g:Nat} {q:ByteArray} {a b n:Nat} {R:PS (List b_)} {w:World} (hab:b<=a) {r:Ending} {w':World} (h:zU g q a n R w r w'):zU g q b n R w r w':=by
 obtain ⟨t',j,cp,ao,uM,p',v',l,xs,D,h1,h2,h3⟩:=h
 exact ⟨t',j,cp,ao,uM,p',v',l,xs,D,h1,by omega,h3⟩
theorem aaO {q:ByteArray} {a:Nat} {c:UInt8} (h:tk q a ⟨#[c]⟩=true):bt (bs q) a=c.toNat:=by
 rw [jZ] at h
 have:(bt (bs q) a == c.toNat && true)=true:=h
 simpa using this
theorem Wg {q:ByteArray} {a:Nat} {c:UInt8} (h:tk q a ⟨#[c]⟩=false):bt (bs q) a≠c.toNat:=by
 rw [jZ] at h
 have:(bt (bs q) a == c.toNat && true)=false:=h
 simpa using this
theorem xI {w:World} {B:Nat} (hB:B<=w.heap.size) (s:SV) (x:b_) (h:∀w,lR w s x):xA B [x] (λ_=>False) (.slice (some ⟨w.heap.size,0,none⟩) 1 1) [s] (w.alloc (.cells #[.int .i64 s.k,.string s.nm,.int .i64 s.fr,.int .i64 s.to,s.met] 239)) :=
 bP.one (Ft.none _ _) (λ w' _ y he=>by simp at he; subst he; exact h w') (xB w B s hB)
theorem FU.zV {g:Nat} {w W:World} (h:FU g w W) {k:Nat} (hk:w.heap.size<=k) (i:Nat) (z:Value):FU g w (W.setCell ⟨k,i,none⟩ z) :=
 ⟨h.os,h.tape,h.output,by simp [World.setCell]; exact h.size,λ j hj hs=>(Below.heap_setCell _ _ _ _ (by show j≠k; omega)).trans (h.low j hj hs),
  λ j cs T fz hj hT hc=>(Below.heap_setCell _ _ _ _ (by show j≠k; have:=bH hc; omega)).trans (h.typ j cs T fz hj hT hc)⟩
theorem FU.blk {g:Nat} {w W:World} (h:FU g w W) {k:Nat} {cs:Array Value} {T:TypeId} (hb:ay w k cs T) (hT:T≠5) (hk:k≠g):ay W k cs T:=(h.typ k cs T (0,0) hk hT hb).trans hb
theorem Mk.qL {g:Nat} {q:ByteArray} {a:Nat} {t:List UInt8} {n:Nat} {p v:Value} {w:World} (h:Mk g q a t n p v w) {b:Nat} (hb:¬KG g v b) (i:Nat) (x:Value):Mk g q a t n p v (w.setCell ⟨b,i,none⟩ x):=by
 have hg:g≠b:=λ e=>hb (Or.inl e.symm)
 have f:Fr (λ k=>k=b) w (w.setCell ⟨b,i,none⟩ x):=(Fr.refl (λ k=>k=b) w).setCell ⟨b,i,none⟩ (Or.inl rfl) _
 refine ⟨h.b.fr f hg,h.o,?_,h.le⟩
 refine ⟨h.row.1,?_⟩
 rcases h.row.2 with x | ⟨k,cap,cur,h1,h2,h3,h4⟩
 ·exact Or.inl x
 refine Or.inr ⟨k,cap,cur,h1,h2,(f.block k (bH h3) (λ e=>hb (Or.inr (by rw [h1,<-e]; rfl)))).trans h3,h4⟩
structure WdB (s:List UInt8) (c:Nat) (acc:List UInt8) (t:St):Prop where
 e0':t.e=0
 b:lS s c (acc++([91,39]++sub s t.p (bC s t).p++[39,93])) (bC s t)
theorem WdB.e0 {s:List UInt8} {c:Nat} {acc:List UInt8} {t:St} (h:WdB s c acc t):(bC s t).e=0:=h.b.e0
theorem Pf {w:World} {g:Nat} {q:ByteArray} {eF:List UInt8} {n:Nat} {p v:Value} (hq:q.size<=1000) (hf:bz (bs q)) (he:Er g w) (hG:6<g) {t:St} (h:Mk g q t.p eF n p v w) (hl:eF.length<=10000)
 (E_:tk q t.p ⟨#[91]⟩=true) (B91:Hid (bt (bs q) t.p=91)) (TX:Hid (T (bs q) (t.p+1)=eF++[91])) (LV:Hid (Live (bs q) (t.p+1) (n+1) 6 [] 0 { t with p:=t.p+1 })) :
 Calls Tryz.prog 115 #[.pointer (some ⟨g,0,none⟩)] w (zU g q (t.p+1) n (yS (bs q) t.p) w):=by
 have HE:=aa he
 have HF:=aa hf
 have Hv:=h.le
 have d0:w.cell? ⟨g,0,none⟩=some (.string q):=h.b.cell 0
 have d1:w.cell? ⟨g,1,none⟩=some (.int .i64 ((t.p:Nat):Int)):=h.b.cell 1
 have e1:((t.p:Nat):Int)<=(q.size:Int):=by omega
 have MM:=aa h
 clear h he hf
 go_enter Tryz.func115,Tryz.ntmps115
 go_wp2_with fail
 go_quiet ((go_at_call 113; exact Calls.quiet_of_same (gY _ _)))
 rw [qw,E_]
 have M3:Hid (Mk g q t.p eF n p v (w.drewN nq)):=⟨MM.out.b,MM.out.o,MM.out.row,MM.out.le⟩
 have F3:Hid (FU g w (w.drewN nq)):=(FU.refl g w).drewN nq
 have E3:Hid (Er g (w.drewN nq)):=HE.out.fu F3.out hG
 clear MM d0 d1 e1
 generalize w.drewN nq=w3 at *
 go_wp2_with fail
 refine (xC (t:=t) hq HF.out E3.out M3.out (by omega) E_ LV.out).mono ?_
 rintro r w4 ⟨t4,j4,sv4,p4,v4,l4,xs4,D4,Wh,hlt,hj4,rfl,⟨hrow,hxl,jT,zk⟩,Wi,hF4⟩
 obtain ⟨ao,cp,qE⟩:=ah hrow.o
 rw [jT] at qE
 subst qE
 have vN:=aa hxl
 have js:=aa jT
 have HBR:=aa zk
 have Rh:w.heap.size<=w3.heap.size:=F3.out.size
 have Wj:t.p<t4.p:=hlt
 have B4:Hid (lS (bs q) (n+j4) (eF++sub (bs q) (t.p) t4.p) t4):=by
  have eK:lS (bs q) (n+j4) (T (bs q) (t.p+1)++sub (bs q) (t.p+1) t4.p) t4:=Wh
  rw [show T (bs q) (t.p+1)=eF++[91] from TX.out] at eK
  rw [wW (b:=91) B91.out Wj]
  show lS _ _ _ _
  simpa [List.append_assoc] using eK
 have F4:Hid (FU g w w4):=F3.out.trans (FU.of M3.out hF4)
 have R4:=aa hrow
 have M4:=aa Wi
 clear Wh hlt hrow Wi hF4 M3 F3 E3 hxl jT zk
 go_wp2
 go_ret
 exact ⟨t4,j4,cp,ao,_,p4,v4,l4,xs4,D4,B4.out,by omega,by omega,rfl,⟨bP.low R4.out Rh,vN.out,js.out,HBR.out⟩,M4.out,F4.out⟩
theorem BM {w:World} {g:Nat} {q:ByteArray} {eF:List UInt8} {n:Nat} {p v:Value} (hq:q.size<=1000) (hf:bz (bs q)) (he:Er g w) (hG:6<g) {t u:St} (h:Mk g q t.p eF n p v w) (hl:eF.length<=10000)
 (E_:tk q t.p ⟨#[91]⟩=false) (hu:tk q t.p ⟨#[46]⟩=false/\u=t\/tk q t.p ⟨#[46]⟩=true/\u=aG t) (Wl:tk q u.p ⟨#[42]⟩=true) (BB:Hid (lS (bs q) (n+1) (eF++[91,42,93]) (aG u))) :
 Calls Tryz.prog 115 #[.pointer (some ⟨g,0,none⟩)] w (zU g q u.p n (fE (bs q) u.p) w):=by
 have HE:=aa he
 have HF:=aa hf
 have Hv:=h.le
 have d0:w.cell? ⟨g,0,none⟩=some (.string q):=h.b.cell 0
 have d1:w.cell? ⟨g,1,none⟩=some (.int .i64 ((t.p:Nat):Int)):=h.b.cell 1
 have e1:((t.p:Nat):Int)<=(q.size:Int):=by omega
 have MM:=aa h
 have HU:Hid ((if tk q t.p ⟨#[46]⟩ then t.p+(⟨#[46]⟩:ByteArray).size else t.p)=u.p):=by
  rcases hu with ⟨e,rfl⟩ | ⟨e,rfl⟩
  ·rw [e]; exact aa rfl
  rw [e]; exact aa rfl
 clear h he hf hu
 go_enter Tryz.func115,Tryz.ntmps115
 go_wp2_with fail
 go_quiet ((go_at_call 113; exact Calls.quiet_of_same (gY _ _)))
 rw [qw,E_]
 have M3:Hid (Mk g q t.p eF n p v (w.drewN nq)):=⟨MM.out.b,MM.out.o,MM.out.row,MM.out.le⟩
 have F3:Hid (FU g w (w.drewN nq)):=(FU.refl g w).drewN nq
 have E3:Hid (Er g (w.drewN nq)):=HE.out.fu F3.out hG
 clear MM d0 d1 e1
 generalize w.drewN nq=w3 at *
 go_wp2_with fail
 refine (lB M3.out.qt hq ⟨#[46]⟩).mono ?_
 rintro r w4 ⟨rfl,h4⟩
 rw [HU.out] at h4
 clear HU
 generalize tk q t.p ⟨#[46]⟩=x4 at *
 have M4:Hid (Mk g q u.p eF n p v w4):=M3.out.step h4
 have F4:Hid (FU g w w4):=F3.out.trans (FU.od h4.f)
 clear h4 M3 F3 E3
 go_wp2_with fail
 refine (Mm hq M4.out (by omega) Wl).mono ?_
 rintro r w5 ⟨rfl,p5,v5,h5,f5⟩
 have PW:Hid (fE (bs q) (u.p)=⟨[⟨1,[],0,0,0,λ_=>false⟩],u.p+1⟩):=by show _=_; unfold fE; rw [if_pos (show bt (bs q) _=42 from aaO Wl)]
 have M5:=aa h5
 have hlq:u.p+1<=q.size:=h5.le
 have F5:Hid (FU g w w5):=F4.out.trans (FU.of M4.out f5)
 clear h5 f5 M4 F4
 have RC:w.heap.size<=w5.heap.size:=F5.out.size
 have R6:=aa (xI (w:=w5) RC ⟨0,⟨#[]⟩,0,0,.nilFunc,Or.inl rfl⟩ ⟨1,[],0,0,0,λ_=>false⟩ (λ_=>Or.inl ⟨rfl,rfl⟩))
 have M6:=aa (M5.out.alloc (.cells #[.int .i64 0,.string ⟨#[]⟩,.int .i64 0,.int .i64 0,.nilFunc] 239))
 have F6:=aa (F5.out.trans (FU.aL ((Fr.refl (λ_=>False) w5).alloc (.cells #[.int .i64 0,.string ⟨#[]⟩,.int .i64 0,.int .i64 0,.nilFunc] 239)).below))
 clear M5 F5
 go_wp2
 go_ret
 exact ⟨aG u,1,1,_,_,p5,v5,_,_,_,BB.out,by show _<=u.p+1; omega,by omega,rfl,⟨R6.out,rfl,rfl,PW.out⟩,M6.out,F6.out⟩
theorem BO {w:World} {g:Nat} {q:ByteArray} {eF:List UInt8} {n:Nat} {p v:Value} (hq:q.size<=1000) (hf:bz (bs q)) (he:Er g w) (hG:6<g) {t u:St} (h:Mk g q t.p eF n p v w) (hl:eF.length<=10000)
 (E_:tk q t.p ⟨#[91]⟩=false) (hu:tk q t.p ⟨#[46]⟩=false/\u=t\/tk q t.p ⟨#[46]⟩=true/\u=aG t) (Wl:tk q u.p ⟨#[42]⟩=false) (BB:Hid (WdB (bs q) (n+1) eF u)) :
 Calls Tryz.prog 115 #[.pointer (some ⟨g,0,none⟩)] w (zU g q u.p n (fE (bs q) u.p) w):=by
 have HE:=aa he
 have HF:=aa hf
 have Hv:=h.le
 have d0:w.cell? ⟨g,0,none⟩=some (.string q):=h.b.cell 0
 have d1:w.cell? ⟨g,1,none⟩=some (.int .i64 ((t.p:Nat):Int)):=h.b.cell 1
 have e1:((t.p:Nat):Int)<=(q.size:Int):=by omega
 have MM:=aa h
 have HU:Hid ((if tk q t.p ⟨#[46]⟩ then t.p+(⟨#[46]⟩:ByteArray).size else t.p)=u.p):=by
  rcases hu with ⟨e,rfl⟩ | ⟨e,rfl⟩
  ·rw [e]; exact aa rfl
  rw [e]; exact aa rfl
 clear h he hf hu
 go_enter Tryz.func115,Tryz.ntmps115
 go_wp2_with fail
 go_quiet ((go_at_call 113; exact Calls.quiet_of_same (gY _ _)))
 rw [qw,E_]
 have M3:Hid (Mk g q t.p eF n p v (w.drewN nq)):=⟨MM.out.b,MM.out.o,MM.out.row,MM.out.le⟩
 have F3:Hid (FU g w (w.drewN nq)):=(FU.refl g w).drewN nq
 have E3:Hid (Er g (w.drewN nq)):=HE.out.fu F3.out hG
 clear MM d0 d1 e1
 generalize w.drewN nq=w3 at *
 go_wp2_with fail
 refine (lB M3.out.qt hq ⟨#[46]⟩).mono ?_
 rintro r w4 ⟨rfl,h4⟩
 rw [HU.out] at h4
 clear HU
 generalize tk q t.p ⟨#[46]⟩=x4 at *
 have M4:Hid (Mk g q u.p eF n p v w4):=M3.out.step h4
 have F4:Hid (FU g w w4):=F3.out.trans (FU.od h4.f)
 clear h4 M3 F3 E3
 go_wp2_with fail
 refine (Mn hq M4.out (by omega) Wl).mono ?_
 rintro r w5 ⟨k,hk,rfl,p5,v5,h5,f5⟩
 have PW:Hid (fE (bs q) (u.p)=⟨[⟨2,sub (bs q) (u.p) k,0,0,0,λ_=>false⟩],k⟩):=by show _=_; unfold fE; rw [if_neg (show ¬bt (bs q) _=42 from Wg Wl),hk.eq (by decide)]
 have OF:bC (bs q) u={ u with p:=k }:=Bz BB.out.e0' BB.out.e0 (tE HF.out BB.out.b) hk
 have hkg:u.p<=k:=hk.ge
 have B5:Hid (lS (bs q) (n+1) (eF++([91,39]++sub (bs q) (u.p) k++[39,93])) { u with p:=k }):=by
  have:=BB.out.b
  rw [OF] at this
  exact this
 have M5:=aa h5
 have hlq:k<=q.size:=h5.le
 have ahS:n+1<=k:=lS.few B5.out
 have F5:Hid (FU g w w5):=F4.out.trans (FU.of M4.out f5)
 clear h5 f5 M4 F4 hk OF BB
 have RC:w.heap.size<=w5.heap.size:=F5.out.size
 have R6:=aa (xI (w:=w5) RC ⟨1,q.extract (u.p) k,0,0,.nilFunc,Or.inl rfl⟩ ⟨2,sub (bs q) (u.p) k,0,0,0,λ_=>false⟩ (λ_=>Or.inr (Or.inl ⟨rfl,rfl,(cP _ _ _).symm⟩)))
 have M6:=aa (M5.out.alloc (.cells #[.int .i64 1,.string (q.extract (u.p) k),.int .i64 0,.int .i64 0,.nilFunc] 239))
 have F6:=aa (F5.out.trans (FU.aL ((Fr.refl (λ_=>False) w5).alloc (.cells #[.int .i64 1,.string (q.extract (u.p) k),.int .i64 0,.int .i64 0,.nilFunc] 239)).below))
 clear M5 F5
 go_wp2
 go_ret
 exact ⟨{ u with p:=k },1,1,_,_,p5,v5,_,_,_,B5.out,by show _<=k; omega,by omega,rfl,⟨R6.out,rfl,rfl,PW.out⟩,M6.out,F6.out⟩
theorem RD {R:Ending->World->Prop} {a:Act} {W:World} {g:Nat} {x0 x1 x2:Value} (hd:a.defers=[]) (ha:a.tmps[2]?.getD undef=.pointer (some ⟨g,0,none⟩))
 (hB:ay W g #[x0,x1,x2] 128) (hR:R (.returned (.agg #[x0,x1,x2])) W):bodyPost Tryz.prog Tryz.f87 R .ret a W:=by
 have k0:=hB.cell 0
 have k1:=hB.cell 1
 have k2:=hB.cell 2
 simp at k0 k1 k2
 refine bodyPost_ret (v:=.agg #[x0,x1,x2]) ?_ hd hR
 simp [results,Tryz.results87,go_sem,ha,k0,k1,k2]
theorem qM {w:World} {g:Nat} {q:ByteArray} {eF:List UInt8} {n:Nat} {p v:Value} {R:PS (List b_)} {dp:Bool} {A P:Nat} {tx:List UInt8} (hq:q.size<=1000) {t:St} (h:Mk g q t.p eF n p v w) (hn:n<=1000) (hl:eF.length<=9000)
 (T2:tk q t.p ⟨#[46,46]⟩=dp) (hd:dp=false/\P=t.p/\tx=eF\/dp=true/\P=t.p+2/\tx=eF++[46,46]) (hA:t.p<A) (SS:∀(p' v':Value) (w':World),Mk g q P tx n p' v' w'->FU g w w'->Calls Tryz.prog 115 #[.pointer (some ⟨g,0,none⟩)] w' (zU g q A n R w')) (hP:fD (bs q) t.p=⟨⟨dp,R.v⟩,R.p⟩) :
 Calls Tryz.prog 87 #[.pointer (some ⟨g,0,none⟩)] w (Wf g q t.p n w):=by
 have HS:=aa SS
 have HP:=aa hP
 clear hP
 have MM:=aa (h.alloc (.cells #[.nilFunc,.nilFunc,.bool false] 128))
 have B0:=aa (ay.new w #[.nilFunc,.nilFunc,.bool false] 128)
 have FW:Hid (FU g w (w.alloc (.cells #[.nilFunc,.nilFunc,.bool false] 128))):=FU.aL ((Fr.refl (λ_=>False) w).alloc _).below
 obtain ⟨W0,hW0⟩:∃W0,W0=w.alloc (.cells #[.nilFunc,.nilFunc,.bool false] 128):=⟨_,rfl⟩
 have F0:Hid (FU g W0 W0):=FU.refl _ _
 have l5:g<w.heap.size:=h.b.lt
 rw [<-hW0] at MM B0 FW
 have HW:=aa hW0
 clear h SS hW0
 go_enter Tryz.func87,Tryz.ntmps87
 go_wp2_with fail
 rw [<-HW.out]
 refine (lB MM.out.qt hq ⟨#[46,46]⟩).mono ?_
 rintro r w1 ⟨rfl,h1⟩
 rw [T2] at h1 ⊢
 have M1:=aa (MM.out.step h1)
 have F1:Hid (FU g W0 w1):=F0.out.trans (FU.od h1.f)
 clear h1 MM F0 T2
 go_upto_if 7 with fail
 go_cut [] from 8 (λ wc=>∃p2 v2,Mk g q P tx n p2 v2 wc/\FU g W0 wc)
 case first =>
  rcases hd with ⟨rfl,rfl,rfl⟩ | ⟨rfl,rfl,rfl⟩
  ·go_wp2
   go_meet
   exact ⟨p,v,M1.out,F1.out⟩
  go_wp2_with fail
  refine (mL M1.out ⟨#[46,46]⟩ (by show eF.length+2<=_; omega)).mono ?_
  rintro r w2 ⟨rfl,p2,v2,h2,f2⟩
  have M2:Hid (Mk g q (t.p+2) (eF++[46,46]) n p2 v2 w2):=h2
  have F2:=aa (F1.out.trans (FU.of M1.out f2))
  clear h2 f2
  go_wp2
  go_meet
  exact ⟨p2,v2,M2.out,F2.out⟩
 case rest =>
 obtain ⟨p2,v2,h2,f2⟩:=hcut
 have M2:=aa h2
 have F2:=aa f2
 clear h2 f2 M1 F1 hd
 go_wp2_with fail
 refine (HS.out _ _ _ M2.out (FW.out.trans F2.out)).mono ?_
 rintro r w3 ⟨t',j,cp,ao,uM,p3,v3,l,xs,D,hb,hlt,hj,rfl,⟨hrow,hxl,jT,hR⟩,hM,hF⟩
 have vN:=aa hxl
 have js:=aa jT
 have HR:=aa hR
 have hgB:g<wc.heap.size:=M2.out.b.lt
 have uz:W0.heap.size<=wc.heap.size:=F2.out.size
 have Rh:wc.heap.size<=w3.heap.size:=hF.size
 have BB:=aa hb
 have F3:Hid (FU g W0 w3):=F2.out.trans hF
 have c4:w3.cell? ⟨g,4,none⟩=some (.int .i64 (n:Nat)):=hM.b.cell 4
 have fz4:=hM.b.fz 4
 have M4:=aa (hM.lZ (n+j))
 have e4:((n+j:Nat):Int)=(n:Int)+(j:Int):=by omega
 have f0:Fr (λ k=>k=g) w3 (w3.setCell ⟨g,4,none⟩ (.int .i64 ((n+j:Nat):Int))):=(Fr.refl (λ k=>k=g) w3).setCell ⟨g,4,none⟩ (Or.inl rfl) _
 have F4:=aa (F3.out.trans (FU.od f0))
 have R4:=aa (bP.fr hrow f0 (λ k hk e=>by omega))
 rw [e4] at M4 F4 R4
 clear hb hM hF F3 F2 M2 hrow f0 e4 hxl jT hR
 go_wp2_with fail
 refine (xF dp R4.out vN.out js.out (by omega) (by simp [World.setCell]; omega)).mono ?_
 rintro r w5 ⟨⟨f1,f2,D5,rfl,xl,qI⟩,BF⟩
 obtain ⟨N1,nW,rfl,_,_⟩:=qI.self.t
 obtain ⟨N2,cap2,rfl,_,_⟩:=qI.self.c
 have OZ:=aa xl
 have TZ:=aa qI
 clear xl qI
 have M5:=aa (M4.out.below BF)
 have F5:=aa (F4.out.trans (FU.aL BF))
 clear BF M4 F4 R4
 have B5:Hid (ay w5 w.heap.size #[.nilFunc,.nilFunc,.bool false] 128):=F5.out.blk B0.out (by decide) (by omega)
 have z0:=B5.out.cell 0
 have z1:=B5.out.cell 1
 have z2:=B5.out.cell 2
 have hfz:=B5.out.fz
 simp at z0 z1 z2
 go_wp2
 refine RD rfl rfl (((B5.out.set 0 _).set 1 _).set 2 _) ?_
 have hnk:¬KG g v3 w.heap.size:=M5.out.apart B5.out (by decide) (by omega)
 have hWs:W0.heap.size=w.heap.size+1:=by rw [HW.out]; simp
 have nd:∀q,D5 q->q≠w.heap.size:=λ q hq=>by have:=OZ.out.ge q hq; omega
 have hr:∀{W:World} (x:Sm D5 w5 W) (i:Nat) (y:Value),Sm D5 w5 (W.setCell ⟨w.heap.size,i,none⟩ y):=λ x i y k hk=>(Below.heap_setCell _ _ _ _ (by show k≠w.heap.size; exact nd k hk)).trans (x k hk)
 have s5:∀(a b c:Value),Sm D5 w5 (((w5.setCell ⟨w.heap.size,0,none⟩ a).setCell ⟨w.heap.size,1,none⟩ b).setCell ⟨w.heap.size,2,none⟩ c):=λ a b c=>hr (hr (hr (λ_ _=>rfl) 0 a) 1 b) 2 c
 refine ⟨t',n+j,uM,p3,v3,_,_,⟨dp,xs⟩,D5,BB.out,by omega,by show n+j=n+xs.length; rw [vN.out],rfl,by rw [HP.out,HR.out],⟨(OZ.out.keep (s5 _ _ _)).low (by omega),TZ.out.keep (s5 _ _ _)⟩,((M5.out.qL hnk 0 _).qL hnk 1 _).qL hnk 2 _,(((FW.out.trans F5.out).zV (Nat.le_refl _) 0 _).zV (Nat.le_refl _) 1 _).zV (Nat.le_refl _) 2 _⟩
theorem RG {s:List UInt8} {t:St} (h:aj s t 91=true):aN s t [91]=aG t:=by show aH s t 91=aG t; unfold aH; rw [if_pos h]
theorem j8 {s:List UInt8} {t:St} {b:Nat} (e:t.e=0) (h:bt s t.p=b):aj s t b=true:=by simp [aj,e,h]
theorem lC {s:List UInt8} {t:St} {b:Nat} (h:bt s t.p≠b):aj s t b=false:=by simp [aj,h]
theorem xJ {q:ByteArray} {t:St} (e:t.e=0) (c:UInt8) (h:bt (bs q) t.p=c.toNat):tk q t.p ⟨#[c]⟩=true:=(s_ q e c).trans (j8 e h)
theorem uN {q:ByteArray} {t:St} (e:t.e=0) (c:UInt8) (h:bt (bs q) t.p≠c.toNat):tk q t.p ⟨#[c]⟩=false:=(s_ q e c).trans (lC h)
theorem Dr {w:World} {g:Nat} {q:ByteArray} {eF:List UInt8} {n:Nat} {p v:Value} (hq:q.size<=1000) (hf:bz (bs q)) (he:Er g w) (hG:6<g) {t:St} (hb:lS (bs q) n eF t) (hp:t.p<q.size) (h:Mk g q t.p eF n p v w) :
 Calls Tryz.prog 87 #[.pointer (some ⟨g,0,none⟩)] w (Wf g q t.p n w):=by
 have hn:=lS.few hb
 have hl:=hb.len
 have e0:=hb.e0
 have hps:t.p<(bs q).length:=by rw [an]; exact hp
 rcases xK hf hb with e | e | e
 ·have h46:=j8 e0 e
  have hd:=uO hb h46
  by_cases e2:bt (bs q) (t.p+1)=46
  ·have yW:=BP hd (j8 (t:=aG t) e0 e2)
   have T2:=Mr e e2
   have pe:∀R,(bt (bs q) (t.p+2)=91/\R=yS (bs q) (t.p+2))\/(bt (bs q) (t.p+2)≠91/\R=fE (bs q) (t.p+2))->fD (bs q) t.p=⟨⟨true,R.v⟩,R.p⟩:=by
    intro R hR
    unfold fD
    rw [if_neg (by rw [e]; decide),if_pos e2]
    rcases hR with ⟨x,rfl⟩ | ⟨x,rfl⟩
    ·rw [if_pos x]
    rw [if_neg x]
   have Be:(eF++[46,46]).length<=10000:=by simp; omega
   by_cases e3:bt (bs q) (t.p+2)=91
   ·obtain ⟨a1,a2,a3⟩:=Il yW (j8 (t:=aG (aG t)) e0 e3)
    rw [a3] at a1
    refine qM (A:=t.p+2) hq h (by omega) (by omega) T2 (Or.inr ⟨rfl,rfl,rfl⟩) (by omega) (λ p' v' w' hm CX=>?_) (pe _ (Or.inl ⟨e3,rfl⟩))
    exact (Pf (t:=aG (aG t)) hq hf (he.fu CX hG) hG hm Be (xJ (t:=aG (aG t)) e0 91 e3) e3 a2 (aA hf a1)).mono (λ_ _ x=>x.le (Nat.le_succ _))
   have E_:=uN (q:=q) (t:=aG (aG t)) e0 91 e3
   have Wm:tk q (t.p+2) ⟨#[46]⟩=false:=(s_ q (t:=aG (aG t)) e0 46).trans (Ms hf yW)
   by_cases e4:bt (bs q) (t.p+2)=42
   ·refine qM (A:=t.p+2) hq h (by omega) (by omega) T2 (Or.inr ⟨rfl,rfl,rfl⟩) (by omega) (λ p' v' w' hm CX=>?_) (pe _ (Or.inr ⟨e3,rfl⟩))
    exact BM (t:=aG (aG t)) hq hf (he.fu CX hG) hG hm Be E_ (Or.inl ⟨Wm,rfl⟩) (xJ (t:=aG (aG t)) e0 42 e4) ((mQ (Or.inr rfl) yW (j8 (t:=aG (aG t)) e0 e4)).resolve_right (λ b=>gR hf b))
   refine qM (A:=t.p+2) hq h (by omega) (by omega) T2 (Or.inr ⟨rfl,rfl,rfl⟩) (by omega) (λ p' v' w' hm CX=>?_) (pe _ (Or.inr ⟨e3,rfl⟩))
   exact BO (t:=aG (aG t)) hq hf (he.fu CX hG) hG hm Be E_ (Or.inl ⟨Wm,rfl⟩) (uN (t:=aG (aG t)) e0 42 e4) ⟨e0,(mR (Or.inr ⟨rfl,lC (t:=aG (aG t)) e3⟩) yW (lC (t:=aG (aG t)) e4)).resolve_right (λ b=>gR hf b)⟩
  have T2:=Ik (q:=q) (a:=t.p) (Or.inr e2)
  have pe:fD (bs q) t.p=⟨⟨false,(fE (bs q) (t.p+1)).v⟩,(fE (bs q) (t.p+1)).p⟩:=by
   unfold fD
   rw [if_neg (by rw [e]; decide),if_neg e2]
  refine qM (A:=t.p+1) hq h (by omega) (by omega) T2 (Or.inl ⟨rfl,rfl,rfl⟩) (by omega) (λ p' v' w' hm CX=>?_) pe
  have Be:eF.length<=10000:=by omega
  have E_:=uN (q:=q) e0 91 (by rw [e]; decide)
  have Wm:=xJ (q:=q) e0 46 e
  by_cases e4:bt (bs q) (t.p+1)=42
  ·exact BM (u:=aG t) hq hf (he.fu CX hG) hG hm Be E_ (Or.inr ⟨Wm,rfl⟩) (xJ (t:=aG t) e0 42 e4) ((mQ (Or.inl rfl) hd (j8 (t:=aG t) e0 e4)).resolve_right (λ b=>gR hf b))
  exact BO (u:=aG t) hq hf (he.fu CX hG) hG hm Be E_ (Or.inr ⟨Wm,rfl⟩) (uN (t:=aG t) e0 42 e4) ⟨e0,(mR (Or.inl ⟨rfl,lC (t:=aG t) e2⟩) hd (lC (t:=aG t) e4)).resolve_right (λ b=>gR hf b)⟩
 ·have oL:=j8 e0 e
  obtain ⟨a1,a2⟩:=Im hb hps (lC (by rw [e]; decide))
  rw [RG oL] at a1 a2
  have pe:fD (bs q) t.p=⟨⟨false,(yS (bs q) t.p).v⟩,(yS (bs q) t.p).p⟩:=by unfold fD; rw [if_pos e]
  refine qM (A:=t.p+1) hq h (by omega) (by omega) (Ik (Or.inl (by rw [e]; decide))) (Or.inl ⟨rfl,rfl,rfl⟩) (by omega) (λ p' v' w' hm CX=>?_) pe
  exact Pf hq hf (he.fu CX hG) hG hm (by omega) (xJ e0 91 e) e (a2 e0).1 (aA hf a1)
 have:=tF hps; omega
theorem Io:(Tryz.prog.info? 128).map (λ i=>(i.zero,i.size,i.bytes))=some (some (.agg #[.nilFunc,.nilFunc,.bool false]),3,24):=by kernel_rfl
structure GV where
 f:Fn
 x:Array Value
 y:Array Value
 f':Fn
 x':Array Value
 y':Array Value
 b:Bool
def GV.cells (s:GV):List Value:=[.func s.f s.x s.y,.func s.f' s.x' s.y',.bool s.b]
theorem GV.one (s:GV):∀u ∈ s.cells,u.oneCell'=true:=by
 intro u hu
 simp [GV.cells] at hu
 rcases hu with rfl | rfl | rfl<;>rfl
def iI (l:List GV):List Value:=l.flatMap GV.cells
theorem uP (l:List GV):(iI l).length=l.length * 3:=by
 induction l with
 | nil=>rfl
 | cons a l ih=>simp only [iI,List.flatMap_cons,List.length_append,List.length_cons] at *; rw [ih]; simp [GV.cells]; omega
theorem oE (l:List GV) (i c:Nat) (hc:c<3) (h:i<l.length):(iI l)[i * 3+c]?=(l[i]).cells[c]?:=by
 induction l generalizing i with
 | nil=>cases h
 | cons a l ih =>
  have e:iI (a::l)=a.cells++iI l:=rfl
  have ea:a.cells.length=3:=rfl
  rw [e]
  cases i with
  | zero=>rw [List.getElem?_append_left (by omega)]; simp
  | succ i =>
   rw [List.getElem?_append_right (by omega),ea,show (i+1) * 3+c - 3=i * 3+c by omega,ih i (by simpa using h)]
   simp
def kr (l:List GV):Nat:=l.findIdx (λ s=>s.b)
theorem Ip {w:World} {B j cp:Nat} {ao:Option Addr} {l:List GV} (h:w.ownsRow B 128 3 (.slice ao j cp) j (iI l)) (hj:j<=1000) :
 Calls Tryz.prog 89 #[.slice ao j cp] w (λ r w'=>r=.returned (.int .i64 (kr l:Nat))/\Below w.heap.size w w'):=by
 have hlen:l.length=j:=by have:=h.1; rw [uP] at this; omega
 have H:=aa h
 clear h
 go_enter Tryz.func89,Tryz.ntmps89
 go_wp2
 go_loopw [3,4,7] (λ_ _ i wr=>∃k:Nat,k<=j/\i=.int .i64 k/\(∀m (hm:m<l.length),m<k->(l[m]).b=false)/\Below w.heap.size w wr) (λ_ _ i _=>j - (intOf i).toNat)
 case atStart=>exact ⟨0,Nat.zero_le _,rfl,λ m _ hm=>by omega,(Fr.refl (λ_=>False) w).below⟩
 case round =>
  obtain ⟨k,hk,rfl,hno,hS⟩:=hrel
  have NO:=aa hno
  have S:=aa hS
  clear hno hS
  by_cases hlt:k<j
  ·obtain ⟨g,cap,hv,Bg,qg⟩:=H.out.form (by omega)
   simp only [Value.slice.injEq,true_and] at hv
   obtain ⟨rfl,rfl⟩:=hv
   have l5:∀c:Nat,wr.cell? ⟨g,c,none⟩=w.cell? ⟨g,c,none⟩:=λ c=>S.out.cell (p:=⟨g,c,none⟩) qg
   have hcell:∀c:Nat,c<3->wr.cell? ⟨g,k * 3+c,none⟩=(l[k]).cells[c]?:=λ c hc=>((l5 _).trans (H.out.cellAt (k * 3+c) (by omega))).trans (oE l k c hc (by omega))
   have Qw:=hcell 0 (by decide)
   have Oh:=hcell 1 (by decide)
   have TM:=hcell 2 (by decide)
   clear hcell l5
   have HB:Hid (∀b,(l[k]).b=b->b=true->kr l=k):=λ b hb ht=>by
    unfold kr
    rw [List.findIdx_eq (by omega)]
    exact ⟨by rw [hb,ht],λ m hm=>by simpa using NO.out m (by omega) hm⟩
   have HN:Hid (∀b,(l[k]).b=b->b=false->∀m (hm:m<l.length),m<k+1->(l[m]).b=false):=λ b hb hf m hm hmk=>by
    by_cases e:m=k
    ·subst e; rw [hb,hf]
    exact NO.out m hm (by omega)
   generalize hs:l[k]=s at *
   simp only [GV.cells,List.getElem?_cons_zero,List.getElem?_cons_succ,Nat.add_zero] at Qw Oh TM
   have T7:=aa (HB.out s.b rfl)
   have Bk:=aa (HN.out s.b rfl)
   clear HB HN hs
   generalize s.b=sb at *
   have F1:=aa (((Fr.aL (K:=λ_=>False) S.out).alloc (.cells #[.func s.f s.x s.y,.func s.f' s.x' s.y',.bool sb] 128)).below)
   cases sb
   ·go_wp2
    go_roundw
    case rel=>exact ⟨k+1,by omega,by go_num,Bk.out (by trivial),F1.out⟩
    case measure=>simp [intOf]; omega
   go_wp2
   go_ret
   have hk2:kr l=k:=T7.out (by trivial)
   exact ⟨by rw [hk2]; rfl,F1.out⟩
  have hkj:k=j:=by omega
  subst hkj
  have e:kr l=k:=by
   unfold kr
   rw [<-hlen]
   exact List.findIdx_eq_length.2 (λ x hx=>by
    obtain ⟨m,hm,rfl⟩:=List.getElem_of_mem hx
    simpa using NO.out m hm (by omega))
  have E:=aa e
  clear e
  go_wp2
  go_ret
  exact ⟨by rw [E.out]; rfl,S.out⟩
def Lv (w:World) (s:GV) (x:Sg):Prop:=s.b=x.late/\SgV w (.func s.f s.x s.y) (.func s.f' s.x' s.y') x
def Ds (B:Nat) (xs:List Sg) (D:Nat->Prop) (sv:Value) (l:List GV) (w:World):Prop:=bP 128 3 GV.cells B (λ i w s=>∀x,xs[i]?=some x->Lv w s x) D sv l w
def GwL (q:ByteArray) (B a j n:Nat) (sv:Value) (wr:World):Prop:=∃l xs D,Ds B xs D sv l wr/\xs.length=j/\l.length=j/\fJ xs=n/\∀m,i_ (bs q) (m+j) 1 []=i_ (bs q) m a xs
theorem BQ {g:Nat} {B:Nat} {xs:List Sg} {D:Nat->Prop} {sv:Value} {l:List GV} {w w':World} (h:Ds B xs D sv l w) (f:FU g w w') (hg:g<B):Ds B xs D sv l w' :=
 bP.sm h (λ k hk=>by
  have ft:=bP.Hq h (by decide)
  obtain ⟨cs,T,fz,h1,h2⟩:=ft.ty k hk
  exact f.typ k cs T fz (by have:=ft.ge k hk; omega) h2 h1)
structure PlL (g:Nat) (q:ByteArray) (w0:World) (B:Nat) (t:St) (n:Nat) (eF:List UInt8) (p v:Value) (j:Nat) (sv:Value) (wr:World):Prop where
 m:Mk g q t.p eF n p v wr
 bd:lS (bs q) n eF t
 fu:FU g w0 wr
 row:GwL q B t.p j n sv wr
 le:j<=t.p
 pos:0<t.p
theorem FU.grown {g:Nat} {w0 w w':World} {row:Option Nat} (h:FU g w0 w) (hg:w.grownBy w' row) (hr:∀k,row=some k->w0.heap.size<=k):FU g w0 w':=by
 have hb:∀k,k<w0.heap.size->w'.heap[k]?=w.heap[k]?:=λ k hk=>hg.block k (Nat.lt_of_lt_of_le hk h.size) (λ e=>by have:=hr k e.symm; omega)
 exact ⟨hg.os.trans h.os,hg.tape.trans h.tape,hg.output.trans h.output,Nat.le_trans h.size hg.size,λ k hk hs=>(hb k hs).trans (h.low k hk hs),λ k cs T fz hk hT hc=>(hb k (bH hc)).trans (h.typ k cs T fz hk hT hc)⟩
theorem Mk.grown {g:Nat} {q:ByteArray} {a:Nat} {t:List UInt8} {n:Nat} {p v:Value} {w w':World} {B:Nat} {e:TypeId} {sz:Nat} {sv:Value} {j:Nat} {xs:List Value} (h:Mk g q a t n p v w) (ho:w.ownsRow B e sz sv j xs) (he:e≠5) (hB:g<B) (hg:w.grownBy w' sv.ownBlock):Mk g q a t n p v w':=by
 have hk:∀k,sv.ownBlock=some k->g≠k/\v.ownBlock≠some k:=λ k hk=>by
  have hgk:=(ho.lt k hk).1
  refine ⟨by omega,λ e2=>?_⟩
  rcases ho.2 with ⟨x,_⟩ | ⟨k2,cap,cur,x1,_,x3,_⟩
  ·rw [x] at hk; cases hk
  rw [x1] at hk
  have ek:k2=k:=Option.some.inj hk
  subst ek
  exact (h.apart (b:=k2) (cs:=cur) (T:=e) x3 he (by omega)) (Or.inr e2)
 refine ⟨(hg.block g h.b.lt (λ e2=>(hk g e2.symm).1 rfl)).trans h.b,h.o,h.row.kept hg ?_,h.le⟩
 cases hv:v.ownBlock with
 | none=>exact Or.inl rfl
 | some k=>exact Or.inr (λ e2=>(hk k e2.symm).2 hv)
def oD (w:World) (b:Nat) (tt:ByteArray) (xs:List Sg):Prop:=∃sv l D,ay w b #[.string tt,sv,.int .i64 (oB xs:Nat)] 88/\Ds 0 xs D sv l w/\xs.length=l.length/\xs.length<=1000
theorem head_eq {w:World} {xs:List Sg} {l:List GV} (hl:xs.length=l.length) (h:∀i (h1:i<l.length) (h2:i<xs.length),Lv w l[i] xs[i]):kr l=oB xs:=by
 unfold kr oB
 have e:l.map (λ s=>s.b)=xs.map Sg.late:=by
  apply List.ext_getElem
  ·simp [hl]
  intro i h1 h2
  simp only [List.getElem_map]
  exact (h i (by simpa using h1) (by simpa using h2)).1
 have e1:l.findIdx (λ s=>s.b)=(l.map (λ s=>s.b)).findIdx id:=by rw [List.findIdx_map]; rfl
 have e2:xs.findIdx Sg.late=(xs.map Sg.late).findIdx id:=by rw [List.findIdx_map]; rfl
 rw [e1,e2,e]
theorem Qi {w:World} {g:Nat} {q:ByteArray} {p v:Value} (hq:q.size<=1000) (hf:bz (bs q)) (he:Er g w) (hG:6<g) (h:Mk g q 0 [] 0 p v w) :
 Calls Tryz.prog 63 #[.pointer (some ⟨g,0,none⟩)] w (λ r w'=>∃(b:Nat) (tt:ByteArray) (D:Nat->Prop),r=.returned (.pointer (some ⟨b,0,none⟩))/\(w.heap.size<=b/\Ft D w.heap.size w'/\fR D w' (λ w=>oD w b tt (cK (bs q))))/\g<b/\bs tt=T (bs q) (q.size+1) /\
  w'.cell? ⟨g,4,none⟩=some (.int .i64 (C (bs q) (q.size+1):Nat))/\FU g w w'/\fJ (cK (bs q))=C (bs q) (q.size+1)):=by
 obtain ⟨i0,hi,hz0,hz1,dN⟩:=info_parts Io
 have HI:=aa hi
 have ia:=aa hz0
 have gO:=aa hz1
 have ic:=aa dN
 have HE:=aa he
 have HF:=aa hf
 have MM:=aa h
 have l5:g<w.heap.size:=h.b.lt
 have b0:=(xL (bs q)).resolve_right (λ b=>gR hf b)
 obtain ⟨T0,e0⟩:=gQ (q:=q) (t:=⟨0,0,0⟩) (sign:=⟨#[36]⟩) b0.e0
 rw [show [36]=nb ⟨#[36]⟩ from rfl,e0] at b0
 have BB:Hid (lS (bs q) 0 [36] ⟨1,0,0⟩):=b0
 clear h hf he hi hz0 hz1 dN b0 e0
 go_enter Tryz.func63,Tryz.ntmps63
 go_wp2_with fail
 refine (de MM.out.qt hq _ T0 1 rfl).mono ?_
 rintro r w1 ⟨rfl,h1⟩
 have M1:=aa (MM.out.step h1)
 have F1:Hid (FU g w w1):=FU.od h1.f
 clear h1 MM
 go_wp2_with fail
 refine (mL M1.out ⟨#[36]⟩ (by show 0+1<=_; omega)).mono ?_
 rintro r w2 ⟨rfl,p2,v2,h2,f2⟩
 have S:Hid (PlL g q w w.heap.size ⟨1,0,0⟩ 0 [36] p2 v2 0 (.slice none 0 0) w2):=⟨h2,BB.out,F1.out.trans (FU.of M1.out f2),⟨[],[],_,bP.nil _ _ _ _ _ _,rfl,rfl,rfl,λ_=>rfl⟩,Nat.zero_le _,Nat.one_pos⟩
 clear h2 f2 M1 F1 BB
 go_wp2
 go_loopw [3] (λ sv wr=>∃(t:St) (n:Nat) (eF:List UInt8) (p v:Value) (j:Nat),PlL g q w w.heap.size t n eF p v j sv wr) (λ_ wr=>q.size - mA g wr)
 case atStart=>exact ⟨_,_,_,_,_,_,S.out⟩
 case round =>
  clear S
  obtain ⟨t,n,eF,p3,v3,j,hS⟩:=hrel
  have S:=aa hS
  have YD:=hS.le
  have YE:t.p<=q.size:=hS.m.le
  have HM:=aa hS.m.qt.mA
  obtain ⟨l,xs,D,hrow,hxl,jT,Mt,hps⟩:=hS.row
  have T9:=aa Mt
  obtain ⟨ao,cp,qE⟩:=ah hrow.o
  rw [jT] at qE
  subst qE
  have R:=aa hrow
  have vN:=aa hxl
  have js:=aa jT
  have zP:=aa hps
  have d0:wr.cell? ⟨g,0,none⟩=some (.string q):=hS.m.b.cell 0
  have d1:wr.cell? ⟨g,1,none⟩=some (.int .i64 (t.p:Nat)):=hS.m.b.cell 1
  clear hS hrow hxl jT hps Mt
  by_cases hlt:t.p<q.size
  ·have dd:decide ((t.p:Int)<(q.size:Int))=true:=by simp; omega
   go_wp2
   go_quiet (fail)
   have M3:Hid (Mk g q t.p eF n p3 v3 (wr.drewN nq)):=⟨S.out.m.b,S.out.m.o,S.out.m.row,S.out.m.le⟩
   have F3:Hid (FU g w (wr.drewN nq)):=S.out.fu.drewN nq
   have R3:Hid (Ds w.heap.size xs D (.slice ao j cp) l (wr.drewN nq)):=bP.fr R.out (K:=λ_=>False) ((Fr.refl _ wr).drewN nq) (λ_ _ x=>x)
   have E3:Hid (Er g (wr.drewN nq)):=HE.out.fu F3.out hG
   clear d0 d1 R
   generalize wr.drewN nq=w3 at *
   go_wp2_with fail
   refine (Dr hq HF.out E3.out hG S.out.bd hlt M3.out).mono ?_
   rintro r w4 ⟨t4,n4,aaS,p4,v4,f4,f5,x,D4,Pg,Wj,hn4,rfl,hpg,⟨FV,zh⟩,hm4,YL⟩
   have HN4:=aa hn4
   clear hn4
   obtain ⟨N4,jr,rfl,_,_⟩:=zh.self.t
   obtain ⟨N5,zm,rfl,_,_⟩:=zh.self.c
   have CY:=aa FV
   have UH:=aa zh
   have HPG:=aa hpg
   have R4:=aa (BQ R3.out YL l5)
   have aaU:w.heap.size<=w3.heap.size:=F3.out.size
   have b7:w4.ownsRow w.heap.size 128 3 (.slice ao j cp) j (iI l):=js.out▸R4.out.o
   have hra:Hid (∀k,(.slice ao j cp:Value).ownBlock=some k->k<w3.heap.size):=λ k hk=>(R3.out.o.lt k hk).2
   obtain ⟨b5,BF⟩:∃b5,b5=x.late:=⟨_,rfl⟩
   rw [<-BF]
   have HB5:=aa BF
   have hB4:w.heap.size<=w4.heap.size:=Nat.le_trans F3.out.size YL.size
   have M4:=aa hm4
   have B4:=aa Pg
   have F4:=aa (F3.out.trans YL)
   have wT:=hm4.le
   clear hm4 Pg YL M3 F3 R3 E3 FV zh hpg BF
   go_wp2_with (at_builtin; refine wpList_append_own_at _ rfl _ _ 86 rfl w.heap.size 128 i0 _ 3 24 Tryz.underlying86 HI.out ia.out gO.out ic.out rfl (by decide) _ _ _ rfl (b7.alloc _) ⟨w4.heap.size,0,none⟩ 1 1 [.func (.func N4) #[] jr,.func (.func N5) #[] zm,.bool b5] rfl rfl ?c1 ?c2 ?c3 ?c4 ?c5 ?_)
   case c1 =>
    intro j u hj
    match j,hj with
    | 0,hj=>simp at hj; subst hj; simp [Addr.add]
    | 1,hj=>simp at hj; subst hj; simp [Addr.add]
    | 2,hj=>simp at hj; subst hj; simp [Addr.add]
   case c2=>exact (GV.mk (.func N4) #[] jr (.func N5) #[] zm b5).one
   case c3=>unfold maxLen; omega
   case c4=>omega
   case c5=>simp; omega
   intro v' w5 cN hgrow _ kP
   have RR:GwL q w.heap.size t4.p (j+1) n4 v' w5:=by
    have R5:=bP.alloc R4.out (.cells #[.func (.func N4) #[] jr,.func (.func N5) #[] zm,.bool b5] 128)
    have R6:bP 128 3 GV.cells w.heap.size (λ i w s=>∀y,(xs++[x])[i]?=some y->Lv w s y) D (.slice ao j cp) l (w4.alloc (.cells #[.func (.func N4) #[] jr,.func (.func N5) #[] zm,.bool b5] 128)) :=
     ⟨R5.o,R5.ft,R5.ne,λ i hi w' s y he=>R5.ok i hi w' s y (by rw [List.getElem?_append_left (by have:=vN.out; have:=js.out; omega)] at he; exact he)⟩
    refine ⟨l++[⟨.func N4,#[],jr,.func N5,#[],zm,b5⟩],xs++[x],λ k=>D k\/D4 k,?_,by simp [vN.out],by simp [js.out],by rw [HN4.out,<-T9.out]; simp [fJ],λ m=>?_⟩
    ·refine R6.push (A:=w3.heap.size) hra.out aaU (CY.out.keep (Sm.alloc CY.out _)) (λ w' s y he=>?_) (by rw [js.out]; exact cN) hgrow (by simpa using kP)
     rw [js.out,<-vN.out] at he
     simp at he
     subst he
     exact ⟨HB5.out,(UH.out.keep (Sm.alloc CY.out _)) w' s⟩
    rw [show m+(j+1)=(m+1)+j by omega,zP.out,i_,if_pos (by rw [an]; exact hlt),HPG.out]
   have S2:Hid (PlL g q w w.heap.size t4 n4 aaS p4 v4 (j+1) v' w5) :=
    ⟨(M4.out.alloc _).grown (b7.alloc _) (by decide) l5 hgrow,B4.out,(F4.out.trans (FU.aL ((Fr.refl (λ_=>False) w4).alloc _).below)).grown hgrow (λ k hk=>(b7.lt k hk).1),RR,by omega,by omega⟩
   clear RR
   clear cN hgrow b7
   go_wp2
   go_roundw
   case rel=>exact ⟨_,_,_,_,_,_,S2.out⟩
   case measure =>
    have m1:mA g wr=t.p:=HM.out
    have m2:mA g w5=t4.p:=S2.out.m.qt.mA
    rw [m1,m2]
    omega
  have dd:decide ((t.p:Int)<(q.size:Int))=false:=by simp; omega
  have uQ:=BU S.out.bd (by rw [an]; omega)
  rw [an] at uQ
  have HX:=aa uQ
  clear uQ
  go_wp2
  go_quiet (fail)
  have M3:Hid (Mk g q t.p eF n p3 v3 (wr.drewN nq)):=⟨S.out.m.b,S.out.m.o,S.out.m.row,S.out.m.le⟩
  have R3:Hid (Ds w.heap.size xs D (.slice ao j cp) l (wr.drewN nq)):=bP.fr R.out (K:=λ_=>False) ((Fr.refl _ wr).drewN nq) (λ_ _ x=>x)
  have F3:Hid (FU g w (wr.drewN nq)):=S.out.fu.drewN nq
  clear d0 d1 R
  generalize wr.drewN nq=w3 at *
  go_wp2_with fail
  refine (GX M3.out (S.out.bd.ne S.out.pos)).mono ?_
  rintro r w4 ⟨rfl,f4⟩
  have Iq:¬v3.ownBlock=some g:=λ e=>by have:=(M3.out.row.lt g e).1; omega
  have B4:Hid (ay w4 g (L6 q t.p p3 v3 n) 141):=M3.out.b.fr f4 Iq
  have F4:Hid (FU g w w4):=F3.out.trans (FU.of M3.out (f4.mono (λ_ _ e=>Or.inr e)))
  have Gc:g<w4.heap.size:=B4.out.lt
  have R4:=aa (BQ R3.out (FU.of M3.out (f4.mono (λ_ _ e=>Or.inr e))) l5)
  clear f4 M3 F3 Iq R3
  go_wp2_with fail
  refine (Ip (l:=l) (js.out▸R4.out.o) (by omega)).mono ?_
  rintro r w6 ⟨rfl,Rz⟩
  have B6:=aa (B4.out.fr (Fr.aL (K:=λ_=>False) Rz) id)
  have F6:=aa (F4.out.trans (FU.aL Rz))
  have R6:=aa (bP.below R4.out Rz)
  have hg6:g<w6.heap.size:=B6.out.lt
  clear Rz B4 F4 R4
  go_wp2
  go_ret
  have hpq:cK (bs q)=xs:=by
   unfold cK
   have:=zP.out (q.size+1 - j)
   rw [show q.size+1 - j+j=q.size+1 by omega] at this
   rw [an,this,show q.size+1 - j=(q.size - j)+1 by omega,i_,if_neg (by rw [an]; exact hlt)]
  have Wn:w.heap.size<=w6.heap.size:=F6.out.size
  have YH:kr l=oB xs:=head_eq (w:=w6) (by rw [vN.out,js.out]) (λ i h1 h2=>R6.out.ok i h1 w6 (λ_ _=>rfl) _ (List.getElem?_eq_getElem h2))
  have ft:=bP.Hq R6.out (by decide)
  have ftn:=(ft.keep (Sm.alloc ft (.cells #[.string ⟨eF.toArray⟩,.slice ao j cp,.int .i64 (kr l:Nat)] 88))).or (Ft.one (ay.new w6 #[.string ⟨eF.toArray⟩,.slice ao j cp,.int .i64 (kr l:Nat)] 88) (by decide) Wn)
  refine ⟨w6.heap.size,⟨eF.toArray⟩,_,rfl,⟨Wn,ftn,λ w'' s=>?_⟩,hg6,?_,?_,F6.out.trans (FU.aL ((Fr.refl (λ_=>False) w6).alloc _).below),by rw [hpq,HX.out.2.1]; exact T9.out⟩
  ·rw [hpq]
   refine ⟨.slice ao j cp,l,D,?_,bP.low (bP.sm R6.out ((Sm.alloc ft _).trans (s.less (λ_=>Or.inl)))) (Nat.zero_le _),by rw [vN.out,js.out],by rw [vN.out]; omega⟩
   have:=(ay.new w6 #[.string ⟨eF.toArray⟩,.slice ao j cp,.int .i64 (kr l:Nat)] 88).sm s (Or.inr rfl)
   rw [YH] at this
   exact this
  ·rw [HX.out.2.2]; simp [bs]
  rw [HX.out.2.1]; exact (B6.out.alloc _).cell 4
end Go.Proofs.YtcbadebjpogmlaaGreatDoor
