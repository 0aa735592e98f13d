import Derived.Test.YtcbadebjpogmlaaGreatDoorPMkU
import Derived.Test.YtcbadebjpogmlaaGreatDoorPPlain7
import Derived.Test.YtcbadebjpogmlaaGreatDoorPBase
namespace Go.Proofs.YtcbadebjpogmlaaGreatDoor
open Go.RowKit Tr
structure FU (g:Nat) (w w':World):Prop where
 os:w'.os=w.os
 tape:w'.tape=w.tape
 output:w'.output=w.output
 size:w.heap.size≤w'.heap.size
 low:∀k,k<g→k<w.heap.size→w'.heap[k]?=w.heap[k]?
 typ:∀k cs T fz,k≠g→T≠5→w.heap[k]?=some (.cells cs T fz)→w'.heap[k]?=w.heap[k]?
theorem FU.trans {g:Nat} {a b c:World} (h:FU g a b) (k:FU g b c):FU g a c :=
 ⟨k.os.trans h.os,k.tape.trans h.tape,k.output.trans h.output,Nat.le_trans h.size k.size,fun i hi hs=>(k.low i hi (Nat.lt_of_lt_of_le hs h.size)).trans (h.low i hi hs),
  fun i cs T fz hi hT hc=>(k.typ i cs T fz hi hT ((h.typ i cs T fz hi hT hc).trans hc)).trans (h.typ i cs T fz hi hT hc)⟩
theorem FU.refl (g:Nat) (w:World):FU g w w:=⟨rfl,rfl,rfl,Nat.le_refl _,fun _ _ _=>rfl,fun _ _ _ _ _ _ _=>rfl⟩
theorem FU.of {g:Nat} {q:ByteArray} {a:Nat} {t:List UInt8} {n:Nat} {p v:Value} {w w':World} (h:Mk g q a t n p v w) (f:Fr (KG g v) w w'):FU g w w':=by
 refine ⟨f.os,f.tape,f.output,f.size,fun k hk hs=>f.block k hs ?_,fun k cs T fz hk hT hc=>f.block k (lt_of_some hc) ?_⟩
 ·rintro (e | e)
  ·omega
  have:=(h.row.lt k e).1; omega
 rintro (e | e)
 ·exact hk e
 rcases h.row.2 with ⟨x,_⟩ | ⟨k2,cap,cur,x1,_,x3,_⟩
 ·rw [x] at e; cases e
 rw [x1] at e
 have ek:k2=k:=Option.some.inj e
 subst ek
 rw [x3] at hc
 injection hc with hc
 injection hc with _ h2 _
 exact hT h2.symm
theorem FU.of_own {g:Nat} {w w':World} (f:Fr (fun k=>k=g) w w'):FU g w w' :=
 ⟨f.os,f.tape,f.output,f.size,fun k hk hs=>f.block k hs (by omega),fun k _ _ _ hk _ hc=>f.block k (lt_of_some hc) hk⟩
theorem FU.of_below {g:Nat} {w w':World} (f:Below w.heap.size w w'):FU g w w':=FU.of_own (Fr.of_below f)
theorem FU.drewN {g:Nat} {a w:World} (h:FU g a w) (n:Nat):FU g a (w.drewN n):=⟨h.os,h.tape,h.output,h.size,h.low,h.typ⟩
theorem Er.fu {g:Nat} {w w':World} (h:Er g w) (f:FU g w w') (hG:6<g):Er g w':=by
 obtain ⟨⟨ev,h1,h2⟩,h3,h4⟩:=h
 exact ⟨⟨ev,(World.cell?_of_block (w:=w) (a:=⟨6,0,none⟩) (f.low _ hG h4)).trans h1,h2⟩,h3,Nat.lt_of_lt_of_le h4 f.size⟩
def SegQ (g:Nat) (q:ByteArray) (a n:Nat) (w:World) (r:Ending) (w':World):Prop :=
 ∃(t':St) (n':Nat) (txt':List UInt8) (p' v' f f':Value) (x:Sg) (D:Nat→Prop),Bnd (bs q) n' txt' t'∧a<t'.p∧n'=n+x.l.length∧r=.returned (.agg #[f,f',.bool x.late])∧pSeg (bs q) a=⟨x,t'.p⟩∧(Ft D w.heap.size w'∧OkD D w' (fun w=>SgV w f f' x))∧Mk g q t'.p txt' n' p' v' w'∧FU g w w'
def SslQ (g:Nat) (q:ByteArray) (a n:Nat) (R:PS (List Sel)) (w:World) (r:Ending) (w':World):Prop :=
 ∃(t':St) (j cp:Nat) (ao:Option Addr) (txt':List UInt8) (p' v':Value) (l:List SV) (xs:List Sel) (D:Nat→Prop),Bnd (bs q) (n+j) txt' t'∧a≤t'.p∧j≤q.size∧r=.returned (.slice ao j cp) ∧
  (SRow w.heap.size xs D (.slice ao j cp) l w'∧xs.length=j∧l.length=j∧R=⟨xs,t'.p⟩)∧Mk g q t'.p txt' n p' v' w'∧FU g w w'
theorem Bnd.few {s:List UInt8} {c:Nat} {acc:List UInt8} {t:St} (h:Bnd s c acc t):c≤t.p:=by
 have:=C_le s t.p
 have:=h.ct
 omega
theorem tk2_no {q:ByteArray} {a:Nat} (h:bt (bs q) a≠46∨bt (bs q) (a+1)≠46):tk q a ⟨#[46,46]⟩=false:=by
 rw [tk_pfx]
 show (bt (bs q) a == 46 && (bt (bs q) (a+1) == 46 && true))=false
 rcases h with h | h<;>simp [h]
theorem tk2_yes {q:ByteArray} {a:Nat} (h:bt (bs q) a=46) (h':bt (bs q) (a+1)=46):tk q a ⟨#[46,46]⟩=true:=by
 rw [tk_pfx]
 show (bt (bs q) a == 46 && (bt (bs q) (a+1) == 46 && true))=true
 simp [h,h']
theorem SslQ.le {g:Nat} {q:ByteArray} {a b n:Nat} {R:PS (List Sel)} {w:World} (hab:b≤a) {r:Ending} {w':World} (h:SslQ g q a n R w r w'):SslQ g q b n R w r w':=by
 obtain ⟨t',j,cp,ao,txt',p',v',l,xs,D,h1,h2,h3⟩:=h
 exact ⟨t',j,cp,ao,txt',p',v',l,xs,D,h1,by omega,h3⟩
theorem tk_b {q:ByteArray} {a:Nat} {c:UInt8} (h:tk q a ⟨#[c]⟩=true):bt (bs q) a=c.toNat:=by
 rw [tk_pfx] at h
 have:(bt (bs q) a == c.toNat && true)=true:=h
 simpa using this
theorem tk_nb {q:ByteArray} {a:Nat} {c:UInt8} (h:tk q a ⟨#[c]⟩=false):bt (bs q) a≠c.toNat:=by
 rw [tk_pfx] at h
 have:(bt (bs q) a == c.toNat && true)=false:=h
 simpa using this
theorem srow_one {w:World} {B:Nat} (hB:B≤w.heap.size) (s:SV) (x:Sel) (h:∀w,SelIs w s x):SRow B [x] (fun _=>False) (.slice (some ⟨w.heap.size,0,none⟩) 1 1) [s] (w.alloc (.cells #[.int .i64 s.k,.string s.nm,.int .i64 s.fr,.int .i64 s.to,s.met] 239)) :=
 RowG.one (Ft.none _ _) (fun w' _ y he=>by simp at he; subst he; exact h w') (own_five w B s hB)
theorem FU.setNew {g:Nat} {w W:World} (h:FU g w W) {k:Nat} (hk:w.heap.size≤k) (i:Nat) (z:Value):FU g w (W.setCell ⟨k,i,none⟩ z) :=
 ⟨h.os,h.tape,h.output,by simp [World.setCell]; exact h.size,fun j hj hs=>(Below.heap_setCell _ _ _ _ (by show j≠k; omega)).trans (h.low j hj hs),
  fun j cs T fz hj hT hc=>(Below.heap_setCell _ _ _ _ (by show j≠k; have:=lt_of_some hc; omega)).trans (h.typ j cs T fz hj hT hc)⟩
theorem FU.blk {g:Nat} {w W:World} (h:FU g w W) {k:Nat} {cs:Array Value} {T:TypeId} (hb:Blk w k cs T) (hT:T≠5) (hk:k≠g):Blk W k cs T:=(h.typ k cs T (0,0) hk hT hb).trans hb
theorem Mk.set1 {g:Nat} {q:ByteArray} {a:Nat} {t:List UInt8} {n:Nat} {p v:Value} {w:World} (h:Mk g q a t n p v w) {b:Nat} (hb:¬KG g v b) (i:Nat) (x:Value):Mk g q a t n p v (w.setCell ⟨b,i,none⟩ x):=by
 have hg:g≠b:=fun e=>hb (Or.inl e.symm)
 have f:Fr (fun k=>k=b) w (w.setCell ⟨b,i,none⟩ x):=(Fr.refl (fun k=>k=b) w).setCell ⟨b,i,none⟩ (Or.inl rfl) _
 refine ⟨h.b.fr f hg,h.o,?_,h.le⟩
 refine ⟨h.row.1,?_⟩
 rcases h.row.2 with x | ⟨k,cap,cur,h1,h2,h3,h4⟩
 ·exact Or.inl x
 refine Or.inr ⟨k,cap,cur,h1,h2,(f.block k (lt_of_some h3) (fun e=>hb (Or.inr (by rw [h1,← e]; rfl)))).trans h3,h4⟩
structure WdB (s:List UInt8) (c:Nat) (acc:List UInt8) (t:St):Prop where
 e0':t.e=0
 b:Bnd s c (acc++([91,39]++sub s t.p (wordP s t).p++[39,93])) (wordP s t)
theorem WdB.e0 {s:List UInt8} {c:Nat} {acc:List UInt8} {t:St} (h:WdB s c acc t):(wordP s t).e=0:=h.b.e0
set_option maxHeartbeats 2000000 in
set_option maxRecDepth 100000 in
theorem ss_br {w:World} {g:Nat} {q:ByteArray} {txt:List UInt8} {n:Nat} {p v:Value} (hq:q.size≤1000) (hf:FinP (bs q)) (he:Er g w) (hG:6<g) {t:St} (h:Mk g q t.p txt n p v w) (hl:txt.length≤10000)
 (T91:tk q t.p ⟨#[91]⟩=true) (B91:Hid (bt (bs q) t.p=91)) (TX:Hid (T (bs q) (t.p+1)=txt++[91])) (LV:Hid (Live (bs q) (t.p+1) (n+1) 6 [] 0 { t with p:=t.p+1 })) :
 Calls Tryz.prog 115 #[.pointer (some ⟨g,0,none⟩)] w (SslQ g q (t.p+1) n (pBr (bs q) t.p) w):=by
 have HE:=hide he
 have HF:=hide hf
 have htq0:=h.le
 have d0:w.cell? ⟨g,0,none⟩=some (.string q):=h.b.cell 0
 have d1:w.cell? ⟨g,1,none⟩=some (.int .i64 ((t.p:Nat):Int)):=h.b.cell 1
 have e1:((t.p:Nat):Int)≤(q.size:Int):=by omega
 have MM:=hide h
 clear h he hf
 go_enter Tryz.func115,Tryz.ntmps115
 go_wp2_with fail
 go_quiet ((go_at_call 113; exact Calls.quiet_of_same (c_hasPrefix _ _)))
 rw [tk_ext,T91]
 have M3:Hid (Mk g q t.p txt n p v (w.drewN nq)):=⟨MM.out.b,MM.out.o,MM.out.row,MM.out.le⟩
 have F3:Hid (FU g w (w.drewN nq)):=(FU.refl g w).drewN nq
 have E3:Hid (Er g (w.drewN nq)):=HE.out.fu F3.out hG
 clear MM d0 d1 e1
 generalize w.drewN nq=w3 at *
 go_wp2_with fail
 refine (k_bracketed (t:=t) hq HF.out E3.out M3.out (by omega) T91 LV.out).mono ?_
 rintro r w4 ⟨t4,j4,sv4,p4,v4,l4,xs4,D4,hbnd,hlt,hj4,rfl,⟨hrow,hxl,hll,hbr⟩,hM4,hF4⟩
 obtain ⟨ao,cp,hse⟩:=own_slice hrow.o
 rw [hll] at hse
 subst hse
 have HXL:=hide hxl
 have HLL:=hide hll
 have HBR:=hide hbr
 have hsz3:w.heap.size≤w3.heap.size:=F3.out.size
 have hlt4:t.p<t4.p:=hlt
 have B4:Hid (Bnd (bs q) (n+j4) (txt++sub (bs q) (t.p) t4.p) t4):=by
  have hb2:Bnd (bs q) (n+j4) (T (bs q) (t.p+1)++sub (bs q) (t.p+1) t4.p) t4:=hbnd
  rw [show T (bs q) (t.p+1)=txt++[91] from TX.out] at hb2
  rw [sub_cons (b:=91) B91.out hlt4]
  show Bnd _ _ _ _
  simpa [List.append_assoc] using hb2
 have F4:Hid (FU g w w4):=F3.out.trans (FU.of M3.out hF4)
 have R4:=hide hrow
 have M4:=hide hM4
 clear hbnd hlt hrow hM4 hF4 M3 F3 E3 hxl hll hbr
 go_wp2
 go_ret
 exact ⟨t4,j4,cp,ao,_,p4,v4,l4,xs4,D4,B4.out,by omega,by omega,rfl,⟨RowG.low R4.out hsz3,HXL.out,HLL.out,HBR.out⟩,M4.out,F4.out⟩
set_option maxHeartbeats 2000000 in
set_option maxRecDepth 100000 in
theorem ss_dstar {w:World} {g:Nat} {q:ByteArray} {txt:List UInt8} {n:Nat} {p v:Value} (hq:q.size≤1000) (hf:FinP (bs q)) (he:Er g w) (hG:6<g) {t:St} (h:Mk g q t.p txt n p v w) (hl:txt.length≤10000)
 (T91:tk q t.p ⟨#[91]⟩=false) (T46:tk q t.p ⟨#[46]⟩=true) (T42:tk q (t.p+1) ⟨#[42]⟩=true) (BB:Hid (Bnd (bs q) (n+1) (txt++[91,42,93]) (adv (adv t)))) :
 Calls Tryz.prog 115 #[.pointer (some ⟨g,0,none⟩)] w (SslQ g q (t.p+1) n (pWord (bs q) (t.p+1)) w):=by
 have HE:=hide he
 have HF:=hide hf
 have htq0:=h.le
 have d0:w.cell? ⟨g,0,none⟩=some (.string q):=h.b.cell 0
 have d1:w.cell? ⟨g,1,none⟩=some (.int .i64 ((t.p:Nat):Int)):=h.b.cell 1
 have e1:((t.p:Nat):Int)≤(q.size:Int):=by omega
 have MM:=hide h
 clear h he hf
 go_enter Tryz.func115,Tryz.ntmps115
 go_wp2_with fail
 go_quiet ((go_at_call 113; exact Calls.quiet_of_same (c_hasPrefix _ _)))
 rw [tk_ext,T91]
 have M3:Hid (Mk g q t.p txt n p v (w.drewN nq)):=⟨MM.out.b,MM.out.o,MM.out.row,MM.out.le⟩
 have F3:Hid (FU g w (w.drewN nq)):=(FU.refl g w).drewN nq
 have E3:Hid (Er g (w.drewN nq)):=HE.out.fu F3.out hG
 clear MM d0 d1 e1
 generalize w.drewN nq=w3 at *
 go_wp2_with fail
 refine (c_yes M3.out.qt hq _ T46 (t.p+1) rfl).mono ?_
 rintro r w4 ⟨rfl,h4⟩
 have M4:Hid (Mk g q (t.p+1) txt n p v w4):=M3.out.step h4
 have F4:Hid (FU g w w4):=F3.out.trans (FU.of_own h4.f)
 clear h4 M3 F3 E3
 go_wp2_with fail
 refine (ws_star hq M4.out (by omega) T42).mono ?_
 rintro r w5 ⟨rfl,p5,v5,h5,f5⟩
 have PW:Hid (pWord (bs q) (t.p+1)=⟨[⟨1,[],0,0,0,fun _=>false⟩],t.p+1+1⟩):=by show _=_; unfold pWord; rw [if_pos (show bt (bs q) _=42 from tk_b T42)]
 have M5:=hide h5
 have hlq:t.p+1+1≤q.size:=h5.le
 have F5:Hid (FU g w w5):=F4.out.trans (FU.of M4.out f5)
 clear h5 f5 M4 F4
 have hsz5:w.heap.size≤w5.heap.size:=F5.out.size
 have R6:=hide (srow_one (w:=w5) hsz5 ⟨0,⟨#[]⟩,0,0,.nilFunc,Or.inl rfl⟩ ⟨1,[],0,0,0,fun _=>false⟩ (fun _=>Or.inl ⟨rfl,rfl⟩))
 have M6:=hide (M5.out.alloc (.cells #[.int .i64 0,.string ⟨#[]⟩,.int .i64 0,.int .i64 0,.nilFunc] 239))
 have F6:=hide (F5.out.trans (FU.of_below ((Fr.refl (fun _=>False) w5).alloc (.cells #[.int .i64 0,.string ⟨#[]⟩,.int .i64 0,.int .i64 0,.nilFunc] 239)).below))
 clear M5 F5
 go_wp2
 go_ret
 exact ⟨adv (adv t),1,1,_,_,p5,v5,_,_,_,BB.out,by show _≤t.p+1+1; omega,by omega,rfl,⟨R6.out,rfl,rfl,PW.out⟩,M6.out,F6.out⟩
set_option maxHeartbeats 2000000 in
set_option maxRecDepth 100000 in
theorem ss_star {w:World} {g:Nat} {q:ByteArray} {txt:List UInt8} {n:Nat} {p v:Value} (hq:q.size≤1000) (hf:FinP (bs q)) (he:Er g w) (hG:6<g) {t:St} (h:Mk g q t.p txt n p v w) (hl:txt.length≤10000)
 (T91:tk q t.p ⟨#[91]⟩=false) (T46:tk q t.p ⟨#[46]⟩=false) (T42:tk q (t.p) ⟨#[42]⟩=true) (BB:Hid (Bnd (bs q) (n+1) (txt++[91,42,93]) (adv t))) :
 Calls Tryz.prog 115 #[.pointer (some ⟨g,0,none⟩)] w (SslQ g q (t.p) n (pWord (bs q) t.p) w):=by
 have HE:=hide he
 have HF:=hide hf
 have htq0:=h.le
 have d0:w.cell? ⟨g,0,none⟩=some (.string q):=h.b.cell 0
 have d1:w.cell? ⟨g,1,none⟩=some (.int .i64 ((t.p:Nat):Int)):=h.b.cell 1
 have e1:((t.p:Nat):Int)≤(q.size:Int):=by omega
 have MM:=hide h
 clear h he hf
 go_enter Tryz.func115,Tryz.ntmps115
 go_wp2_with fail
 go_quiet ((go_at_call 113; exact Calls.quiet_of_same (c_hasPrefix _ _)))
 rw [tk_ext,T91]
 have M3:Hid (Mk g q t.p txt n p v (w.drewN nq)):=⟨MM.out.b,MM.out.o,MM.out.row,MM.out.le⟩
 have F3:Hid (FU g w (w.drewN nq)):=(FU.refl g w).drewN nq
 have E3:Hid (Er g (w.drewN nq)):=HE.out.fu F3.out hG
 clear MM d0 d1 e1
 generalize w.drewN nq=w3 at *
 go_wp2_with fail
 refine (c_no M3.out.qt hq _ T46).mono ?_
 rintro r w4 ⟨rfl,h4⟩
 have M4:Hid (Mk g q t.p txt n p v w4):=M3.out.step h4
 have F4:Hid (FU g w w4):=F3.out.trans (FU.of_own h4.f)
 clear h4 M3 F3 E3
 go_wp2_with fail
 refine (ws_star hq M4.out (by omega) T42).mono ?_
 rintro r w5 ⟨rfl,p5,v5,h5,f5⟩
 have PW:Hid (pWord (bs q) (t.p)=⟨[⟨1,[],0,0,0,fun _=>false⟩],t.p+1⟩):=by show _=_; unfold pWord; rw [if_pos (show bt (bs q) _=42 from tk_b T42)]
 have M5:=hide h5
 have hlq:t.p+1≤q.size:=h5.le
 have F5:Hid (FU g w w5):=F4.out.trans (FU.of M4.out f5)
 clear h5 f5 M4 F4
 have hsz5:w.heap.size≤w5.heap.size:=F5.out.size
 have R6:=hide (srow_one (w:=w5) hsz5 ⟨0,⟨#[]⟩,0,0,.nilFunc,Or.inl rfl⟩ ⟨1,[],0,0,0,fun _=>false⟩ (fun _=>Or.inl ⟨rfl,rfl⟩))
 have M6:=hide (M5.out.alloc (.cells #[.int .i64 0,.string ⟨#[]⟩,.int .i64 0,.int .i64 0,.nilFunc] 239))
 have F6:=hide (F5.out.trans (FU.of_below ((Fr.refl (fun _=>False) w5).alloc (.cells #[.int .i64 0,.string ⟨#[]⟩,.int .i64 0,.int .i64 0,.nilFunc] 239)).below))
 clear M5 F5
 go_wp2
 go_ret
 exact ⟨adv t,1,1,_,_,p5,v5,_,_,_,BB.out,by show _≤t.p+1; omega,by omega,rfl,⟨R6.out,rfl,rfl,PW.out⟩,M6.out,F6.out⟩
set_option maxHeartbeats 2000000 in
set_option maxRecDepth 100000 in
theorem ss_dword {w:World} {g:Nat} {q:ByteArray} {txt:List UInt8} {n:Nat} {p v:Value} (hq:q.size≤1000) (hf:FinP (bs q)) (he:Er g w) (hG:6<g) {t:St} (h:Mk g q t.p txt n p v w) (hl:txt.length≤10000)
 (T91:tk q t.p ⟨#[91]⟩=false) (T46:tk q t.p ⟨#[46]⟩=true) (T42:tk q (t.p+1) ⟨#[42]⟩=false) (BB:Hid (WdB (bs q) (n+1) txt (adv t))) :
 Calls Tryz.prog 115 #[.pointer (some ⟨g,0,none⟩)] w (SslQ g q (t.p+1) n (pWord (bs q) (t.p+1)) w):=by
 have HE:=hide he
 have HF:=hide hf
 have htq0:=h.le
 have d0:w.cell? ⟨g,0,none⟩=some (.string q):=h.b.cell 0
 have d1:w.cell? ⟨g,1,none⟩=some (.int .i64 ((t.p:Nat):Int)):=h.b.cell 1
 have e1:((t.p:Nat):Int)≤(q.size:Int):=by omega
 have MM:=hide h
 clear h he hf
 go_enter Tryz.func115,Tryz.ntmps115
 go_wp2_with fail
 go_quiet ((go_at_call 113; exact Calls.quiet_of_same (c_hasPrefix _ _)))
 rw [tk_ext,T91]
 have M3:Hid (Mk g q t.p txt n p v (w.drewN nq)):=⟨MM.out.b,MM.out.o,MM.out.row,MM.out.le⟩
 have F3:Hid (FU g w (w.drewN nq)):=(FU.refl g w).drewN nq
 have E3:Hid (Er g (w.drewN nq)):=HE.out.fu F3.out hG
 clear MM d0 d1 e1
 generalize w.drewN nq=w3 at *
 go_wp2_with fail
 refine (c_yes M3.out.qt hq _ T46 (t.p+1) rfl).mono ?_
 rintro r w4 ⟨rfl,h4⟩
 have M4:Hid (Mk g q (t.p+1) txt n p v w4):=M3.out.step h4
 have F4:Hid (FU g w w4):=F3.out.trans (FU.of_own h4.f)
 clear h4 M3 F3 E3
 go_wp2_with fail
 refine (ws_word hq M4.out (by omega) T42).mono ?_
 rintro r w5 ⟨k,hk,rfl,p5,v5,h5,f5⟩
 have PW:Hid (pWord (bs q) (t.p+1)=⟨[⟨2,sub (bs q) (t.p+1) k,0,0,0,fun _=>false⟩],k⟩):=by show _=_; unfold pWord; rw [if_neg (show ¬bt (bs q) _=42 from tk_nb T42),hk.eq (by decide)]
 have hke:wordP (bs q) ((adv t))={ (adv t) with p:=k }:=word_eq BB.out.e0' BB.out.e0 (bnd_nolet HF.out BB.out.b) hk
 have hkg:t.p+1≤k:=hk.ge
 have B5:Hid (Bnd (bs q) (n+1) (txt++([91,39]++sub (bs q) (t.p+1) k++[39,93])) { (adv t) with p:=k }):=by
  have:=BB.out.b
  rw [hke] at this
  exact this
 have M5:=hide h5
 have hlq:k≤q.size:=h5.le
 have hfew:n+1≤k:=Bnd.few B5.out
 have F5:Hid (FU g w w5):=F4.out.trans (FU.of M4.out f5)
 clear h5 f5 M4 F4 hk hke BB
 have hsz5:w.heap.size≤w5.heap.size:=F5.out.size
 have R6:=hide (srow_one (w:=w5) hsz5 ⟨1,q.extract (t.p+1) k,0,0,.nilFunc,Or.inl rfl⟩ ⟨2,sub (bs q) (t.p+1) k,0,0,0,fun _=>false⟩ (fun _=>Or.inr (Or.inl ⟨rfl,rfl,(bs_extract _ _ _).symm⟩)))
 have M6:=hide (M5.out.alloc (.cells #[.int .i64 1,.string (q.extract (t.p+1) k),.int .i64 0,.int .i64 0,.nilFunc] 239))
 have F6:=hide (F5.out.trans (FU.of_below ((Fr.refl (fun _=>False) w5).alloc (.cells #[.int .i64 1,.string (q.extract (t.p+1) k),.int .i64 0,.int .i64 0,.nilFunc] 239)).below))
 clear M5 F5
 go_wp2
 go_ret
 exact ⟨{ (adv t) with p:=k },1,1,_,_,p5,v5,_,_,_,B5.out,by show _≤k; omega,by omega,rfl,⟨R6.out,rfl,rfl,PW.out⟩,M6.out,F6.out⟩
set_option maxHeartbeats 2000000 in
set_option maxRecDepth 100000 in
theorem ss_word {w:World} {g:Nat} {q:ByteArray} {txt:List UInt8} {n:Nat} {p v:Value} (hq:q.size≤1000) (hf:FinP (bs q)) (he:Er g w) (hG:6<g) {t:St} (h:Mk g q t.p txt n p v w) (hl:txt.length≤10000)
 (T91:tk q t.p ⟨#[91]⟩=false) (T46:tk q t.p ⟨#[46]⟩=false) (T42:tk q (t.p) ⟨#[42]⟩=false) (BB:Hid (WdB (bs q) (n+1) txt t)) :
 Calls Tryz.prog 115 #[.pointer (some ⟨g,0,none⟩)] w (SslQ g q (t.p) n (pWord (bs q) t.p) w):=by
 have HE:=hide he
 have HF:=hide hf
 have htq0:=h.le
 have d0:w.cell? ⟨g,0,none⟩=some (.string q):=h.b.cell 0
 have d1:w.cell? ⟨g,1,none⟩=some (.int .i64 ((t.p:Nat):Int)):=h.b.cell 1
 have e1:((t.p:Nat):Int)≤(q.size:Int):=by omega
 have MM:=hide h
 clear h he hf
 go_enter Tryz.func115,Tryz.ntmps115
 go_wp2_with fail
 go_quiet ((go_at_call 113; exact Calls.quiet_of_same (c_hasPrefix _ _)))
 rw [tk_ext,T91]
 have M3:Hid (Mk g q t.p txt n p v (w.drewN nq)):=⟨MM.out.b,MM.out.o,MM.out.row,MM.out.le⟩
 have F3:Hid (FU g w (w.drewN nq)):=(FU.refl g w).drewN nq
 have E3:Hid (Er g (w.drewN nq)):=HE.out.fu F3.out hG
 clear MM d0 d1 e1
 generalize w.drewN nq=w3 at *
 go_wp2_with fail
 refine (c_no M3.out.qt hq _ T46).mono ?_
 rintro r w4 ⟨rfl,h4⟩
 have M4:Hid (Mk g q t.p txt n p v w4):=M3.out.step h4
 have F4:Hid (FU g w w4):=F3.out.trans (FU.of_own h4.f)
 clear h4 M3 F3 E3
 go_wp2_with fail
 refine (ws_word hq M4.out (by omega) T42).mono ?_
 rintro r w5 ⟨k,hk,rfl,p5,v5,h5,f5⟩
 have PW:Hid (pWord (bs q) (t.p)=⟨[⟨2,sub (bs q) (t.p) k,0,0,0,fun _=>false⟩],k⟩):=by show _=_; unfold pWord; rw [if_neg (show ¬bt (bs q) _=42 from tk_nb T42),hk.eq (by decide)]
 have hke:wordP (bs q) (t)={ t with p:=k }:=word_eq BB.out.e0' BB.out.e0 (bnd_nolet HF.out BB.out.b) hk
 have hkg:t.p≤k:=hk.ge
 have B5:Hid (Bnd (bs q) (n+1) (txt++([91,39]++sub (bs q) (t.p) k++[39,93])) { t with p:=k }):=by
  have:=BB.out.b
  rw [hke] at this
  exact this
 have M5:=hide h5
 have hlq:k≤q.size:=h5.le
 have hfew:n+1≤k:=Bnd.few B5.out
 have F5:Hid (FU g w w5):=F4.out.trans (FU.of M4.out f5)
 clear h5 f5 M4 F4 hk hke BB
 have hsz5:w.heap.size≤w5.heap.size:=F5.out.size
 have R6:=hide (srow_one (w:=w5) hsz5 ⟨1,q.extract (t.p) k,0,0,.nilFunc,Or.inl rfl⟩ ⟨2,sub (bs q) (t.p) k,0,0,0,fun _=>false⟩ (fun _=>Or.inr (Or.inl ⟨rfl,rfl,(bs_extract _ _ _).symm⟩)))
 have M6:=hide (M5.out.alloc (.cells #[.int .i64 1,.string (q.extract (t.p) k),.int .i64 0,.int .i64 0,.nilFunc] 239))
 have F6:=hide (F5.out.trans (FU.of_below ((Fr.refl (fun _=>False) w5).alloc (.cells #[.int .i64 1,.string (q.extract (t.p) k),.int .i64 0,.int .i64 0,.nilFunc] 239)).below))
 clear M5 F5
 go_wp2
 go_ret
 exact ⟨{ t with p:=k },1,1,_,_,p5,v5,_,_,_,B5.out,by show _≤k; omega,by omega,rfl,⟨R6.out,rfl,rfl,PW.out⟩,M6.out,F6.out⟩
set_option maxHeartbeats 1000000 in
theorem ret_sg {R:Ending→World→Prop} {a:Act} {W:World} {g:Nat} {x0 x1 x2:Value} (hd:a.defers=[]) (ha:a.tmps[2]?.getD undef=.pointer (some ⟨g,0,none⟩))
 (hB:Blk W g #[x0,x1,x2] 128) (hR:R (.returned (.agg #[x0,x1,x2])) W):bodyPost Tryz.prog Tryz.f87 R .ret a W:=by
 have k0:=hB.cell 0
 have k1:=hB.cell 1
 have k2:=hB.cell 2
 simp at k0 k1 k2
 refine bodyPost_ret (v:=.agg #[x0,x1,x2]) ?_ hd hR
 simp [results,Tryz.results87,go_sem,ha,k0,k1,k2]
set_option maxHeartbeats 2000000 in
set_option maxRecDepth 100000 in
theorem sg_plain {w:World} {g:Nat} {q:ByteArray} {txt:List UInt8} {n:Nat} {p v:Value} {R:PS (List Sel)} (hq:q.size≤1000) {t:St} (h:Mk g q t.p txt n p v w) (hn:n≤1000) (_hl:txt.length≤9000)
 (T2:tk q t.p ⟨#[46,46]⟩=false) (SS:∀(p' v':Value) (w':World),Mk g q (t.p) txt n p' v' w'→FU g w w'→Calls Tryz.prog 115 #[.pointer (some ⟨g,0,none⟩)] w' (SslQ g q (t.p+1) n R w')) (hP:pSeg (bs q) t.p=⟨⟨false,R.v⟩,R.p⟩) :
 Calls Tryz.prog 87 #[.pointer (some ⟨g,0,none⟩)] w (SegQ g q t.p n w):=by
 have HS:=hide SS
 have HP:=hide hP
 clear hP
 have MM:=hide (h.alloc (.cells #[.nilFunc,.nilFunc,.bool false] 128))
 have B0:=hide (Blk.new w #[.nilFunc,.nilFunc,.bool false] 128)
 have FW:Hid (FU g w (w.alloc (.cells #[.nilFunc,.nilFunc,.bool false] 128))):=FU.of_below ((Fr.refl (fun _=>False) w).alloc _).below
 obtain ⟨W0,hW0⟩:∃W0,W0=w.alloc (.cells #[.nilFunc,.nilFunc,.bool false] 128):=⟨_,rfl⟩
 have F0:Hid (FU g W0 W0):=FU.refl _ _
 have hgw:g<w.heap.size:=h.b.lt
 rw [← hW0] at MM B0 FW
 have HW:=hide hW0
 clear h SS hW0
 go_enter Tryz.func87,Tryz.ntmps87
 go_wp2_with fail
 rw [← HW.out]
 refine (c_no MM.out.qt hq _ T2).mono ?_
 rintro r w2 ⟨rfl,h1⟩
 have M2:Hid (Mk g q t.p txt n p v w2):=MM.out.step h1
 have F2:Hid (FU g W0 w2):=F0.out.trans (FU.of_own h1.f)
 clear h1 MM F0
 go_wp2_with fail
 refine (HS.out _ _ _ M2.out (FW.out.trans F2.out)).mono ?_
 rintro r w3 ⟨t',j,cp,ao,txt',p3,v3,l,xs,D,hb,hlt,hj,rfl,⟨hrow,hxl,hll,hR⟩,hM,hF⟩
 have HXL:=hide hxl
 have HLL:=hide hll
 have HR:=hide hR
 have hgB:g<w2.heap.size:=M2.out.b.lt
 have hsz2:W0.heap.size≤w2.heap.size:=F2.out.size
 have hsz3:w2.heap.size≤w3.heap.size:=hF.size
 have BB:=hide hb
 have F3:Hid (FU g W0 w3):=F2.out.trans hF
 have c4:w3.cell? ⟨g,4,none⟩=some (.int .i64 (n:Nat)):=hM.b.cell 4
 have fz4:=hM.b.fz 4
 have M4:=hide (hM.setN (n+j))
 have e4:((n+j:Nat):Int)=(n:Int)+(j:Int):=by omega
 have f0:Fr (fun k=>k=g) w3 (w3.setCell ⟨g,4,none⟩ (.int .i64 ((n+j:Nat):Int))):=(Fr.refl (fun k=>k=g) w3).setCell ⟨g,4,none⟩ (Or.inl rfl) _
 have F4:=hide (F3.out.trans (FU.of_own f0))
 have R4:=hide (RowG.fr hrow f0 (fun k hk e=>by omega))
 rw [e4] at M4 F4 R4
 clear hb hM hF F3 F2 M2 hrow f0 e4 hxl hll hR
 go_wp2_with fail
 refine (m_segmentOf false R4.out HXL.out HLL.out (by omega) (by simp [World.setCell]; omega)).mono ?_
 rintro r w5 ⟨⟨f1,f2,D5,rfl,hft5,hok5⟩,hb5⟩
 obtain ⟨N1,cap1,rfl,_,_⟩:=hok5.self.t
 obtain ⟨N2,cap2,rfl,_,_⟩:=hok5.self.c
 have FT5:=hide hft5
 have OK5:=hide hok5
 clear hft5 hok5
 have M5:=hide (M4.out.below hb5)
 have F5:=hide (F4.out.trans (FU.of_below hb5))
 clear hb5 M4 F4 R4
 have B5:Hid (Blk w5 w.heap.size #[.nilFunc,.nilFunc,.bool false] 128):=F5.out.blk B0.out (by decide) (by omega)
 have z0:=B5.out.cell 0
 have z1:=B5.out.cell 1
 have z2:=B5.out.cell 2
 have hfz:=B5.out.fz
 simp at z0 z1 z2
 go_wp2
 refine ret_sg rfl rfl (((B5.out.set 0 _).set 1 _).set 2 _) ?_
 have hnk:¬KG g v3 w.heap.size:=M5.out.apart B5.out (by decide) (by omega)
 have hWs:W0.heap.size=w.heap.size+1:=by rw [HW.out]; simp
 have nd:∀q,D5 q→q≠w.heap.size:=fun q hq=>by have:=FT5.out.ge q hq; omega
 have hr:∀{W:World} (x:Sm D5 w5 W) (i:Nat) (y:Value),Sm D5 w5 (W.setCell ⟨w.heap.size,i,none⟩ y):=fun x i y k hk=>(Below.heap_setCell _ _ _ _ (by show k≠w.heap.size; exact nd k hk)).trans (x k hk)
 have s5:∀(a b c:Value),Sm D5 w5 (((w5.setCell ⟨w.heap.size,0,none⟩ a).setCell ⟨w.heap.size,1,none⟩ b).setCell ⟨w.heap.size,2,none⟩ c):=fun a b c=>hr (hr (hr (fun _ _=>rfl) 0 a) 1 b) 2 c
 refine ⟨t',n+j,txt',p3,v3,_,_,⟨false,xs⟩,D5,BB.out,by omega,by show n+j=n+xs.length; rw [HXL.out],rfl,by rw [HP.out,HR.out],⟨(FT5.out.keep (s5 _ _ _)).low (by omega),OK5.out.keep (s5 _ _ _)⟩,((M5.out.set1 hnk 0 _).set1 hnk 1 _).set1 hnk 2 _,(((FW.out.trans F5.out).setNew (Nat.le_refl _) 0 _).setNew (Nat.le_refl _) 1 _).setNew (Nat.le_refl _) 2 _⟩
set_option maxHeartbeats 2000000 in
set_option maxRecDepth 100000 in
theorem sg_deep {w:World} {g:Nat} {q:ByteArray} {txt:List UInt8} {n:Nat} {p v:Value} {R:PS (List Sel)} (hq:q.size≤1000) {t:St} (h:Mk g q t.p txt n p v w) (hn:n≤1000) (hl:txt.length≤9000)
 (T2:tk q t.p ⟨#[46,46]⟩=true) (SS:∀(p' v':Value) (w':World),Mk g q (t.p+2) (txt++[46,46]) n p' v' w'→FU g w w'→Calls Tryz.prog 115 #[.pointer (some ⟨g,0,none⟩)] w' (SslQ g q (t.p+2) n R w')) (hP:pSeg (bs q) t.p=⟨⟨true,R.v⟩,R.p⟩) :
 Calls Tryz.prog 87 #[.pointer (some ⟨g,0,none⟩)] w (SegQ g q t.p n w):=by
 have HS:=hide SS
 have HP:=hide hP
 clear hP
 have MM:=hide (h.alloc (.cells #[.nilFunc,.nilFunc,.bool false] 128))
 have B0:=hide (Blk.new w #[.nilFunc,.nilFunc,.bool false] 128)
 have FW:Hid (FU g w (w.alloc (.cells #[.nilFunc,.nilFunc,.bool false] 128))):=FU.of_below ((Fr.refl (fun _=>False) w).alloc _).below
 obtain ⟨W0,hW0⟩:∃W0,W0=w.alloc (.cells #[.nilFunc,.nilFunc,.bool false] 128):=⟨_,rfl⟩
 have F0:Hid (FU g W0 W0):=FU.refl _ _
 have hgw:g<w.heap.size:=h.b.lt
 rw [← hW0] at MM B0 FW
 have HW:=hide hW0
 clear h SS hW0
 go_enter Tryz.func87,Tryz.ntmps87
 go_wp2_with fail
 rw [← HW.out]
 refine (c_yes MM.out.qt hq _ T2 (t.p+2) rfl).mono ?_
 rintro r w1 ⟨rfl,h1⟩
 have M1:=hide (MM.out.step h1)
 have F1:Hid (FU g W0 w1):=F0.out.trans (FU.of_own h1.f)
 clear h1 MM F0
 go_wp2_with fail
 refine (c_write M1.out ⟨#[46,46]⟩ (by show txt.length+2≤_; omega)).mono ?_
 rintro r w2 ⟨rfl,p2,v2,h2,f2⟩
 have M2:Hid (Mk g q (t.p+2) (txt++[46,46]) n p2 v2 w2):=h2
 have F2:Hid (FU g W0 w2):=F1.out.trans (FU.of M1.out f2)
 clear h2 f2 M1 F1
 go_wp2_with fail
 refine (HS.out _ _ _ M2.out (FW.out.trans F2.out)).mono ?_
 rintro r w3 ⟨t',j,cp,ao,txt',p3,v3,l,xs,D,hb,hlt,hj,rfl,⟨hrow,hxl,hll,hR⟩,hM,hF⟩
 have HXL:=hide hxl
 have HLL:=hide hll
 have HR:=hide hR
 have hgB:g<w2.heap.size:=M2.out.b.lt
 have hsz2:W0.heap.size≤w2.heap.size:=F2.out.size
 have hsz3:w2.heap.size≤w3.heap.size:=hF.size
 have BB:=hide hb
 have F3:Hid (FU g W0 w3):=F2.out.trans hF
 have c4:w3.cell? ⟨g,4,none⟩=some (.int .i64 (n:Nat)):=hM.b.cell 4
 have fz4:=hM.b.fz 4
 have M4:=hide (hM.setN (n+j))
 have e4:((n+j:Nat):Int)=(n:Int)+(j:Int):=by omega
 have f0:Fr (fun k=>k=g) w3 (w3.setCell ⟨g,4,none⟩ (.int .i64 ((n+j:Nat):Int))):=(Fr.refl (fun k=>k=g) w3).setCell ⟨g,4,none⟩ (Or.inl rfl) _
 have F4:=hide (F3.out.trans (FU.of_own f0))
 have R4:=hide (RowG.fr hrow f0 (fun k hk e=>by omega))
 rw [e4] at M4 F4 R4
 clear hb hM hF F3 F2 M2 hrow f0 e4 hxl hll hR
 go_wp2_with fail
 refine (m_segmentOf true R4.out HXL.out HLL.out (by omega) (by simp [World.setCell]; omega)).mono ?_
 rintro r w5 ⟨⟨f1,f2,D5,rfl,hft5,hok5⟩,hb5⟩
 obtain ⟨N1,cap1,rfl,_,_⟩:=hok5.self.t
 obtain ⟨N2,cap2,rfl,_,_⟩:=hok5.self.c
 have FT5:=hide hft5
 have OK5:=hide hok5
 clear hft5 hok5
 have M5:=hide (M4.out.below hb5)
 have F5:=hide (F4.out.trans (FU.of_below hb5))
 clear hb5 M4 F4 R4
 have B5:Hid (Blk w5 w.heap.size #[.nilFunc,.nilFunc,.bool false] 128):=F5.out.blk B0.out (by decide) (by omega)
 have z0:=B5.out.cell 0
 have z1:=B5.out.cell 1
 have z2:=B5.out.cell 2
 have hfz:=B5.out.fz
 simp at z0 z1 z2
 go_wp2
 refine ret_sg rfl rfl (((B5.out.set 0 _).set 1 _).set 2 _) ?_
 have hnk:¬KG g v3 w.heap.size:=M5.out.apart B5.out (by decide) (by omega)
 have hWs:W0.heap.size=w.heap.size+1:=by rw [HW.out]; simp
 have nd:∀q,D5 q→q≠w.heap.size:=fun q hq=>by have:=FT5.out.ge q hq; omega
 have hr:∀{W:World} (x:Sm D5 w5 W) (i:Nat) (y:Value),Sm D5 w5 (W.setCell ⟨w.heap.size,i,none⟩ y):=fun x i y k hk=>(Below.heap_setCell _ _ _ _ (by show k≠w.heap.size; exact nd k hk)).trans (x k hk)
 have s5:∀(a b c:Value),Sm D5 w5 (((w5.setCell ⟨w.heap.size,0,none⟩ a).setCell ⟨w.heap.size,1,none⟩ b).setCell ⟨w.heap.size,2,none⟩ c):=fun a b c=>hr (hr (hr (fun _ _=>rfl) 0 a) 1 b) 2 c
 refine ⟨t',n+j,txt',p3,v3,_,_,⟨true,xs⟩,D5,BB.out,by omega,by show n+j=n+xs.length; rw [HXL.out],rfl,by rw [HP.out,HR.out],⟨(FT5.out.keep (s5 _ _ _)).low (by omega),OK5.out.keep (s5 _ _ _)⟩,((M5.out.set1 hnk 0 _).set1 hnk 1 _).set1 hnk 2 _,(((FW.out.trans F5.out).setNew (Nat.le_refl _) 0 _).setNew (Nat.le_refl _) 1 _).setNew (Nat.le_refl _) 2 _⟩
end Go.Proofs.YtcbadebjpogmlaaGreatDoor
