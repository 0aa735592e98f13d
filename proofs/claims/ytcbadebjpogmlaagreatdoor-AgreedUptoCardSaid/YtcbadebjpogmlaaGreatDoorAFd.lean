import Derived.Test.YtcbadebjpogmlaaGreatDoorAFb
namespace Tr
theorem gDat_eq {xs:List Sg} {s:Fw} {G:Gs} (h:TW xs s G) (t:Tok):gDat s.g t=gDat G t:=by
 unfold gDat
 rw [h.nm,h.ix]
 have:gPath s.g.st G.ix G.nm=gPath G.st G.ix G.nm:=by
  have hst:=h.st
  cases hs:s.g.st with
  | nil =>
   cases hG:G.st with
   | nil=>rfl
   | cons P Q=>rw [hs,hG] at hst; exact hst.elim
  | cons p q =>
   cases hG:G.st with
   | nil=>rw [hs,hG] at hst; exact hst.elim
   | cons P Q =>
    rw [hs,hG] at hst
    show kPath p.d.kind p.d.path _ _=kPath P.d.kind P.d.path _ _
    rw [hst.1]
 rw [this]
theorem tw_take {xs:List Sg} (hx:∀g ∈ xs,0<g.l.length) (hso:SrtOk xs) {s:Fw} {G:Gs} (h:TW xs s G) (hf:GF G) (hi:ixOk G.st G.ix) {t:Tok} (ht:TokOk G.sh t) (h1:t.k=0∨t.k=3→G.st=[]→G.last=none):TW xs (fTake xs s t) (gTake G t true):=by
 have hd:=gDat_eq h t
 have hbd:G.sh.bd=G.bd:=rfl
 have hlen:=h.st.len
 unfold fTake
 by_cases k0:t.k=0
 ·rw [if_pos k0]
  have P:=tw_push hx h (gDat s.g t) (b:=t.frm) (by rw [h.bd]; exact (ht.k0 k0).2.2.2.2) (h1 (Or.inl k0))
  have e1:gTake s.g t s.hd.isSome=⟨⟨gDat s.g t,s.g.ix,s.hd.isSome,[]⟩::s.g.st,[],0,t.frm+1,s.g.last⟩:=by unfold gTake; rw [if_pos k0]; rfl
  have e2:gTake G t true=⟨⟨gDat s.g t,G.ix,true,[]⟩::G.st,[],0,t.frm+1,G.last⟩:=by unfold gTake; rw [if_pos k0,hd]; rfl
  rw [e1,e2]
  exact P
 rw [if_neg k0]
 by_cases k1:t.k=1
 ·rw [if_pos k1]
  cases hs:s.g.st with
  | nil =>
   have hG:G.st=[]:=List.eq_nil_of_length_eq_zero (by rw [← hlen,hs]; rfl)
   have e2:gTake G t true=G:=by unfold gTake; rw [if_neg k0,if_pos k1,hG]
   rw [e2]; exact h
  | cons f r =>
   cases hG:G.st with
   | nil=>rw [hs,hG] at hlen; simp at hlen
   | cons F R =>
    have h8:=hf.len
    have C:=tw_cls hso h hs hG hi (by rw [hG] at h8; simp at h8; omega) hf.d t.to
    have e1:gTake s.g t true=gClose s.g f r t.to:=by unfold gTake; rw [if_neg k0,if_pos k1,hs]
    have e2:gTake G t true=gClose G F R t.to:=by unfold gTake; rw [if_neg k0,if_pos k1,hG]
    simp only
    rw [e1,e2]
    exact C
 rw [if_neg k1]
 by_cases k2:t.k=2
 ·rw [if_pos k2]
  have e1:gTake s.g t true={ s.g with nm:=t.t }:=by unfold gTake; rw [if_neg k0,if_neg k1,if_pos k2]
  have e2:gTake G t true={ G with nm:=t.t }:=by unfold gTake; rw [if_neg k0,if_neg k1,if_pos k2]
  rw [e1,e2]
  exact ⟨⟨h.ok.n,h.ok.fr,h.ok.tl,h.ok.hd,h.ok.ct,h.ok.z⟩,rfl,h.ix,h.bd,h.st,h.tl,h.told⟩
 rw [if_neg k2]
 have k3:=ht.k3 (by have:=ht.k; omega)
 have P:=tw_push hx h (gDat s.g t) (b:=t.frm) (by rw [h.bd]; exact k3.2.2.2.2) (h1 (Or.inr (by have:=ht.k; omega)))
 have hdp:DeepS (⟨gDat s.g t,G.ix,true,[]⟩::G.st):=⟨fun c hc=>(by cases hc),hf.d⟩
 have Q:=tw_cls hso P (f:=⟨gDat s.g t,s.g.ix,s.hd.isSome,[]⟩) (r:=s.g.st) (F:=⟨gDat s.g t,G.ix,true,[]⟩) (R:=G.st) rfl rfl ⟨rfl,rfl,hi⟩ hf.len hdp t.to
 have e:gTake s.g t s.hd.isSome=gClose { s.g with nm:=[],bd:=t.frm+1 } (gBegin s.g t s.hd.isSome) s.g.st t.to:=by unfold gTake; rw [if_neg k0,if_neg k1,if_neg k2]
 have e2:gTake G t true=gClose ⟨⟨gDat s.g t,G.ix,true,[]⟩::G.st,[],0,t.frm+1,G.last⟩ ⟨gDat s.g t,G.ix,true,[]⟩ G.st t.to:=by unfold gTake; rw [if_neg k0,if_neg k1,if_neg k2]; unfold gBegin; rw [hd]; rfl
 rw [e,e2]
 have e3:({ fCls xs (fBeg xs s (gDat s.g t)) ((gBegin s.g t true).tv t.to) s.g.st.length with g:=gClose { s.g with nm:=[],bd:=t.frm+1 } (gBegin s.g t s.hd.isSome) s.g.st t.to }:Fw)={ fCls xs (fPush xs s (gDat s.g t) t.frm) ((⟨gDat s.g t,s.g.ix,s.hd.isSome,[]⟩:Fm).tv t.to) s.g.st.length with g:=gClose (fPush xs s (gDat s.g t) t.frm).g ⟨gDat s.g t,s.g.ix,s.hd.isSome,[]⟩ s.g.st t.to }:=by
  unfold fPush fCls
  simp only
  split
  ·rfl
  rfl
 rw [e3]; exact Q
def OneL:Gs→List Tok→Prop
 | _,[]=>True
 | G,t::r=>(t.k=0∨t.k=3→G.st=[]→G.last=none)∧OneL (gTake G t true) r
theorem tw_run {xs:List Sg} (hx:∀g ∈ xs,0<g.l.length) (hso:SrtOk xs):∀{ts:List Tok} {s:Fw} {G:Gs},TW xs s G→GF G→ixOk G.st G.ix→OkL G.sh ts→OneL G ts→TW xs (fRun xs s ts) (gRun G ts)
 | [],_,_,h,_,_,_,_=>h
 | t::r,s,G,h,hf,hi,ho,h1=>by
  have:=tw_run hx hso (ts:=r) (tw_take hx hso h hf hi ho.1 h1.1) (gf_take hf hi ho.1) (ix_take hi) (by rw [sh_take G t true ho.1]; exact ho.2) h1.2
  exact this
structure Nx (z:Sn) (x:Sx):Prop where
 a:x.ts=[]∨(∃t,x.ts=[t])∨(z.op≠[]∧∃t t',x.ts=[t,t']∧t'.k=1)
 b:z.op=[]→z.st=5→x.ts=[]
 c:x.z.op=[]→x.z.st≠5→x.z.st≤10→z.op=[]∧z.st≠5∧x.ts=[]
theorem nx_wrong {z z':Sn} {c:Nat} (hc:11≤c):Nx z ⟨{ z' with st:=c },[]⟩:=⟨Or.inl rfl,fun _ _=>rfl,fun _ _ h=>absurd h (by simp only; omega)⟩
theorem nx_next {z:Sn} {s:Sh} (hok:SOk z) (hlk:Lk z s) (hst:z.st≤10) (hat:z.at'<4000000) (b:Nat):Nx z (sNext z b):=by
 have S:=stp_next hok hlk hst hat b
 have OK:=S.ok
 have SH:z.op≠[]→Nx z (sShut z):=fun h=>⟨Or.inr (Or.inl ⟨_,rfl⟩),fun e _=>absurd e h,fun _ e _=>absurd rfl e⟩
 have BH:∀b,Nx z (sBehind z b)∧((sBehind z b).ts=[]∨(z.op≠[]∧∃t,(sBehind z b).ts=[t]∧t.k=1))∧((sBehind z b).z.op=[]→(sBehind z b).z.st≠5→(sBehind z b).z.st≤10→False):=fun b=>by
  unfold sBehind
  by_cases m:mayF z.op b=false
  ·rw [if_pos m]; exact ⟨nx_wrong (by omega),Or.inl rfl,fun _ _ h=>absurd h (by simp [Sn.to])⟩
  rw [if_neg m]
  by_cases bl:isBl b=true
  ·rw [if_pos bl]; exact ⟨⟨Or.inl rfl,fun _ _=>rfl,fun _ h _=>absurd rfl h⟩,Or.inl rfl,fun _ h _=>absurd rfl h⟩
  rw [if_neg bl]
  have hne:=mayF_ne (by simpa using m) (by simpa using bl)
  by_cases b4:b≠44
  ·rw [if_pos b4]; exact ⟨SH hne,Or.inr ⟨hne,_,rfl,rfl⟩,fun _ h _=>absurd rfl h⟩
  rw [if_neg b4]
  split
  ·exact ⟨⟨Or.inl rfl,fun _ _=>rfl,fun h _ _=>absurd h hne⟩,Or.inl rfl,fun h _ _=>hne h⟩
  exact ⟨⟨Or.inl rfl,fun _ _=>rfl,fun h _ _=>absurd h hne⟩,Or.inl rfl,fun h _ _=>hne h⟩
 have BG:z.st≠5→Nx z (sBegin z b):=fun h5=>by
  have LT:∀k c,Nx z (sLot z k c):=fun k c=>by
   unfold sLot
   split
   ·exact nx_wrong (by omega)
   exact ⟨Or.inr (Or.inl ⟨_,rfl⟩),fun _ e=>absurd e h5,fun e _ _=>absurd e (by simp)⟩
  unfold sBegin
  split
  ·exact LT _ _
  split
  ·exact LT _ _
  split
  ·exact ⟨Or.inl rfl,fun _ _=>rfl,fun e _ _=>⟨e,h5,rfl⟩⟩
  split
  ·exact ⟨Or.inl rfl,fun _ _=>rfl,fun e _ _=>⟨e,h5,rfl⟩⟩
  split
  ·exact ⟨Or.inl rfl,fun _ _=>rfl,fun e _ _=>⟨e,h5,rfl⟩⟩
  split
  ·exact ⟨Or.inl rfl,fun _ _=>rfl,fun e _ _=>⟨e,h5,rfl⟩⟩
  unfold sBNum
  split
  ·exact ⟨Or.inl rfl,fun _ _=>rfl,fun e _ _=>⟨e,h5,rfl⟩⟩
  split
  ·exact ⟨Or.inl rfl,fun _ _=>rfl,fun e _ _=>⟨e,h5,rfl⟩⟩
  exact ⟨Or.inl rfl,fun _ _=>rfl,fun _ _ h=>absurd h (by simp)⟩
 unfold sNext at OK ⊢
 by_cases h6:z.st=6
 ·rw [if_pos h6] at OK ⊢
  have h5:z.st≠5:=by omega
  unfold sStr at OK ⊢
  split
  ·exact nx_wrong (by omega)
  rename_i q1
  rw [if_neg q1] at OK
  split
  ·exact ⟨Or.inl rfl,fun _ _=>rfl,fun e _ _=>⟨e,h5,rfl⟩⟩
  rename_i q2
  rw [if_neg q2] at OK
  split
  ·rename_i q3
   rw [if_pos q3] at OK
   unfold sEndS at OK ⊢
   split
   ·exact ⟨Or.inr (Or.inl ⟨_,rfl⟩),fun _ e=>absurd e h5,fun _ e _=>absurd rfl e⟩
   rename_i q4
   rw [if_neg q4] at OK
   exact ⟨Or.inr (Or.inl ⟨_,rfl⟩),fun _ e=>absurd e h5,fun e _ _=>absurd e ((OK (by simp)).ne (by simp))⟩
  exact ⟨Or.inl rfl,fun _ _=>rfl,fun e _ _=>⟨e,h5,rfl⟩⟩
 rw [if_neg h6] at OK ⊢
 by_cases h7:z.st=7
 ·rw [if_pos h7]
  have h5:z.st≠5:=by omega
  unfold sEsc
  split
  ·exact nx_wrong (by omega)
  exact ⟨Or.inl rfl,fun _ _=>rfl,fun e _ _=>⟨e,h5,rfl⟩⟩
 rw [if_neg h7] at OK ⊢
 by_cases h8:z.st=8∨z.st=9
 ·rw [if_pos h8]
  have h5:z.st≠5:=by omega
  unfold sNum
  split
  ·exact nx_wrong (by omega)
  split
  ·exact ⟨Or.inl rfl,fun _ _=>rfl,fun e _ _=>⟨e,h5,rfl⟩⟩
  split
  ·exact nx_wrong (by omega)
  obtain ⟨_,b2,b3⟩:=BH b
  refine ⟨?_,fun _ e=>absurd e h5,fun e1 e2 e3=>(b3 e1 e2 e3).elim⟩
  rcases b2 with y | ⟨y0,t,y,yk⟩
  ·exact Or.inr (Or.inl ⟨sNumT z,by simp [y]⟩)
  exact Or.inr (Or.inr ⟨y0,sNumT z,t,by simp [y],yk⟩)
 rw [if_neg h8] at OK ⊢
 by_cases h10:z.st=10
 ·rw [if_pos h10]
  have h5:z.st≠5:=by omega
  unfold sWord
  split
  ·exact nx_wrong (by omega)
  split
  ·exact ⟨Or.inr (Or.inl ⟨_,rfl⟩),fun _ e=>absurd e h5,fun _ e _=>absurd rfl e⟩
  exact ⟨Or.inl rfl,fun _ _=>rfl,fun e _ _=>⟨e,h5,rfl⟩⟩
 rw [if_neg h10] at OK ⊢
 by_cases bl:isBl b=true
 ·rw [if_pos bl]
  exact ⟨Or.inl rfl,fun _ _=>rfl,fun e e2 _=>⟨e,e2,rfl⟩⟩
 rw [if_neg bl] at OK ⊢
 unfold sBetw at OK ⊢
 by_cases h5:z.st=5
 ·rw [if_pos h5]; exact (BH b).1
 rw [if_neg h5] at OK ⊢
 split
 ·exact ⟨Or.inl rfl,fun _ _=>rfl,fun e _ _=>⟨e,h5,rfl⟩⟩
 split
 ·rename_i q
  exact SH (hok.ne (by omega))
 split
 ·exact BG h5
 split
 ·exact ⟨Or.inl rfl,fun _ _=>rfl,fun e _ _=>⟨e,h5,rfl⟩⟩
 exact nx_wrong (by omega)
theorem one_run:∀(l:List UInt8) {z:Sn} {G:Gs},SOk z→Lk z G.sh→z.st≤10→z.at'+l.length≤4000000→(z.op=[]→z.st≠5→G.last=none)→OneL G (sRun z l).ts∧((sRun z l).e=0→(sRun z l).z.op=[]→(sRun z l).z.st≠5→(gRun G (sRun z l).ts).last=none)
 | [],z,G,_,_,_,_,h=>⟨trivial,fun _ e1 e2=>h e1 e2⟩
 | b::l,z,G,h1,h2,h3,h4,h=>by
  have hl:z.at'+(l.length+1)≤4000000:=by simpa using h4
  have S:=stp_next h1 h2 h3 (by omega) b.toNat
  have N:=nx_next h1 h2 h3 (by omega) b.toNat
  have hop:z.op=[]↔G.st=[]:=by
   rw [← h2.op]
   show ((G.st.map fk).reverse)=[]↔_
   simp
  have hone:∀t:Tok,(t.k=0∨t.k=3→z.op=[]→z.st≠5)→(t.k=0∨t.k=3→G.st=[]→G.last=none):=fun t ht hk hG=>h (hop.2 hG) (ht hk (hop.2 hG))
  have L1:OneL G (sNext z b.toNat).ts:=by
   rcases N.a with e | ⟨t,e⟩ | ⟨ne,t,t',e,ek⟩
   ·rw [e]; trivial
   ·rw [e]
    refine ⟨hone t (fun _ o e5=>?_),trivial⟩
    have:=N.b o e5
    rw [e] at this; cases this
   rw [e]
   exact ⟨hone t (fun _ o=>absurd o ne),fun hk=>(by omega),trivial⟩
  rw [sRun]
  by_cases c12:(sNext z b.toNat).z.st=12
  ·rw [if_pos c12]; exact ⟨L1,fun e=>(by cases e)⟩
  rw [if_neg c12]
  by_cases c11:(sNext z b.toNat).z.st=11
  ·rw [if_pos c11]; exact ⟨L1,fun e=>(by cases e)⟩
  rw [if_neg c11]
  have c10:(sNext z b.toNat).z.st≤10:=by have:=S.st; omega
  have hat:=S.at'
  have o1:=S.ok c10
  have O:SOk { (sNext z b.toNat).z with at':=(sNext z b.toNat).z.at'+1 }:=⟨o1.op,o1.ne,o1.tk,o1.st,o1.w,o1.n,o1.m,o1.x⟩
  have I:=one_run l (G:=gRun G (sNext z b.toNat).ts) O (by rw [gRun_sh S.tok]; exact S.lk c10) c10 (by simp only [hat]; omega) (fun e1 e2=>by
   obtain ⟨n1,n2,n3⟩:=N.c e1 e2 c10
   rw [n3]; exact h n1 n2)
  simp only
  rw [gRun_app]
  refine ⟨?_,I.2⟩
  exact OneL_app L1 I.1
 where
 OneL_app:∀{a b:List Tok} {G:Gs},OneL G a→OneL (gRun G a) b→OneL G (a++b)
 | [],_,_,_,h=>h
 | _::_,_,_,⟨h1,h2⟩,h=>⟨h1,OneL_app h2 h⟩
theorem fInit_tw (xs:List Sg):TW xs fInit gInit:=⟨fInit_ok xs,rfl,rfl,rfl,trivial,trivial,rfl⟩
theorem told_text {xs:List Sg} (hx:∀g ∈ xs,0<g.l.length) (hso:SrtOk xs) {l:List UInt8} (hl:l.length≤4000000) (h:txErr l=0) {t:Tv} (ht:txVal l=some t):(fRun xs fInit (txTs l)).told.map tp=(cntT xs 10 t (tlOut xs.length)).map tp:=by
 obtain ⟨h1,h2,_⟩:=tx_ok hl h
 have R:=run_ok' l sInit_ok.1 sInit_ok.2 (by simp [sInit]) (by simp [sInit]; omega)
 have he:(sRun sInit l).e=0:=by
  unfold txErr at h
  by_cases x:(sRun sInit l).e≠0
  ·rw [if_pos x] at h; exact h
  simpa using x
 have O:=one_run l (G:=gInit) sInit_ok.1 sInit_ok.2 (by simp [sInit]) (by simp [sInit]; omega) (fun _ _=>rfl)
 have O2:OneL gInit (txTs l):=by
  unfold txTs
  refine one_run.OneL_app O.1 ?_
  unfold sEnd
  by_cases e9:(sRun sInit l).z.st=9
  ·rw [if_pos e9]
   refine ⟨fun _ hG=>O.2 he ?_ (by omega),trivial⟩
   have lk:=(R.ok he).2.2.2
   have sh:=gRun_sh (g:=gInit) R.tok
   rw [show shRun ⟨[],0⟩ (sRun sInit l).ts=(gRun gInit (sRun sInit l).ts).sh from sh.symm] at lk
   have:(gRun gInit (sRun sInit l).ts).sh.op=[]:=by simp [Gs.sh,hG]
   rw [← lk.op]; exact this
  rw [if_neg e9]; trivial
 have W:=tw_run hx hso (fInit_tw xs) gInit_gf (show ixOk gInit.st gInit.ix from trivial) h1 O2
 rw [W.told,if_pos h2]
 unfold txVal at ht
 rw [ht]
end Tr
namespace Tr
def isLast (b:Nat):Bool:=b == 91 || b == 93 || b == 123 || b == 125 || b == 34 || (decide (48≤b) && decide (b≤57)) || b == 101 || b == 108
def room (l:List UInt8):Nat:=1+l.countP (fun b=>isLast b.toNat)
def pend (z:Sn):Nat:=if z.st=9 then 1 else 0
def one (b:Nat):Nat:=if isLast b=true then 1 else 0
def WdOk (z:Sn):Prop:=z.st=10→z.rs.getLast?=some 101∨z.rs.getLast?=some 108
structure Nr (z:Sn) (b:Nat) (x:Sx):Prop where
 n:x.ts.length+pend x.z≤pend z+one b
 w:WdOk x.z
theorem nr_to {z:Sn} {b c:Nat} (h9:c≠9) (h10:c≠10):Nr z b (z.to c):=⟨by simp [Sn.to,pend,h9],fun h=>absurd h h10⟩
theorem nr_next {z:Sn} (hok:SOk z) (hw:WdOk z) (b:Nat) (hb:b<256):Nr z b (sNext z b):=by
 have SH:(b=93∨b=125)→Nr z b (sShut z):=fun h=>by
  have:one b=1:=by rcases h with e | e<;>rw [e]<;>rfl
  exact ⟨by simp [sShut,pend,this],fun e=>by simp [sShut] at e⟩
 have BH:(sBehind z b).ts.length+pend (sBehind z b).z≤one b∧WdOk (sBehind z b).z:=by
  unfold sBehind
  by_cases m:mayF z.op b=false
  ·rw [if_pos m]; exact ⟨by simp [Sn.to,pend],fun h=>by simp [Sn.to] at h⟩
  rw [if_neg m]
  by_cases bl:isBl b=true
  ·rw [if_pos bl]; exact ⟨by simp [Sn.to,pend],fun h=>by simp [Sn.to] at h⟩
  rw [if_neg bl]
  by_cases b4:b≠44
  ·rw [if_pos b4]
   have:b=93∨b=125:=by
    unfold mayF at m
    simp only [Bool.not_eq_true] at bl
    rw [bl] at m
    simp only [Bool.false_or,Bool.and_eq_false_iff,not_or,Bool.not_eq_false] at m
    have m2:=m.2
    split at m2<;>simp at m2<;>omega
   have h1:one b=1:=by rcases this with e | e<;>rw [e]<;>rfl
   exact ⟨by simp [sShut,pend,h1],fun e=>by simp [sShut] at e⟩
  rw [if_neg b4]
  split
  ·exact ⟨by simp [Sn.to,pend],fun h=>by simp [Sn.to] at h⟩
  exact ⟨by simp [Sn.to,pend],fun h=>by simp [Sn.to] at h⟩
 have dig:isDig b=true→one b=1:=fun h=>by
  unfold isDig at h
  unfold one isLast
  simp only [Bool.and_eq_true,decide_eq_true_eq] at h
  simp [h.1,h.2]
 unfold sNext
 by_cases h6:z.st=6
 ·rw [if_pos h6]
  unfold sStr
  split
  ·exact nr_to (by omega) (by omega)
  split
  ·exact nr_to (by omega) (by omega)
  split
  ·rename_i q
   have h1:one b=1:=by rw [q]; rfl
   unfold sEndS
   split
   ·exact ⟨by simp [sEndP,pend,h1],fun e=>by simp [sEndP] at e⟩
   exact ⟨by simp [pend,h1],fun e=>by simp at e⟩
  exact ⟨by simp [sAdd,pend],fun e=>by simp [sAdd] at e⟩
 rw [if_neg h6]
 by_cases h7:z.st=7
 ·rw [if_pos h7]
  unfold sEsc
  split
  ·exact nr_to (by omega) (by omega)
  exact ⟨by simp [sAdd,pend],fun e=>by simp [sAdd] at e⟩
 rw [if_neg h7]
 by_cases h8:z.st=8∨z.st=9
 ·rw [if_pos h8]
  unfold sNum
  split
  ·exact nr_to (by omega) (by omega)
  rename_i q8
  split
  ·rename_i q
   have:=dig q.1
   exact ⟨by simp [sDig,pend,this],fun e=>by simp [sDig] at e⟩
  rename_i qd
  split
  ·exact nr_to (by omega) (by omega)
  have h9:z.st=9:=by
   rcases h8 with y | y
   ·exfalso
    have hm:=hok.m y
    have:49≤b∧b≤57:=Decidable.byContradiction fun k=>q8 ⟨y,k⟩
    exact qd ⟨by unfold isDig; simp; omega,by omega⟩
   exact y
  refine ⟨?_,BH.2⟩
  have e:pend z=1:=by simp [pend,h9]
  have:=BH.1
  rw [e]
  simp only [List.length_cons]; omega
 rw [if_neg h8]
 by_cases h10:z.st=10
 ·rw [if_pos h10]
  have hwz:=hw h10
  have hne:=(hok.w h10).1
  unfold sWord
  split
  ·exact nr_to (by omega) (by omega)
  rename_i q1
  cases hr:z.rs with
  | nil=>exact absurd hr hne
  | cons a l =>
   rw [hr] at hwz q1
   have hba:b=a.toNat:=Decidable.byContradiction fun k=>q1 (by simpa [bt] using k)
   cases l with
   | nil =>
    simp only [List.tail_cons,if_true]
    have h1:one b=1:=by
     rcases hwz with e | e
     ·have:a=101:=by simpa using e
      rw [hba,this]; rfl
     have:a=108:=by simpa using e
     rw [hba,this]; rfl
    exact ⟨by simp [sEndP,pend,h1],fun e=>by simp [sEndP] at e⟩
   | cons c l =>
    simp only [List.tail_cons,reduceCtorEq,if_false]
    refine ⟨by simp [pend],fun _=>?_⟩
    simpa using hwz
 rw [if_neg h10]
 split
 ·exact nr_to (by omega) (by omega)
 unfold sBetw
 split
 ·exact ⟨by have:=BH.1; omega,BH.2⟩
 split
 ·exact nr_to (by omega) (by omega)
 split
 ·rename_i q
  exact SH (by omega)
 split
 ·unfold sBegin
  have LT:∀k c,c<9→one b=1→Nr z b (sLot z k c):=fun k c hc h1=>by
   unfold sLot
   split
   ·exact nr_to (by omega) (by omega)
   exact ⟨by simp [pend,h1,show c≠9 by omega],fun e=>absurd e (by simp only; omega)⟩
  split
  ·rename_i q; exact LT _ _ (by omega) (by rw [q]; rfl)
  split
  ·rename_i q; exact LT _ _ (by omega) (by rw [q]; rfl)
  split
  ·exact ⟨by simp [sBStr,pend],fun e=>by simp [sBStr] at e⟩
  split
  ·exact ⟨by simp [sBWord,pend],fun _=>Or.inl rfl⟩
  split
  ·exact ⟨by simp [sBWord,pend],fun _=>Or.inl rfl⟩
  split
  ·exact ⟨by simp [sBWord,pend],fun _=>Or.inr rfl⟩
  unfold sBNum
  split
  ·exact ⟨by simp [pend],fun e=>by simp at e⟩
  split
  ·rename_i q
   have:=dig q
   exact ⟨by simp [sDig,pend,this],fun e=>by simp [sDig] at e⟩
  exact ⟨by simp [pend],fun e=>by simp at e⟩
 split
 ·exact ⟨by simp [sBStr,pend],fun e=>by simp [sBStr] at e⟩
 exact nr_to (by omega) (by omega)
theorem run_room:∀(l:List UInt8) {z:Sn} {s:Sh},SOk z→Lk z s→z.st≤10→z.at'+l.length≤4000000→WdOk z→(sRun z l).ts.length+pend (sRun z l).z≤pend z+l.countP (fun b=>isLast b.toNat)∧WdOk (sRun z l).z
 | [],_,_,_,_,_,_,h=>⟨by simp [sRun],h⟩
 | b::l,z,s,h1,h2,h3,h4,hw=>by
  have hl:z.at'+(l.length+1)≤4000000:=by simpa using h4
  have S:=stp_next h1 h2 h3 (by omega) b.toNat
  have N:=nr_next h1 hw b.toNat (by have:=b.toNat_lt; omega)
  have hc:(b::l).countP (fun b=>isLast b.toNat)=l.countP (fun b=>isLast b.toNat)+one b.toNat:=by
   rw [List.countP_cons]; rfl
  rw [hc,sRun]
  have nn:=N.n
  by_cases c12:(sNext z b.toNat).z.st=12
  ·rw [if_pos c12]; exact ⟨by simp only; omega,N.w⟩
  rw [if_neg c12]
  by_cases c11:(sNext z b.toNat).z.st=11
  ·rw [if_pos c11]; exact ⟨by simp only; omega,N.w⟩
  rw [if_neg c11]
  have c10:(sNext z b.toNat).z.st≤10:=by have:=S.st; omega
  have hat:=S.at'
  have o1:=S.ok c10
  have O:SOk { (sNext z b.toNat).z with at':=(sNext z b.toNat).z.at'+1 }:=⟨o1.op,o1.ne,o1.tk,o1.st,o1.w,o1.n,o1.m,o1.x⟩
  have I:=run_room l (s:=shRun s (sNext z b.toNat).ts) O (S.lk c10) c10 (by simp only [hat]; omega) N.w
  refine ⟨?_,I.2⟩
  have i1:=I.1
  have e:pend { (sNext z b.toNat).z with at':=(sNext z b.toNat).z.at'+1 }=pend (sNext z b.toNat).z:=rfl
  rw [e] at i1
  simp only [List.length_append] at i1 ⊢
  omega
theorem room_ok {l:List UInt8} {z:Sn} {s:Sh} (h1:SOk z) (h2:Lk z s) (h3:z.st≤10) (h4:z.at'+l.length≤4000000) (hw:WdOk z):(sRun z l).ts.length≤room l:=by
 have:=(run_room l h1 h2 h3 h4 hw).1
 have p:pend z≤1:=by unfold pend; split<;>omega
 unfold room; omega
def addT (a:List (Tv×Nat)) (s:Fw):Fw:={ s with told:=a++s.told }
theorem fBeg_add (xs:List Sg) (a:List (Tv×Nat)) (s:Fw) (d:Dat):fBeg xs (addT a s) d=addT a (fBeg xs s d):=by
 unfold fBeg addT
 simp only
 split<;>rfl
theorem fCls_add (xs:List Sg) (a:List (Tv×Nat)) (s:Fw) (t:Tv) (r:Nat):fCls xs (addT a s) t r=addT a (fCls xs s t r):=by
 unfold fCls addT
 simp only
 split
 ·rfl
 simp [List.append_assoc]
theorem fTake_add (xs:List Sg) (a:List (Tv×Nat)) (s:Fw) (t:Tok):fTake xs (addT a s) t=addT a (fTake xs s t):=by
 unfold fTake
 split
 ·have:=fBeg_add xs a s (gDat s.g t)
  show { fBeg xs (addT a s) (gDat s.g t) with g:=gTake s.g t s.hd.isSome }=_
  rw [this]; rfl
 split
 ·show (match s.g.st with | []=>addT a s | f::r=>{ fCls xs (addT a s) (f.tv t.to) r.length with g:=gTake s.g t true })=_
  cases s.g.st with
  | nil=>rfl
  | cons f r=>simp only; rw [fCls_add]; rfl
 split
 ·rfl
 show { fCls xs (fBeg xs (addT a s) (gDat s.g t)) ((gBegin s.g t true).tv t.to) s.g.st.length with g:=gTake s.g t s.hd.isSome }=_
 rw [fBeg_add,fCls_add]; rfl
theorem fRun_add (xs:List Sg) (a:List (Tv×Nat)):∀(ts:List Tok) (s:Fw),fRun xs (addT a s) ts=addT a (fRun xs s ts)
 | [],_=>rfl
 | t::r,s=>by
  show fRun xs (fTake xs (addT a s) t) r=addT a (fRun xs (fTake xs s t) r)
  rw [fTake_add,fRun_add xs a r]
def noT (s:Fw):Fw:={ s with told:=[] }
theorem add_no (s:Fw):addT s.told (noT s)=s:=by unfold addT noT; simp
theorem fRun_no (xs:List Sg) (s:Fw) (ts:List Tok):(fRun xs s ts).told=s.told++(fRun xs (noT s) ts).told∧noT (fRun xs s ts)=noT (fRun xs (noT s) ts):=by
 have e:=fRun_add xs s.told ts (noT s)
 rw [add_no] at e
 rw [e]
 exact ⟨rfl,rfl⟩
theorem FOk.no {xs:List Sg} {s:Fw} (h:FOk xs s):FOk xs (noT s):=⟨by have:=h.n; simp [noT]; omega,h.fr,h.tl,h.hd,h.ct,h.z⟩
end Tr
