import Derived.Test.YtcbadebjpogmlaaGreatDoorPAa
namespace Tr
theorem next_tt (z:Sn) (b:Nat):(∀t ∈ (sNext z b).ts,t.t=[]∨t.t=z.tk.t∨t.t=z.tx)∧((sNext z b).z.tk.t=[]∨(sNext z b).z.tk.t=z.tk.t∨(sNext z b).z.tk.t=z.tx)∧(sNext z b).z.tx.length≤z.tx.length+1:=by
 have T:∀s,(∀t ∈ (z.to s).ts,t.t=[]∨t.t=z.tk.t∨t.t=z.tx)∧((z.to s).z.tk.t=[]∨(z.to s).z.tk.t=z.tk.t∨(z.to s).z.tk.t=z.tx)∧(z.to s).z.tx.length≤z.tx.length+1:=fun s=>⟨by simp [Sn.to],by simp [Sn.to],by simp [Sn.to]⟩
 have SH:(∀t ∈ (sShut z).ts,t.t=[]∨t.t=z.tk.t∨t.t=z.tx)∧((sShut z).z.tk.t=[]∨(sShut z).z.tk.t=z.tk.t∨(sShut z).z.tk.t=z.tx)∧(sShut z).z.tx.length≤z.tx.length+1:=⟨by simp [sShut],by simp [sShut],by simp [sShut]⟩
 have BH:(∀t ∈ (sBehind z b).ts,t.t=[]∨t.t=z.tk.t∨t.t=z.tx)∧((sBehind z b).z.tk.t=[]∨(sBehind z b).z.tk.t=z.tk.t∨(sBehind z b).z.tk.t=z.tx)∧(sBehind z b).z.tx.length≤z.tx.length+1:=by
  unfold sBehind
  split
  ·exact T _
  split
  ·exact T _
  split
  ·exact SH
  split
  ·exact T _
  exact T _
 have AD:(∀t ∈ (sAdd z b).ts,t.t=[]∨t.t=z.tk.t∨t.t=z.tx)∧((sAdd z b).z.tk.t=[]∨(sAdd z b).z.tk.t=z.tk.t∨(sAdd z b).z.tk.t=z.tx)∧(sAdd z b).z.tx.length≤z.tx.length+1:=⟨by simp [sAdd],by simp [sAdd],by simp [sAdd]⟩
 unfold sNext
 split
 ·unfold sStr
  split
  ·exact T _
  split
  ·exact T _
  split
  ·unfold sEndS
   split
   ·exact ⟨by simp [sEndP],by simp [sEndP],by simp [sEndP]⟩
   exact ⟨by simp,by simp,by simp⟩
  exact AD
 split
 ·unfold sEsc
  split
  ·exact T _
  exact AD
 split
 ·unfold sNum
  split
  ·exact T _
  split
  ·exact ⟨by simp [sDig],by simp [sDig],by simp [sDig]⟩
  split
  ·exact T _
  refine ⟨fun t ht=>?_,BH.2⟩
  rcases List.mem_cons.1 ht with e | e
  ·subst e; right; left; rfl
  exact BH.1 t e
 split
 ·unfold sWord
  split
  ·exact T _
  split
  ·exact ⟨by simp [sEndP],by simp [sEndP],by simp [sEndP]⟩
  exact ⟨by simp,by simp,by simp⟩
 split
 ·exact T _
 unfold sBetw
 split
 ·exact BH
 split
 ·exact T _
 split
 ·exact SH
 split
 ·unfold sBegin
  repeat' split
  ·unfold sLot; split
   ·exact T _
   exact ⟨by simp,by simp,by simp⟩
  ·unfold sLot; split
   ·exact T _
   exact ⟨by simp,by simp,by simp⟩
  ·exact ⟨by simp [sBStr],by simp [sBStr],by simp [sBStr]⟩
  ·exact ⟨by simp [sBWord],by simp [sBWord],by simp [sBWord]⟩
  ·exact ⟨by simp [sBWord],by simp [sBWord],by simp [sBWord]⟩
  ·exact ⟨by simp [sBWord],by simp [sBWord],by simp [sBWord]⟩
  unfold sBNum; split
  ·exact ⟨by simp,by simp,by simp⟩
  split
  ·exact ⟨by simp [sDig],by simp [sDig],by simp [sDig]⟩
  exact ⟨by simp,by simp,by simp⟩
 split
 ·exact ⟨by simp [sBStr],by simp [sBStr],by simp [sBStr]⟩
 exact T _
theorem run_tt:∀(l:List UInt8) (z:Sn) (N:Nat),z.tx.length+l.length≤N→z.tk.t.length≤N→(∀t ∈ (sRun z l).ts,t.t.length≤N)∧(sRun z l).z.tk.t.length≤N
 | [],_,_,_,h=>⟨by simp [sRun],h⟩
 | b::l,z,N,h1,h2=>by
  obtain ⟨a1,a2,a3⟩:=next_tt z b.toNat
  have h1:z.tx.length+(l.length+1)≤N:=by simpa using h1
  have b1:∀t ∈ (sNext z b.toNat).ts,t.t.length≤N:=fun t ht=>by
   rcases a1 t ht with e | e | e
   ·rw [e]; simp
   ·rw [e]; exact h2
   rw [e]; omega
  have b2:(sNext z b.toNat).z.tk.t.length≤N:=by
   rcases a2 with e | e | e
   ·rw [e]; simp
   ·rw [e]; exact h2
   rw [e]; omega
  rw [sRun]
  split
  ·exact ⟨b1,b2⟩
  split
  ·exact ⟨b1,b2⟩
  have R:=run_tt l { (sNext z b.toNat).z with at':=(sNext z b.toNat).z.at'+1 } N (by simp only; omega) b2
  refine ⟨fun t ht=>?_,R.2⟩
  rcases List.mem_append.1 ht with e | e
  ·exact b1 t e
  exact R.1 t e
def NmV (v:Tv):Prop:=v.d.name.length≤4000000∧(v.ws≠[]→v.d.kind=4∨v.d.kind=5)
def NmF (f:Fm):Prop:=f.d.name.length≤4000000∧(f.d.kind=4∨f.d.kind=5)∧∀c ∈ f.ws,∀v ∈ allT 9 c,NmV v
structure NmG (g:Gs):Prop where
 nm:g.nm.length≤4000000
 st:∀f ∈ g.st,NmF f
 l:∀t,g.last=some t→∀v ∈ allT 10 t,NmV v
theorem nm_tv {d:Dat} {ws:List Tv} (h1:d.name.length≤4000000) (h2:ws≠[]→d.kind=4∨d.kind=5) (h3:∀c ∈ ws,∀v ∈ allT 9 c,NmV v):∀v ∈ allT 10 ⟨d,ws⟩,NmV v:=fun v hv=>by
 have hv:v ∈ (⟨d,ws⟩:Tv)::ws.flatMap (allT 9):=hv
 rcases List.mem_cons.1 hv with e | e
 ·subst e; exact ⟨h1,h2⟩
 obtain ⟨c,hc,hvc⟩:=List.mem_flatMap.1 e
 exact h3 c hc v hvc
theorem all_less:∀(n:Nat) (t v:Tv),v ∈ allT n t→v ∈ allT (n+1) t
 | 0,_,_,h=>by cases h
 | n+1,t,v,h=>by
  have h:v ∈ t::t.ws.flatMap (allT n):=h
  show v ∈ t::t.ws.flatMap (allT (n+1))
  rcases List.mem_cons.1 h with e | e
  ·exact List.mem_cons.2 (Or.inl e)
  obtain ⟨c,hc,hvc⟩:=List.mem_flatMap.1 e
  exact List.mem_cons.2 (Or.inr (List.mem_flatMap.2 ⟨c,hc,all_less n c v hvc⟩))
theorem nm_close {g:Gs} {f:Fm} {r:List Fm} {to:Nat} (hn:g.nm.length≤4000000) (h1:f.d.name.length≤4000000) (h2:f.ws≠[]→f.d.kind=4∨f.d.kind=5) (h3:∀c ∈ f.ws,∀v ∈ allT 9 c,NmV v) (hr:∀f ∈ r,NmF f):NmG (gClose g f r to):=by
 have ht:∀v ∈ allT 10 (f.tv to),NmV v:=nm_tv (d:={ f.d with to:=to }) h1 h2 h3
 refine ⟨hn,?_,fun t e=>?_⟩
 ·show ∀x ∈ gOn r f.kp (f.tv to),NmF x
  cases r with
  | nil=>intro x hx; cases hx
  | cons p q =>
   intro x hx
   have hx:x ∈ gKeep p f.kp (f.tv to)::q:=hx
   rcases List.mem_cons.1 hx with e | e
   ·have hp:=hr p (List.mem_cons_self)
    rw [e]
    unfold gKeep
    split
    ·refine ⟨hp.1,hp.2.1,fun c hc=>?_⟩
     rcases List.mem_append.1 hc with y | y
     ·exact hp.2.2 c y
     rw [List.mem_singleton.1 y]
     exact fun v hv=>ht v (all_less 9 _ v hv)
    exact hp
   exact hr x (List.mem_cons_of_mem _ e)
 have:f.tv to=t:=Option.some.inj e
 rw [← this]; exact ht
theorem nm_take {g:Gs} {t:Tok} {kp:Bool} (h:NmG g) (ht:TokOk g.sh t) (hl:t.t.length≤4000000):NmG (gTake g t kp):=by
 unfold gTake
 by_cases h0:t.k=0
 ·rw [if_pos h0]
  refine ⟨by simp,fun f hf=>?_,h.l⟩
  have hf:f ∈ gBegin g t kp::g.st:=hf
  rcases List.mem_cons.1 hf with e | e
  ·subst e
   refine ⟨h.nm,?_,fun c hc=>by cases hc⟩
   show kOf t.of=4∨kOf t.of=5
   rcases (ht.k0 h0).1 with x | x<;>rw [x]<;>decide
  exact h.st f e
 rw [if_neg h0]
 by_cases h1:t.k=1
 ·rw [if_pos h1]
  cases hs:g.st with
  | nil=>exact ⟨h.nm,fun f hf=>(by rw [hs] at hf; cases hf),h.l⟩
  | cons f r =>
   have hf:=h.st f (by rw [hs]; exact List.mem_cons_self)
   exact nm_close h.nm hf.1 (fun _=>hf.2.1) hf.2.2 (fun x hx=>h.st x (by rw [hs]; exact List.mem_cons_of_mem _ hx))
 rw [if_neg h1]
 by_cases h2:t.k=2
 ·rw [if_pos h2]; exact ⟨hl,h.st,h.l⟩
 rw [if_neg h2]
 exact nm_close (g:={ g with nm:=[],bd:=t.frm+1 }) (f:=gBegin g t kp) (by simp) h.nm (fun x=>absurd rfl x) (fun c hc=>by cases hc) h.st
theorem nm_run:∀{ts:List Tok} {g:Gs},NmG g→OkL g.sh ts→(∀t ∈ ts,t.t.length≤4000000)→NmG (gRun g ts)
 | [],_,h,_,_=>h
 | t::r,g,h,ho,hl=>by
  rw [gRun_cons]
  exact nm_run (nm_take h ho.1 (hl t (List.mem_cons_self))) (by rw [sh_take g t true ho.1]; exact ho.2) (fun x hx=>hl x (List.mem_cons_of_mem _ hx))
theorem gInit_nm:NmG gInit:=⟨by simp [gInit],fun f hf=>(by cases hf),fun t ht=>(by cases ht)⟩
theorem next_ff (z:Sn) (b:Nat):(∀t ∈ (sNext z b).ts,t.frm=0∨t.frm=z.at'∨t.frm=z.tk.frm)∧((sNext z b).z.tk.frm=z.at'∨(sNext z b).z.tk.frm=z.tk.frm)∧(sNext z b).z.at'=z.at':=by
 have T:∀s,(∀t ∈ (z.to s).ts,t.frm=0∨t.frm=z.at'∨t.frm=z.tk.frm)∧((z.to s).z.tk.frm=z.at'∨(z.to s).z.tk.frm=z.tk.frm)∧(z.to s).z.at'=z.at':=fun s=>⟨by simp [Sn.to],by simp [Sn.to],by simp [Sn.to]⟩
 have SH:(∀t ∈ (sShut z).ts,t.frm=0∨t.frm=z.at'∨t.frm=z.tk.frm)∧((sShut z).z.tk.frm=z.at'∨(sShut z).z.tk.frm=z.tk.frm)∧(sShut z).z.at'=z.at':=⟨by simp [sShut],by simp [sShut],by simp [sShut]⟩
 have BH:(∀t ∈ (sBehind z b).ts,t.frm=0∨t.frm=z.at'∨t.frm=z.tk.frm)∧((sBehind z b).z.tk.frm=z.at'∨(sBehind z b).z.tk.frm=z.tk.frm)∧(sBehind z b).z.at'=z.at':=by
  unfold sBehind
  split
  ·exact T _
  split
  ·exact T _
  split
  ·exact SH
  split
  ·exact T _
  exact T _
 have AD:(∀t ∈ (sAdd z b).ts,t.frm=0∨t.frm=z.at'∨t.frm=z.tk.frm)∧((sAdd z b).z.tk.frm=z.at'∨(sAdd z b).z.tk.frm=z.tk.frm)∧(sAdd z b).z.at'=z.at':=⟨by simp [sAdd],by simp [sAdd],by simp [sAdd]⟩
 unfold sNext
 split
 ·unfold sStr
  split
  ·exact T _
  split
  ·exact T _
  split
  ·unfold sEndS
   split
   ·exact ⟨by simp [sEndP],by simp [sEndP],by simp [sEndP]⟩
   exact ⟨by simp,by simp,by simp⟩
  exact AD
 split
 ·unfold sEsc
  split
  ·exact T _
  exact AD
 split
 ·unfold sNum
  split
  ·exact T _
  split
  ·exact ⟨by simp [sDig],by simp [sDig],by simp [sDig]⟩
  split
  ·exact T _
  refine ⟨fun t ht=>?_,BH.2⟩
  rcases List.mem_cons.1 ht with e | e
  ·subst e; right; right; rfl
  exact BH.1 t e
 split
 ·unfold sWord
  split
  ·exact T _
  split
  ·exact ⟨by simp [sEndP],by simp [sEndP],by simp [sEndP]⟩
  exact ⟨by simp,by simp,by simp⟩
 split
 ·exact T _
 unfold sBetw
 split
 ·exact BH
 split
 ·exact T _
 split
 ·exact SH
 split
 ·unfold sBegin
  repeat' split
  ·unfold sLot; split
   ·exact T _
   exact ⟨by simp,by simp,by simp⟩
  ·unfold sLot; split
   ·exact T _
   exact ⟨by simp,by simp,by simp⟩
  ·exact ⟨by simp [sBStr],by simp [sBStr],by simp [sBStr]⟩
  ·exact ⟨by simp [sBWord],by simp [sBWord],by simp [sBWord]⟩
  ·exact ⟨by simp [sBWord],by simp [sBWord],by simp [sBWord]⟩
  ·exact ⟨by simp [sBWord],by simp [sBWord],by simp [sBWord]⟩
  unfold sBNum; split
  ·exact ⟨by simp,by simp,by simp⟩
  split
  ·exact ⟨by simp [sDig],by simp [sDig],by simp [sDig]⟩
  exact ⟨by simp,by simp,by simp⟩
 split
 ·exact ⟨by simp [sBStr],by simp [sBStr],by simp [sBStr]⟩
 exact T _
theorem run_ff:∀(l:List UInt8) (z:Sn) (N:Nat),z.at'+l.length≤N→z.tk.frm<N→(∀t ∈ (sRun z l).ts,t.frm<N)∧(sRun z l).z.tk.frm<N
 | [],_,_,_,h=>⟨by simp [sRun],h⟩
 | b::l,z,N,h1,h2=>by
  obtain ⟨a1,a2,a3⟩:=next_ff z b.toNat
  have h1:z.at'+(l.length+1)≤N:=by simpa using h1
  have b1:∀t ∈ (sNext z b.toNat).ts,t.frm<N:=fun t ht=>by
   rcases a1 t ht with e | e | e<;>rw [e]<;>omega
  have b2:(sNext z b.toNat).z.tk.frm<N:=by
   rcases a2 with e | e<;>rw [e]<;>omega
  rw [sRun]
  split
  ·exact ⟨b1,b2⟩
  split
  ·exact ⟨b1,b2⟩
  have R:=run_ff l { (sNext z b.toNat).z with at':=(sNext z b.toNat).z.at'+1 } N (by simp only [a3]; omega) b2
  refine ⟨fun t ht=>?_,R.2⟩
  rcases List.mem_append.1 ht with e | e
  ·exact b1 t e
  exact R.1 t e
theorem tx_tree2 {l:List UInt8} (hl:l.length≤4000000) (h:txErr l=0) {t:Tv} (ht:txVal l=some t):(∀v ∈ allT 10 t,fr v<l.length)∧∀v ∈ allT 10 t,NmV v:=by
 obtain ⟨h1,h2,_⟩:=tx_ok hl h
 have G:=gf_run gInit_gf (show ixOk gInit.st gInit.ix from trivial) (ts:=txTs l) h1
 obtain ⟨_,_,c⟩:=G.l h2 t ht
 have hpos:0<l.length:=by
  cases l with
  | nil=>revert h; decide
  | cons a l=>simp
 have F:=run_ff l sInit l.length (by simp [sInit]) (by simpa [sInit] using hpos)
 have X:=run_tt l sInit 4000000 (by simp [sInit]; omega) (by simp [sInit])
 have f1:∀t ∈ txTs l,t.frm<l.length:=fun t ht=>by
  rcases List.mem_append.1 ht with e | e
  ·exact F.1 t e
  unfold sEnd at e
  split at e
  ·rw [List.mem_singleton.1 e]; exact F.2
  cases e
 have x1:∀t ∈ txTs l,t.t.length≤4000000:=fun t ht=>by
  rcases List.mem_append.1 ht with e | e
  ·exact X.1 t e
  unfold sEnd at e
  split at e
  ·rw [List.mem_singleton.1 e]; exact X.2
  cases e
 have bd:(gRun gInit (txTs l)).bd≤l.length:=gRun_bd (by simp [gInit]) h1 f1
 refine ⟨fun v hv=>?_,(nm_run gInit_nm h1 x1).l t ht⟩
 have:=c (fr v) (List.mem_map.2 ⟨v,hv,rfl⟩)
 omega
end Tr
