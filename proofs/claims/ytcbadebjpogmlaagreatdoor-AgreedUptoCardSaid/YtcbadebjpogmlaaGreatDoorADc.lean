import Derived.Test.YtcbadebjpogmlaaGreatDoorADa
namespace Go.Proofs.YtcbadebjpogmlaaGreatDoor
open Go.RowKit Tr Go.Conc
def clT (xs:List Sg) (p:List UInt8):List (Tv×Nat):=stT xs p++clN xs p
structure FdE (w:World) (sb:Nat) (xs:List Sg) (p:List UInt8) (av sv:Value) (wr:World):Prop where
 b:Blk wr sb #[.pointer none,.pointer none,.int .i64 4,.int .i64 0] 135
 lo:w.heap.size≤sb
 a:wr.ownsRow 0 44 4 av (stT xs p).length ((stT xs p).flatMap tcl)
 s:wr.ownsRow 0 44 4 sv (clN xs p).length ((clN xs p).flatMap tcl)
 na:∀k,av.ownBlock=some k→w.heap.size≤k∧k≠sb
 ns:∀k,sv.ownBlock=some k→w.heap.size≤k∧k≠sb∧av.ownBlock≠some k
 k:Keeps w wr
theorem FdE.step {w:World} {sb:Nat} {xs:List Sg} {p:List UInt8} {av sv:Value} {wr w':World} (h:FdE w sb xs p av sv wr) (hb:Blk w' sb #[.pointer none,.pointer none,.int .i64 4,.int .i64 0] 135) (f:Fr (fun k=>k=sb) wr w'):FdE w sb xs p av sv w' :=
 ⟨hb,h.lo,own_at' h.a (fun k hk=>f.block k (h.a.lt k hk).2 (h.na k hk).2),own_at' h.s (fun k hk=>f.block k (h.s.lt k hk).2 (h.ns k hk).2.1),h.na,h.ns,
  ⟨f.os.trans h.k.os,f.tape.trans h.k.tape,f.output.trans h.k.output,Nat.le_trans h.k.size f.size,fun j hj _=>by
   have:=h.lo
   have:=h.k.size
   rw [f.block j (by omega) (by omega)]; exact h.k.block j hj id⟩⟩
theorem fd_close {w:World} {sb b:Nat} {tt:ByteArray} {xs:List Sg} {Dp:Nat→Prop} (hx:xs.length≤10) (hsel:selN xs≤10) (hpos:∀g ∈ xs,0<g.l.length) {p:List UInt8} {av:Value} {wr:World} (h:FdI w sb b tt xs Dp p av wr) (hl:p.length≤4000000) :
 Calls Tryz.prog 39 #[.pointer (some ⟨sb,0,none⟩)] wr fun res w'=>∃sv,res=.returned (.tuple #[sv,.int .i64 (txErr p:Nat),.int .i64 (txAt p:Nat)])∧FdE w sb xs p av sv w':=by
 obtain ⟨Es,h1,h2,h3,h4⟩:=h.ex
 have hEs:Es sb∧¬(Dp sb∨gEN sb):=by
  rcases h1 with ⟨_,r,f,Er,E,_,_,g3,_,g5,g6⟩ | ⟨_,_,g3,g2⟩
  ·exact ⟨(g6 sb).2 (Or.inr (Or.inr rfl)),fun y=>g5 (g3.same y).2⟩
  exact ⟨(g2 sb).2 (Or.inl rfl),fun y=>(g3 sb y).2.2 rfl⟩
 have hsb:w.heap.size≤sb:=(h2 sb hEs.1).resolve_left hEs.2
 refine (st_close hx hsel hpos h1 hl).mono ?_
 rintro res w' ⟨sv,rfl,g1,g2,g3,g4,g5⟩
 have hz:=h.k.size
 refine ⟨sv,rfl,g5,hsb,own_at' h3 (fun k hk=>g3.block k (h3.lt k hk).2 (h4 k hk).2),g1,fun k hk=>⟨(h4 k hk).1,fun y=>(h4 k hk).2 (y▸hEs.1)⟩,fun k hk=>⟨?_,(g2 k hk).1.1,fun y=>?_⟩,?_⟩
 ·rcases (g2 k hk).2 with y | y
  ·exact (h2 k y).resolve_left (g2 k hk).1.2
  omega
 ·rcases (g2 k hk).2 with u | u
  ·exact (h4 k y).2 u
  have:=(h3.lt k y).2; omega
 refine ⟨g3.os.trans h.k.os,g3.tape.trans h.k.tape,g3.output.trans h.k.output,Nat.le_trans h.k.size g3.size,fun k hk _=>?_⟩
 by_cases he:Es k
 ·rcases h2 k he with y | y
  ·exact g4 k y
  omega
 rw [g3.block k (by omega) he]; exact h.k.block k hk id
theorem FdE.feed {w:World} {sb:Nat} {xs:List Sg} {p:List UInt8} {av sv:Value} {wr:World} (h:FdE w sb xs p av sv wr):Calls Tryz.prog 38 #[.pointer (some ⟨sb,0,none⟩),.string ⟨#[49]⟩] wr fun r w'=>r=.returned (.tuple #[.slice none 0 0,.int .i64 4,.int .i64 0])∧FdE w sb xs p av sv w':=by
 refine (s_feed0 h.b (by decide) ⟨#[49]⟩).mono ?_
 rintro r w' ⟨rfl,g1,g2⟩
 exact ⟨rfl,h.step g1 g2⟩
theorem FdE.close {w:World} {sb:Nat} {xs:List Sg} {p:List UInt8} {av sv:Value} {wr:World} (h:FdE w sb xs p av sv wr):Calls Tryz.prog 39 #[.pointer (some ⟨sb,0,none⟩)] wr fun r w'=>r=.returned (.tuple #[.slice none 0 0,.int .i64 4,.int .i64 0])∧FdE w sb xs p av sv w':=by
 refine (s_close0 h.b (by decide)).mono ?_
 rintro r w' ⟨rfl,g1,g2⟩
 exact ⟨rfl,h.step g1 g2⟩
theorem told_len (xs:List Sg) (hx:∀g ∈ xs,0<g.l.length) {ts:List Tok} (ho:OkL ⟨[],0⟩ ts):(fRun xs fInit ts).told.length≤4000000:=by
 have F:=(fOk_run hx ts (fInit_ok xs) ho).n
 have e:=fRun_sh xs ts (s:=fInit) ho
 have B:(fRun xs fInit ts).g.bd≤4000000:=by
  have:=shRun_bd ts (s:=⟨[],0⟩) (by simp) ho
  have e2:(fRun xs fInit ts).g.sh.bd=(shRun ⟨[],0⟩ ts).bd:=by rw [e]; rfl
  have e3:(fRun xs fInit ts).g.sh.bd=(fRun xs fInit ts).g.bd:=rfl
  omega
 omega
theorem clT_len (xs:List Sg) (hx:∀g ∈ xs,0<g.l.length) (p:List UInt8) (hp:p.length≤4000000):(stT xs p).length+(clN xs p).length≤4000000:=by
 by_cases h0:stE p=0
 ·have R:=run_ok' p sInit_ok.1 sInit_ok.2 (by simp [sInit]) (by simp [sInit]; omega)
  obtain ⟨r1,r2,r3,r4⟩:=R.ok h0
  have hat:(sRun sInit p).z.at'=p.length:=by simpa [sInit] using r3
  have hE:OkL (shRun ⟨[],0⟩ (sRun sInit p).ts) (if sWhole (sRun sInit p).z=true then sEnd (sRun sInit p).z else []):=by
   split
   ·unfold sEnd
    split
    ·rename_i h9; exact OkL.one (tokNum r1 r4 (Or.inr h9) (by omega))
    trivial
   trivial
  have T:=told_len xs hx (R.tok.app hE)
  rw [fRun_app,(fRun_no xs _ _).1,List.length_append] at T
  unfold clN
  rw [if_pos h0]
  exact T
 have:clN xs p=[]:=by unfold clN; rw [if_neg h0]
 rw [this]
 exact stT_len xs hx p hp
theorem fe_grown {w:World} {sb:Nat} {xs:List Sg} {p:List UInt8} {av sv:Value} {w5:World} (h:FdE w sb xs p av sv w5) {g cap:Nat} {w6:World}
 (ho:w6.ownsRow 0 44 4 (.slice (some ⟨g,0,none⟩) ((stT xs p).length+(clN xs p).length) cap) ((stT xs p).length+(clN xs p).length) ((stT xs p).flatMap tcl++(clN xs p).flatMap tcl)) (hg:w5.grownBy w6 av.ownBlock) (hat:av.ownBlock=some g∨g=w5.heap.size):w6.ownsRow 0 44 4 (.slice (some ⟨g,0,none⟩) ((stT xs p).length+(clN xs p).length) cap) (clT xs p).length ((clT xs p).flatMap tcl)∧(∀k,(Value.slice (some ⟨g,0,none⟩) ((stT xs p).length+(clN xs p).length) cap).ownBlock=some k→w.heap.size≤k)∧Keeps w w6:=by
 have hz:=h.k.size
 refine ⟨?_,fun k hk=>?_,?_⟩
 ·unfold clT
  rw [List.length_append,List.flatMap_append]; exact ho
 ·have e:g=k:=Option.some.inj hk
  subst e
  rcases hat with e | e
  ·exact (h.na g e).1
  omega
 exact ⟨hg.os.trans h.k.os,hg.tape.trans h.k.tape,hg.output.trans h.k.output,Nat.le_trans h.k.size hg.size,fun k hk _=>by
  rw [hg.block k (by omega) (fun e=>by have:=(h.na k e.symm).1; omega)]; exact h.k.block k hk id⟩
set_option maxHeartbeats 8000000 in
set_option maxRecDepth 100000 in
theorem p_fed1 {w:World} {gq b:Nat} {tt:ByteArray} {xs:List Sg} {Dp:Nat→Prop} (hq:Blk w gq #[fvp b] 77) (hp:OkD Dp w (fun w=>PlanV w b tt xs)) (hpl:∀k,Dp k→k<w.heap.size) (he:EN w) (hx:xs.length≤10) (hsel:selN xs≤10) (hpos:∀g ∈ xs,0<g.l.length) (s:ByteArray) (hs:s.size≤1100000) {lv:Value} (hi:IntsAt w lv) :
 Calls Tryz.prog 19 #[fvp gq,.string s,lv,.bool true] w fun r w'=>∃av,r=.returned (.tuple #[av,.int .i64 (txErr (bs s):Nat),.int .i64 (txAt (bs s):Nat)])∧w'.ownsRow 0 44 4 av (clT xs (bs s)).length ((clT xs (bs s)).flatMap tcl)∧(∀k,av.ownBlock=some k→w.heap.size≤k)∧Keeps w w':=by
 have STR:Hid (Calls Tryz.prog 37 #[.pointer (some ⟨gq,0,none⟩)] w fun r w'=>∃sb,r=.returned (.pointer (some ⟨sb,0,none⟩))∧FdI w sb b tt xs Dp [] (.slice none 0 0) w'):=by
  refine (s_stream hq hp hpl he).mono ?_
  rintro res w' ⟨sb,r,f,Er,E,rfl,h1,h2,h3,h4,h5,h6,h7,h8,h9⟩
  refine ⟨sb,rfl,⟨⟨_,st_new h1 h2 h3 h4 h5,fun k hk=>?_,⟨rfl,Or.inl ⟨rfl,rfl⟩⟩,fun k hk=>(by cases hk)⟩,h9⟩⟩
  rcases hk with y | y | y
  ·exact Or.inr (h7 k y)
  ·rcases h8 k y with u | u | u
   ·exact Or.inl (Or.inl u)
   ·exact Or.inl (Or.inr u)
   exact Or.inr u
  exact Or.inr (y▸h6)
 have HI:=hide hi
 have HX:=hide (And.intro hx (And.intro hsel hpos))
 clear hq hp hpl he hi hx hsel hpos
 unfold fvp
 go_enter Tryz.func19,Tryz.ntmps19
 go_wp2_with fail
 refine STR.out.mono ?_
 rintro res w1 ⟨sb,rfl,h1⟩
 have H1:=hide h1
 clear h1 STR
 go_wp2
 go_loopw [1,12,13,14,15] (fun sv av ev pv iv wr=>∃(p:List UInt8) (rs:ByteArray) (i:Nat),sv=.string rs∧bs s=p++bs rs∧ev=.int .i64 (stE p:Nat)∧pv=.int .i64 (stAt p:Nat)∧iv=.int .i64 (i:Nat)∧i≤p.length∧FdI w sb b tt xs Dp p av wr) (fun sv _ _ _ _ _=>match sv with | .string x=>x.size | _=>0)
 case atStart=>exact ⟨[],s,0,rfl,rfl,rfl,rfl,rfl,Nat.le_refl _,H1.out⟩
 case round =>
  obtain ⟨p,rs,i,rfl,hsp,rfl,rfl,rfl,hip,hF⟩:=hrel
  have hlen:p.length+rs.size=s.size:=by
   have:=congrArg List.length hsp
   rw [List.length_append,bs_len,bs_len] at this; omega
  obtain ⟨hx,hsel,hpos⟩:=HX.out
  have FF:=hide hF
  have HSP:=hide hsp
  clear hsp
  by_cases hz:rs.size=0
  ·have e0:bs rs=[]:=List.eq_nil_of_length_eq_zero (by rw [bs_len]; exact hz)
   have e1:p=bs s:=by rw [HSP.out,e0,List.append_nil]
   subst e1
   have hzz:(rs.size:Int)=0:=by omega
   have CL:=hide (fd_close hx hsel hpos hF (by rw [bs_len]; omega))
   have LB:=clT_len xs hpos (bs s) (by rw [bs_len]; omega)
   have EE:stE (bs s)=0∨(stE (bs s)≠0∧txErr (bs s)=stE (bs s)∧txAt (bs s)=stAt (bs s)∧(clN xs (bs s)).length=0):=by
    by_cases y:stE (bs s)=0
    ·exact Or.inl y
    exact Or.inr ⟨y,(tx_bad y).1,(tx_bad y).2,by unfold clN; rw [if_neg y]; rfl⟩
   clear hF FF HSP HI HX H1 hx hsel hpos
   go_wp2_with fail
   refine CL.out.mono ?_
   rintro r w2 ⟨sv,rfl,hE⟩
   clear CL
   obtain ⟨sa,sc,rfl⟩:=own_slice hE.s
   have HE:=hide hE
   have CASE:(((stE (bs s):Nat):Int)=0)∨(¬((stE (bs s):Nat):Int)=0∧txErr (bs s)=stE (bs s)∧txAt (bs s)=stAt (bs s)∧(clN xs (bs s)).length=0):=by omega
   clear hE EE
   generalize hte:txErr (bs s)=te at *
   have HTE:=hide hte
   clear hte
   generalize hta:txAt (bs s)=ta at *
   have HTA:=hide hta
   clear hta
   generalize stE (bs s)=se at *
   generalize stAt (bs s)=st at *
   have MORE:Hid (∀w4,FdE w sb xs (bs s) u12 (.slice sa (clN xs (bs s)).length sc) w4→(0<(clN xs (bs s)).length→∃ga,sa=some ⟨ga,0,none⟩∧∀(j:Nat) (u:Value),((clN xs (bs s)).flatMap tcl)[j]?=some u→w4.cell? ((⟨ga,0,none⟩:Addr).add j)=some u)):=fun w4 h4 hp=>by
    obtain ⟨ga,cpa,hsv,_,_⟩:=h4.s.form hp
    injection hsv with hs1 _ _
    refine ⟨ga,hs1,fun j u hj=>?_⟩
    subst hs1
    have hadd:(⟨ga,0,none⟩:Addr).add j=⟨ga,j,none⟩:=by unfold Addr.add; split<;>simp_all
    have hjl:=(List.getElem?_eq_some_iff.1 hj).1
    rw [tcl_len] at hjl
    rw [hadd,h4.s.cellAt j hjl]; exact hj
   rcases CASE with hse | ⟨hse,rfl,rfl,hz0⟩
   ·go_wp2_with fail
    refine HE.out.feed.mono ?_
    rintro r w3 ⟨rfl,hE3⟩
    have HE3:=hide hE3
    clear hE3
    go_wp2_with fail
    refine HE3.out.close.mono ?_
    rintro r w4 ⟨rfl,hE4⟩
    have HE4:=hide hE4
    have A4:=hide hE4.a
    clear HE HE3
    by_cases m0:(clN xs (bs s)).length=0
    ·have en:clN xs (bs s)=[]:=List.eq_nil_of_length_eq_zero m0
     have RES:Hid (w4.ownsRow 0 44 4 u12 (clT xs (bs s)).length ((clT xs (bs s)).flatMap tcl)∧(∀k,u12.ownBlock=some k→w.heap.size≤k)∧Keeps w w4):=⟨by unfold clT; rw [en,List.append_nil]; exact hE4.a,fun k hk=>(hE4.na k hk).1,hE4.k⟩
     rw [m0]
     clear hE4 HE4 MORE en m0
     go_wp2_with (refine wpList_app0 rfl (.tmp 147) (.tmp 148) rfl u12 _ _ rfl A4.out sa sc rfl ?_)
     go_ret3
     exact ⟨_,by rw [HTE.out,HTA.out]; rfl,RES.out⟩
    obtain ⟨ga,hsa,news⟩:=MORE.out w4 HE4.out (by omega)
    subst hsa
    have NEWS:=hide news
    have LN:=hide (tcl_len (clN xs (bs s)))
    have ONE:=hide (tcl_one (clN xs (bs s)))
    have GR:Hid (∀g cap w6,w6.ownsRow 0 44 4 (.slice (some ⟨g,0,none⟩) ((stT xs (bs s)).length+(clN xs (bs s)).length) cap) ((stT xs (bs s)).length+(clN xs (bs s)).length) ((stT xs (bs s)).flatMap tcl++(clN xs (bs s)).flatMap tcl)→w4.grownBy w6 u12.ownBlock→(u12.ownBlock=some g∨g=w4.heap.size)→w6.ownsRow 0 44 4 (.slice (some ⟨g,0,none⟩) ((stT xs (bs s)).length+(clN xs (bs s)).length) cap) (clT xs (bs s)).length ((clT xs (bs s)).flatMap tcl)∧(∀k,(Value.slice (some ⟨g,0,none⟩) ((stT xs (bs s)).length+(clN xs (bs s)).length) cap).ownBlock=some k→w.heap.size≤k)∧Keeps w w6):=fun g cap w6 o1 o2 o3=>fe_grown HE4.out o1 o2 o3
    obtain ⟨i0,hii,hz0,hz1,hz2⟩:=info_parts infoMatch
    have II:=hide hii
    have Z0:=hide hz0
    have Z1:=hide hz1
    have Z2:=hide hz2
    clear hE4 HE4 MORE news hii hz0 hz1 hz2
    generalize clN xs (bs s)=NN at *
    go_wp2_with (refine wpList_append_lies _ rfl (.tmp 147) (.tmp 148) 33 rfl 0 44 i0 _ 4 40 Tryz.underlying33 II.out Z0.out Z1.out Z2.out rfl (by decide) u12 _ _ rfl A4.out ⟨ga,0,none⟩ _ _ _ rfl LN.out NEWS.out ONE.out (by omega) (by unfold maxLen; omega) (by omega) (by omega) _ rfl ?_; intro g6 cap6 w6 o1 o2 o3 _; have F6:=hide (GR.out g6 cap6 w6 o1 o2 o3); clear o1 o2 o3)
    go_ret3
    exact ⟨_,by rw [HTE.out,HTA.out]; rfl,F6.out⟩
   have HZ0:=hide hz0
   try rw [hz0]
   clear hz0
   go_wp2_with fail
   refine HE.out.feed.mono ?_
   rintro r w3 ⟨rfl,hE3⟩
   have HE3:=hide hE3
   clear hE3
   go_wp2_with fail
   refine HE3.out.close.mono ?_
   rintro r w4 ⟨rfl,hE4⟩
   have HE4:=hide hE4
   have A4:=hide hE4.a
   clear HE HE3
   have m0:=HZ0.out
   have en:clN xs (bs s)=[]:=List.eq_nil_of_length_eq_zero m0
   have RES:Hid (w4.ownsRow 0 44 4 u12 (clT xs (bs s)).length ((clT xs (bs s)).flatMap tcl)∧(∀k,u12.ownBlock=some k→w.heap.size≤k)∧Keeps w w4):=⟨by unfold clT; rw [en,List.append_nil]; exact hE4.a,fun k hk=>(hE4.na k hk).1,hE4.k⟩
   try rw [m0]
   clear hE4 HE4 MORE en m0
   go_wp2_with (refine wpList_app0 rfl (.tmp 147) (.tmp 148) rfl u12 _ _ rfl A4.out sa sc rfl ?_)
   go_ret3
   exact ⟨_,by rw [HTE.out,HTA.out]; rfl,RES.out⟩
  have RAW:Hid (Calls Tryz.prog 32 #[lv,.int .i64 (i:Nat)] wr fun r w'=>(∃v,i64R v∧r=.returned (.int .i64 v))∧w'=wr):=p_raw (HI.out.keep hF.k) (by omega)
  have hzz:(0:Int)<(rs.size:Int):=by omega
  have PK:Hid (∀v,i64R v→Calls Tryz.prog 22 #[.int .i64 v,.int .i64 (rs.size:Nat)] wr fun r w'=>(∃k:Nat,k<rs.size∧r=.returned (.int .i64 (k:Nat)))∧w'=wr):=fun v hv=>p_pick hv (by omega) (by omega)
  have P5:Hid (∀v,i64R v→Calls Tryz.prog 22 #[.int .i64 v,.int .i64 5] wr fun r w'=>(∃k:Nat,k<5∧r=.returned (.int .i64 (k:Nat)))∧w'=wr):=fun v hv=>p_pick (n:=5) hv (by omega) (by omega)
  clear hF
  go_wp2_with fail
  refine RAW.out.mono ?_
  rintro r w2 ⟨⟨v,hv,rfl⟩,rfl⟩
  go_wp2_with fail
  refine (PK.out v hv).mono ?_
  rintro r w2 ⟨⟨kk,hkk,rfl⟩,rfl⟩
  have hn1:IntKind.i64.wrap (1+(kk:Int))=1+(kk:Int):=by rw [IntWalk.i64_in _ (by omega)]
  go_wp2_with fail
  refine RAW.out.mono ?_
  rintro r w3 ⟨⟨v2,hv2,rfl⟩,rfl⟩
  go_wp2_with fail
  refine (P5.out v2 hv2).mono ?_
  rintro r w3 ⟨⟨k5,hk5,rfl⟩,rfl⟩
  clear hv hv2
  have hqs:(rs.extract 0 (1+kk)).size=1+kk:=by simp; omega
  by_cases h5:k5=0
  ·subst h5
   have FE0:=hide (fd_empty hx hsel hpos FF.out (by omega))
   go_wp2_with fail
   refine FE0.out.mono ?_
   rintro r w4 ⟨a4,c4,rfl,hF4⟩
   have FF4:=hide hF4
   clear hF4 FE0 FF
   go_wp2_with fail
   have FD:=hide (fd_feed hx hsel hpos FF4.out (rs.extract 0 (1+kk)) (by rw [hqs]; omega))
   refine FD.out.mono ?_
   rintro r w5 ⟨sv,rfl,g1,g2,g3,Es,g4,g5,g6,g7⟩
   clear FD FF4
   obtain ⟨sa,sc,rfl⟩:=own_slice g1
   have FIN:Hid (∀av' w6,FdI w sb b tt xs Dp (p++bs (rs.extract 0 (1+kk))) av' w6→∃(p':List UInt8) (rs':ByteArray) (i':Nat),Value.string (rs.extract (1+kk) rs.size)=.string rs'∧bs s=p'++bs rs'∧Value.int .i64 (stE (p++bs (rs.extract 0 (1+kk))):Nat)=.int .i64 (stE p':Nat)∧Value.int .i64 (stAt (p++bs (rs.extract 0 (1+kk))):Nat)=.int .i64 (stAt p':Nat)∧Value.int .i64 ((i:Int)+1)=.int .i64 (i':Nat)∧i'≤p'.length∧FdI w sb b tt xs Dp p' av' w6):=fun av' w6 hf=>⟨_,_,i+1,rfl,by rw [List.append_assoc,ext_split]; exact HSP.out,rfl,rfl,by simp,by rw [List.length_append,bs_len,hqs]; omega,hf⟩
   have MEA:(rs.extract (1+kk) rs.size).size<rs.size:=by simp; omega
   have hi1:IntKind.i64.wrap ((i:Int)+1)=(i:Int)+1:=by rw [IntWalk.i64_in _ (by omega)]
   by_cases m0:(stN xs p (bs (rs.extract 0 (1+kk)))).length=0
   ·have en:stN xs p (bs (rs.extract 0 (1+kk)))=[]:=List.eq_nil_of_length_eq_zero m0
    have FN:Hid (FdI w sb b tt xs Dp (p++bs (rs.extract 0 (1+kk))) u12 w5):=by
     refine ⟨⟨Es,g4,g5,?_,g7⟩,g2⟩
     rw [stT_app,en,List.append_nil]; exact g3
    have F2:=hide (FIN.out u12 w5 FN.out)
    have G3:=hide g3
    rw [m0]
    clear g1 g2 g3 g4 g5 g6 g7 en m0 FN FIN
    by_cases he:stE p=0
    ·have hei:((stE p:Nat):Int)=0:=by omega
     clear he
     generalize stE (p++bs (rs.extract 0 (1+kk)))=e5 at *
     generalize stAt (p++bs (rs.extract 0 (1+kk)))=a5 at *
     go_wp2_with (refine wpList_app0 rfl (.tmp 93) (.tmp 94) rfl u12 _ _ rfl G3.out sa sc rfl ?_)
     exact ⟨F2.out,MEA⟩
    obtain ⟨b1,b2⟩:=stE_bad (bs (rs.extract 0 (1+kk))) he
    rw [b1,b2] at F2 ⊢
    have hei:¬((stE p:Nat):Int)=0:=by omega
    clear he b1 b2
    generalize stE p=e5 at *
    generalize stAt p=a5 at *
    go_wp2_with (refine wpList_app0 rfl (.tmp 93) (.tmp 94) rfl u12 _ _ rfl G3.out sa sc rfl ?_)
    exact ⟨F2.out,MEA⟩
   have he:stE p=0:=Decidable.byContradiction fun y=>m0 (by unfold stN; rw [if_neg y]; rfl)
   obtain ⟨ga,cpa,hsv,_,hgal⟩:=g1.form (by omega)
   injection hsv with hs1 _ hs3
   subst hs1 hs3
   have NEWS:Hid (∀(j:Nat) (u:Value),((stN xs p (bs (rs.extract 0 (1+kk)))).flatMap tcl)[j]?=some u→w5.cell? ((⟨ga,0,none⟩:Addr).add j)=some u):=fun j u hj=>by
    have hadd:(⟨ga,0,none⟩:Addr).add j=⟨ga,j,none⟩:=by unfold Addr.add; split<;>simp_all
    have hjl:=(List.getElem?_eq_some_iff.1 hj).1
    rw [tcl_len] at hjl
    rw [hadd,g1.cellAt j hjl]; exact hj
   have LN:=hide (tcl_len (stN xs p (bs (rs.extract 0 (1+kk)))))
   have ONE:=hide (tcl_one (stN xs p (bs (rs.extract 0 (1+kk)))))
   have hb1:(stT xs (p++bs (rs.extract 0 (1+kk)))).length≤4000000:=stT_len xs hpos _ (by rw [List.length_append,bs_len,hqs]; omega)
   rw [stT_app,List.length_append] at hb1
   have GR:Hid (∀g cap w3,w3.ownsRow 0 44 4 (.slice (some ⟨g,0,none⟩) ((stT xs p).length+(stN xs p (bs (rs.extract 0 (1+kk)))).length) cap) ((stT xs p).length+(stN xs p (bs (rs.extract 0 (1+kk)))).length) ((stT xs p).flatMap tcl++(stN xs p (bs (rs.extract 0 (1+kk)))).flatMap tcl)→w5.grownBy w3 u12.ownBlock→(u12.ownBlock=some g∨g=w5.heap.size)→FdI w sb b tt xs Dp (p++bs (rs.extract 0 (1+kk))) (.slice (some ⟨g,0,none⟩) ((stT xs p).length+(stN xs p (bs (rs.extract 0 (1+kk)))).length) cap) w3):=fun g cap w3 o1 o2 o3=>fd_grown hx hsel g2 g4 g5 g7 o1 o2 o3
   obtain ⟨i0,hii,hz0,hz1,hz2⟩:=info_parts infoMatch
   have II:=hide hii
   have Z0:=hide hz0
   have Z1:=hide hz1
   have Z2:=hide hz2
   have G3:=hide g3
   have hei:((stE p:Nat):Int)=0:=by omega
   clear g1 g2 g3 g4 g5 g6 g7 he hii hz0 hz1 hz2 hgal
   generalize stN xs p (bs (rs.extract 0 (1+kk)))=NN at *
   generalize stE (p++bs (rs.extract 0 (1+kk)))=e5 at *
   generalize stAt (p++bs (rs.extract 0 (1+kk)))=a5 at *
   go_wp2_with (refine wpList_append_lies _ rfl (.tmp 93) (.tmp 94) 33 rfl 0 44 i0 _ 4 40 Tryz.underlying33 II.out Z0.out Z1.out Z2.out rfl (by decide) u12 _ _ rfl G3.out ⟨ga,0,none⟩ _ _ _ rfl LN.out NEWS.out ONE.out (by omega) (by unfold maxLen; omega) (by omega) (by omega) _ rfl ?_; intro g6 cap6 w6 o1 o2 o3 _; have F6:=hide (FIN.out _ w6 (GR.out g6 cap6 w6 o1 o2 o3)); clear o1 o2 o3)
   exact ⟨F6.out,MEA⟩
  have h5i:¬(k5:Int)=0:=by omega
  go_wp2_with fail
  have FD:=hide (fd_feed hx hsel hpos FF.out (rs.extract 0 (1+kk)) (by rw [hqs]; omega))
  refine FD.out.mono ?_
  rintro r w5 ⟨sv,rfl,g1,g2,g3,Es,g4,g5,g6,g7⟩
  clear FD FF
  obtain ⟨sa,sc,rfl⟩:=own_slice g1
  have FIN:Hid (∀av' w6,FdI w sb b tt xs Dp (p++bs (rs.extract 0 (1+kk))) av' w6→∃(p':List UInt8) (rs':ByteArray) (i':Nat),Value.string (rs.extract (1+kk) rs.size)=.string rs'∧bs s=p'++bs rs'∧Value.int .i64 (stE (p++bs (rs.extract 0 (1+kk))):Nat)=.int .i64 (stE p':Nat)∧Value.int .i64 (stAt (p++bs (rs.extract 0 (1+kk))):Nat)=.int .i64 (stAt p':Nat)∧Value.int .i64 ((i:Int)+1)=.int .i64 (i':Nat)∧i'≤p'.length∧FdI w sb b tt xs Dp p' av' w6):=fun av' w6 hf=>⟨_,_,i+1,rfl,by rw [List.append_assoc,ext_split]; exact HSP.out,rfl,rfl,by simp,by rw [List.length_append,bs_len,hqs]; omega,hf⟩
  have MEA:(rs.extract (1+kk) rs.size).size<rs.size:=by simp; omega
  have hi1:IntKind.i64.wrap ((i:Int)+1)=(i:Int)+1:=by rw [IntWalk.i64_in _ (by omega)]
  by_cases m0:(stN xs p (bs (rs.extract 0 (1+kk)))).length=0
  ·have en:stN xs p (bs (rs.extract 0 (1+kk)))=[]:=List.eq_nil_of_length_eq_zero m0
   have FN:Hid (FdI w sb b tt xs Dp (p++bs (rs.extract 0 (1+kk))) u12 w5):=by
    refine ⟨⟨Es,g4,g5,?_,g7⟩,g2⟩
    rw [stT_app,en,List.append_nil]; exact g3
   have F2:=hide (FIN.out u12 w5 FN.out)
   have G3:=hide g3
   rw [m0]
   clear g1 g2 g3 g4 g5 g6 g7 en m0 FN FIN
   by_cases he:stE p=0
   ·have hei:((stE p:Nat):Int)=0:=by omega
    clear he
    generalize stE (p++bs (rs.extract 0 (1+kk)))=e5 at *
    generalize stAt (p++bs (rs.extract 0 (1+kk)))=a5 at *
    go_wp2_with (refine wpList_app0 rfl (.tmp 93) (.tmp 94) rfl u12 _ _ rfl G3.out sa sc rfl ?_)
    exact ⟨F2.out,MEA⟩
   obtain ⟨b1,b2⟩:=stE_bad (bs (rs.extract 0 (1+kk))) he
   rw [b1,b2] at F2 ⊢
   have hei:¬((stE p:Nat):Int)=0:=by omega
   clear he b1 b2
   generalize stE p=e5 at *
   generalize stAt p=a5 at *
   go_wp2_with (refine wpList_app0 rfl (.tmp 93) (.tmp 94) rfl u12 _ _ rfl G3.out sa sc rfl ?_)
   exact ⟨F2.out,MEA⟩
  have he:stE p=0:=Decidable.byContradiction fun y=>m0 (by unfold stN; rw [if_neg y]; rfl)
  obtain ⟨ga,cpa,hsv,_,hgal⟩:=g1.form (by omega)
  injection hsv with hs1 _ hs3
  subst hs1 hs3
  have NEWS:Hid (∀(j:Nat) (u:Value),((stN xs p (bs (rs.extract 0 (1+kk)))).flatMap tcl)[j]?=some u→w5.cell? ((⟨ga,0,none⟩:Addr).add j)=some u):=fun j u hj=>by
   have hadd:(⟨ga,0,none⟩:Addr).add j=⟨ga,j,none⟩:=by unfold Addr.add; split<;>simp_all
   have hjl:=(List.getElem?_eq_some_iff.1 hj).1
   rw [tcl_len] at hjl
   rw [hadd,g1.cellAt j hjl]; exact hj
  have LN:=hide (tcl_len (stN xs p (bs (rs.extract 0 (1+kk)))))
  have ONE:=hide (tcl_one (stN xs p (bs (rs.extract 0 (1+kk)))))
  have hb1:(stT xs (p++bs (rs.extract 0 (1+kk)))).length≤4000000:=stT_len xs hpos _ (by rw [List.length_append,bs_len,hqs]; omega)
  rw [stT_app,List.length_append] at hb1
  have GR:Hid (∀g cap w3,w3.ownsRow 0 44 4 (.slice (some ⟨g,0,none⟩) ((stT xs p).length+(stN xs p (bs (rs.extract 0 (1+kk)))).length) cap) ((stT xs p).length+(stN xs p (bs (rs.extract 0 (1+kk)))).length) ((stT xs p).flatMap tcl++(stN xs p (bs (rs.extract 0 (1+kk)))).flatMap tcl)→w5.grownBy w3 u12.ownBlock→(u12.ownBlock=some g∨g=w5.heap.size)→FdI w sb b tt xs Dp (p++bs (rs.extract 0 (1+kk))) (.slice (some ⟨g,0,none⟩) ((stT xs p).length+(stN xs p (bs (rs.extract 0 (1+kk)))).length) cap) w3):=fun g cap w3 o1 o2 o3=>fd_grown hx hsel g2 g4 g5 g7 o1 o2 o3
  obtain ⟨i0,hii,hz0,hz1,hz2⟩:=info_parts infoMatch
  have II:=hide hii
  have Z0:=hide hz0
  have Z1:=hide hz1
  have Z2:=hide hz2
  have G3:=hide g3
  have hei:((stE p:Nat):Int)=0:=by omega
  clear g1 g2 g3 g4 g5 g6 g7 he hii hz0 hz1 hz2 hgal
  generalize stN xs p (bs (rs.extract 0 (1+kk)))=NN at *
  generalize stE (p++bs (rs.extract 0 (1+kk)))=e5 at *
  generalize stAt (p++bs (rs.extract 0 (1+kk)))=a5 at *
  go_wp2_with (refine wpList_append_lies _ rfl (.tmp 93) (.tmp 94) 33 rfl 0 44 i0 _ 4 40 Tryz.underlying33 II.out Z0.out Z1.out Z2.out rfl (by decide) u12 _ _ rfl G3.out ⟨ga,0,none⟩ _ _ _ rfl LN.out NEWS.out ONE.out (by omega) (by unfold maxLen; omega) (by omega) (by omega) _ rfl ?_; intro g6 cap6 w6 o1 o2 o3 _; have F6:=hide (FIN.out _ w6 (GR.out g6 cap6 w6 o1 o2 o3)); clear o1 o2 o3)
  exact ⟨F6.out,MEA⟩
end Go.Proofs.YtcbadebjpogmlaaGreatDoor
