import Derived.Test.YtcbadebjpogmlaaGreatDoorECm
namespace Go.Proofs.YtcbadebjpogmlaaGreatDoor
open Go.RowKit Tr Go.Conc
theorem ext_split (q:ByteArray) (n:Nat):bs (q.extract 0 n)++bs (q.extract n q.size)=bs q:=by
  rw [bs_extract,bs_extract]
  unfold sub
  rw [List.drop_zero,Nat.sub_zero,List.take_of_length_le (l:=(bs q).drop n) (by simp [bs_len])]
  exact List.take_append_drop _ _
structure FdI (w:World) (sb b:Nat) (tt:ByteArray) (xs:List Sg) (Dp:Nat→Prop) (p:List UInt8) (av:Value) (wr:World):Prop where
  ex:∃Es,ST sb b tt xs Dp (fun k=>w.heap[k]?) wr Es p∧(∀k,Es k→(Dp k∨gEN k)∨w.heap.size≤k)∧wr.ownsRow 0 44 4 av (stT xs p).length ((stT xs p).flatMap tcl)∧∀k,av.ownBlock=some k→w.heap.size≤k∧¬Es k
  k:Keeps w wr
theorem fd_feed {w:World} {sb b:Nat} {tt:ByteArray} {xs:List Sg} {Dp:Nat→Prop} (hx:xs.length≤10) (hsel:selN xs≤10) (hpos:∀g ∈ xs,0<g.l.length) {p:List UInt8} {av:Value} {wr:World} (h:FdI w sb b tt xs Dp p av wr) (q:ByteArray) (hl:p.length+q.size≤4000000) :
    Calls Tryz.prog 38 #[fvp sb,.string q] wr fun res w'=>∃sv,res=.returned (.tuple #[sv,.int .i64 (stE (p++bs q):Nat),.int .i64 (stAt (p++bs q):Nat)])∧w'.ownsRow 0 44 4 sv (stN xs p (bs q)).length ((stN xs p (bs q)).flatMap tcl)∧Keeps w w'∧w'.ownsRow 0 44 4 av (stT xs p).length ((stT xs p).flatMap tcl) ∧
      ∃Es,ST sb b tt xs Dp (fun k=>w.heap[k]?) w' Es (p++bs q)∧(∀k,Es k→(Dp k∨gEN k)∨w.heap.size≤k)∧(∀k,sv.ownBlock=some k→¬Es k∧av.ownBlock≠some k∧w.heap.size≤k)∧∀k,av.ownBlock=some k→w.heap.size≤k∧¬Es k:=by
  obtain ⟨Es,h1,h2,h3,h4⟩:=h.ex
  refine (st_feed hx hsel hpos h1 q hl).mono ?_
  rintro res w' ⟨sv,Es',rfl,g1,g2,g3,g4,g5⟩
  have hz:=h.k.size
  have K:Keeps w w':=by
    refine ⟨g5.os.trans h.k.os,g5.tape.trans h.k.tape,g5.output.trans h.k.output,Nat.le_trans h.k.size g5.size,fun k hk _=>?_⟩
    by_cases he:Es k
    · rcases h2 k he with y | y
      · exact (g1.same y).1
      omega
    rw [g5.block k (by omega) he]; exact h.k.block k hk id
  have nE:∀k,Es' k→(Dp k∨gEN k)∨w.heap.size≤k:=fun k hk=>by
    rcases g4 k hk with y | y
    · exact h2 k y
    exact Or.inr (by omega)
  have avE:∀k,av.ownBlock=some k→¬Es' k:=fun k hk y=>by
    rcases g4 k y with u | u
    · exact (h4 k hk).2 u
    have:=(h3.lt k hk).2; omega
  refine ⟨sv,rfl,g2,K,own_at' h3 (fun k hk=>g5.block k (h3.lt k hk).2 (h4 k hk).2),Es',g1,nE,fun k hk=>⟨(g3 k hk).1,fun y=>?_,?_⟩,fun k hk=>⟨(h4 k hk).1,avE k hk⟩⟩
  · rcases (g3 k hk).2 with u | u
    · exact (h4 k y).2 u
    have:=(h3.lt k y).2; omega
  rcases (g3 k hk).2 with u | u
  · rcases h2 k u with v | v
    · exact absurd (g1.same v).2 (g3 k hk).1
    exact v
  omega
theorem fOk_run {xs:List Sg} (hx:∀g ∈ xs,0<g.l.length):∀(ts:List Tok) {s:Fw},FOk xs s→OkL s.g.sh ts→FOk xs (fRun xs s ts)
  | [],_,h,_=>h
  | t::r,s,h,ho=>by
    show FOk xs (fRun xs (fTake xs s t) r)
    exact fOk_run hx r (fOk_take hx h ho.1) (by rw [fTake_sh xs s ho.1]; exact ho.2)
theorem shRun_bd:∀(ts:List Tok) {s:Sh},s.bd≤4000000→OkL s ts→(shRun s ts).bd≤4000000
  | [],_,h,_=>h
  | t::r,s,h,ho=>by
    show (shRun (shTake s t) r).bd≤4000000
    refine shRun_bd r ?_ ho.2
    unfold shTake
    have:=ho.1.frm
    repeat' split
    all_goals first | (simp only; omega) | omega
theorem stT_len (xs:List Sg) (hx:∀g ∈ xs,0<g.l.length) (p:List UInt8) (hp:p.length≤4000000):(stT xs p).length≤4000000:=by
  have R:=run_ok' p sInit_ok.1 sInit_ok.2 (by simp [sInit]) (by simp [sInit]; omega)
  have F:=(fOk_run hx (sRun sInit p).ts (fInit_ok xs) R.tok).n
  have e:=fRun_sh xs (sRun sInit p).ts (s:=fInit) R.tok
  have B:(fRun xs fInit (sRun sInit p).ts).g.bd≤4000000:=by
    have:=shRun_bd (sRun sInit p).ts (s:=⟨[],0⟩) (by simp) R.tok
    have e2:(fRun xs fInit (sRun sInit p).ts).g.sh.bd=(shRun ⟨[],0⟩ (sRun sInit p).ts).bd:=by rw [e]; rfl
    have e3:(fRun xs fInit (sRun sInit p).ts).g.sh.bd=(fRun xs fInit (sRun sInit p).ts).g.bd:=rfl
    omega
  unfold stT
  omega
theorem fd_empty {w:World} {sb b:Nat} {tt:ByteArray} {xs:List Sg} {Dp:Nat→Prop} (hx:xs.length≤10) (hsel:selN xs≤10) (hpos:∀g ∈ xs,0<g.l.length) {p:List UInt8} {av:Value} {wr:World} (h:FdI w sb b tt xs Dp p av wr) (hl:p.length≤4000000) :
    Calls Tryz.prog 38 #[.pointer (some ⟨sb,0,none⟩),.string ⟨#[]⟩] wr fun res w'=>∃a c,res=.returned (.tuple #[.slice a 0 c,.int .i64 (stE p:Nat),.int .i64 (stAt p:Nat)])∧FdI w sb b tt xs Dp p av w':=by
  refine (fd_feed hx hsel hpos h ⟨#[]⟩ hl).mono ?_
  rintro res w' ⟨sv,rfl,g1,g2,g3,Es,g4,g5,_,g7⟩
  have e0:p++bs ⟨#[]⟩=p:=List.append_nil p
  rw [e0] at g4 ⊢
  have e1:stN xs p (bs ⟨#[]⟩)=[]:=stN_nil xs p
  rw [e1] at g1
  obtain ⟨a,c,rfl⟩:=own_slice g1
  exact ⟨a,c,rfl,⟨Es,g4,g5,g3,g7⟩,g2⟩
theorem app_none {w:World} {av:Value} {n:Nat} {cells:List Value} (h:w.ownsRow 0 44 4 av n cells) (ty:TypeId) (a:Option Addr) (c:Nat):(Builtin.append_ #[33,33] ty #[av,.slice a 0 c]).run Tryz.prog w=.ok av w:=by
  obtain ⟨i0,hi,_,_,_⟩:=info_parts infoMatch
  rcases h.2 with ⟨rfl,rfl⟩ | ⟨g,cap,cur,rfl,_,_,hnc,_⟩
  · cases a<;>simp [Builtin.append_,run_underlying Tryz.underlying33,sizeOf,typeInfo,hi,Builtin.lenOf,Builtin.firstCells,loadCells,loadCellsFrom]
  cases a<;>simp [Builtin.append_,run_underlying Tryz.underlying33,sizeOf,typeInfo,hi,Builtin.lenOf,Builtin.firstCells,hnc,storeCells,loadCells,loadCellsFrom]
theorem wpList_app0 {ops:Array Oper} {rest:List Oper} {o:Oper} {a:Act} {w:World} {Q:Exit→Act→World→Prop} (hgd:o.guard=none) (s x:Operand) (ho:o.op=.call { callee:=.builtin .append,args:=#[s,x],argTypes:=#[33,33] }) (av:Value) (n:Nat) (cells:List Value) (hs:a.eval s=av) (hown:w.ownsRow 0 44 4 av n cells) (sa:Option Addr) (sc:Nat) (hx:a.eval x=.slice sa 0 sc) (h:wpList Tryz.prog ops Q rest (a.put o.dst av) w):wpList Tryz.prog ops Q (o::rest) a w :=
  wpList_plain hgd fun _ hK=>by
    unfold Oper.wp execOp
    have:=fun ty=>app_none hown ty sa sc
    simp only [ho,resolve,invoke,builtin,Sem.run_bind,Sem.run_pure,Result.andThen_ok,List.map_toArray,List.map_cons,List.map_nil,hs,hx,this]
    exact hK _ _ h
theorem fd_grown {w:World} {sb b:Nat} {tt:ByteArray} {xs:List Sg} {Dp:Nat→Prop} (hx:xs.length≤10) (hsel:selN xs≤10) {p q:List UInt8} {av:Value} {w2:World} {Es:Nat→Prop} (K:Keeps w w2) (hS:ST sb b tt xs Dp (fun k=>w.heap[k]?) w2 Es (p++q)) (nE:∀k,Es k→(Dp k∨gEN k)∨w.heap.size≤k) (avE:∀k,av.ownBlock=some k→w.heap.size≤k∧¬Es k) {g cap:Nat} {w3:World}
    (ho:w3.ownsRow 0 44 4 (.slice (some ⟨g,0,none⟩) ((stT xs p).length+(stN xs p q).length) cap) ((stT xs p).length+(stN xs p q).length) ((stT xs p).flatMap tcl++(stN xs p q).flatMap tcl)) (hg:w2.grownBy w3 av.ownBlock) (hat:av.ownBlock=some g∨g=w2.heap.size):FdI w sb b tt xs Dp (p++q) (.slice (some ⟨g,0,none⟩) ((stT xs p).length+(stN xs p q).length) cap) w3:=by
  have hz:=K.size
  refine ⟨⟨Es,hS.keep hx hsel (fun k hk=>hg.block k (hS.lt hk) (fun e=>(avE k e.symm).2 hk)) hg.size,nE,?_,fun k hk=>?_⟩,?_⟩
  · rw [stT_app,List.length_append,List.flatMap_append]; exact ho
  · have e:g=k:=Option.some.inj hk
    subst e
    rcases hat with e | e
    · exact avE g e
    exact ⟨by omega,fun y=>by have:=hS.lt y; omega⟩
  exact ⟨hg.os.trans K.os,hg.tape.trans K.tape,hg.output.trans K.output,Nat.le_trans K.size hg.size,fun k hk _=>by
    rw [hg.block k (by omega) (fun e=>by have:=(avE k e.symm).1; omega)]; exact K.block k hk id⟩
theorem tcl_one (l:List (Tv×Nat)):∀u ∈ l.flatMap tcl,u.oneCell'=true:=fun u hu=>by
  obtain ⟨p,_,h⟩:=List.mem_flatMap.1 hu
  simp only [tcl,mtCells,List.mem_cons,List.not_mem_nil,or_false] at h
  rcases h with rfl | rfl | rfl | rfl<;>rfl
set_option maxHeartbeats 8000000 in
set_option maxRecDepth 100000 in
theorem p_fed0 {w:World} {gq b:Nat} {tt:ByteArray} {xs:List Sg} {Dp:Nat→Prop} (hq:Blk w gq #[fvp b] 77) (hp:OkD Dp w (fun w=>PlanV w b tt xs)) (hpl:∀k,Dp k→k<w.heap.size) (he:EN w) (hx:xs.length≤10) (hsel:selN xs≤10) (hpos:∀g ∈ xs,0<g.l.length) (s:ByteArray) (hs:s.size≤1100000) {lv:Value} (hi:IntsAt w lv) :
    Calls Tryz.prog 19 #[fvp gq,.string s,lv,.bool false] w fun r w'=>∃av,r=.returned (.tuple #[av,.int .i64 (stE (bs s):Nat),.int .i64 (stAt (bs s):Nat)])∧w'.ownsRow 0 44 4 av (stT xs (bs s)).length ((stT xs (bs s)).flatMap tcl)∧(∀k,av.ownBlock=some k→w.heap.size≤k)∧Keeps w w':=by
  have STR:Hid (Calls Tryz.prog 37 #[.pointer (some ⟨gq,0,none⟩)] w fun r w'=>∃sb,r=.returned (.pointer (some ⟨sb,0,none⟩))∧FdI w sb b tt xs Dp [] (.slice none 0 0) w'):=by
    refine (s_stream hq hp hpl he).mono ?_
    rintro res w' ⟨sb,r,f,Er,E,rfl,h1,h2,h3,h4,h5,h6,h7,h8,h9⟩
    refine ⟨sb,rfl,⟨⟨_,st_new h1 h2 h3 h4 h5,fun k hk=>?_,⟨rfl,Or.inl ⟨rfl,rfl⟩⟩,fun k hk=>(by cases hk)⟩,h9⟩⟩
    rcases hk with y | y | y
    · exact Or.inr (h7 k y)
    · rcases h8 k y with u | u | u
      · exact Or.inl (Or.inl u)
      · exact Or.inl (Or.inr u)
      exact Or.inr u
    exact Or.inr (y▸h6)
  have HI:=hide hi
  have HX:=hide (And.intro hx (And.intro hsel hpos))
  clear hq hp hpl he hi hx hsel hpos
  unfold fvp
  go_enter Tryz.func19,Tryz.ntmps19
  go_wp2_with fail
  refine STR.out.mono ?_
  rintro res w1 ⟨sb,rfl,h1⟩
  have H1:=hide h1
  clear h1 STR
  go_wp2
  go_loopw [1,12,13,14,15] (fun sv av ev pv iv wr=>∃(p:List UInt8) (rs:ByteArray) (i:Nat),sv=.string rs∧bs s=p++bs rs∧ev=.int .i64 (stE p:Nat)∧pv=.int .i64 (stAt p:Nat)∧iv=.int .i64 (i:Nat)∧i≤p.length∧FdI w sb b tt xs Dp p av wr) (fun sv _ _ _ _ _=>match sv with | .string x=>x.size | _=>0)
  case atStart=>exact ⟨[],s,0,rfl,rfl,rfl,rfl,rfl,Nat.le_refl _,H1.out⟩
  case round =>
    obtain ⟨p,rs,i,rfl,hsp,rfl,rfl,rfl,hip,hF⟩:=hrel
    have hlen:p.length+rs.size=s.size:=by
      have:=congrArg List.length hsp
      rw [List.length_append,bs_len,bs_len] at this; omega
    obtain ⟨hx,hsel,hpos⟩:=HX.out
    have FF:=hide hF
    have HSP:=hide hsp
    clear hsp
    by_cases hz:rs.size=0
    · have e0:bs rs=[]:=List.eq_nil_of_length_eq_zero (by rw [bs_len]; exact hz)
      have e1:p=bs s:=by rw [HSP.out,e0,List.append_nil]
      subst e1
      have hzz:(rs.size:Int)=0:=by omega
      obtain ⟨Es,_,_,f3,f4⟩:=hF.ex
      have RES:=hide (And.intro f3 (And.intro (fun k hk=>(f4 k hk).1) hF.k))
      clear hF f3 f4 FF HSP HI HX H1 hx hsel hpos
      go_wp2
      go_ret3
      exact ⟨_,rfl,RES.out⟩
    have RAW:Hid (Calls Tryz.prog 32 #[lv,.int .i64 (i:Nat)] wr fun r w'=>(∃v,i64R v∧r=.returned (.int .i64 v))∧w'=wr):=p_raw (HI.out.keep hF.k) (by omega)
    have hzz:(0:Int)<(rs.size:Int):=by omega
    have PK:Hid (∀v,i64R v→Calls Tryz.prog 22 #[.int .i64 v,.int .i64 (rs.size:Nat)] wr fun r w'=>(∃k:Nat,k<rs.size∧r=.returned (.int .i64 (k:Nat)))∧w'=wr):=fun v hv=>p_pick hv (by omega) (by omega)
    have P5:Hid (∀v,i64R v→Calls Tryz.prog 22 #[.int .i64 v,.int .i64 5] wr fun r w'=>(∃k:Nat,k<5∧r=.returned (.int .i64 (k:Nat)))∧w'=wr):=fun v hv=>p_pick (n:=5) hv (by omega) (by omega)
    clear hF
    go_wp2_with fail
    refine RAW.out.mono ?_
    rintro r w2 ⟨⟨v,hv,rfl⟩,rfl⟩
    go_wp2_with fail
    refine (PK.out v hv).mono ?_
    rintro r w2 ⟨⟨kk,hkk,rfl⟩,rfl⟩
    have hn1:IntKind.i64.wrap (1+(kk:Int))=1+(kk:Int):=by rw [IntWalk.i64_in _ (by omega)]
    go_wp2_with fail
    refine RAW.out.mono ?_
    rintro r w3 ⟨⟨v2,hv2,rfl⟩,rfl⟩
    go_wp2_with fail
    refine (P5.out v2 hv2).mono ?_
    rintro r w3 ⟨⟨k5,hk5,rfl⟩,rfl⟩
    clear hv hv2
    have hqs:(rs.extract 0 (1+kk)).size=1+kk:=by simp; omega
    by_cases h5:k5=0
    · subst h5
      have FE0:=hide (fd_empty hx hsel hpos FF.out (by omega))
      go_wp2_with fail
      refine FE0.out.mono ?_
      rintro r w4 ⟨a4,c4,rfl,hF4⟩
      have FF4:=hide hF4
      clear hF4 FE0 FF
      go_wp2_with fail
      have FD:=hide (fd_feed hx hsel hpos FF4.out (rs.extract 0 (1+kk)) (by rw [hqs]; omega))
      refine FD.out.mono ?_
      rintro r w5 ⟨sv,rfl,g1,g2,g3,Es,g4,g5,g6,g7⟩
      clear FD FF4
      obtain ⟨sa,sc,rfl⟩:=own_slice g1
      have FIN:Hid (∀av' w6,FdI w sb b tt xs Dp (p++bs (rs.extract 0 (1+kk))) av' w6→∃(p':List UInt8) (rs':ByteArray) (i':Nat),Value.string (rs.extract (1+kk) rs.size)=.string rs'∧bs s=p'++bs rs'∧Value.int .i64 (stE (p++bs (rs.extract 0 (1+kk))):Nat)=.int .i64 (stE p':Nat)∧Value.int .i64 (stAt (p++bs (rs.extract 0 (1+kk))):Nat)=.int .i64 (stAt p':Nat)∧Value.int .i64 ((i:Int)+1)=.int .i64 (i':Nat)∧i'≤p'.length∧FdI w sb b tt xs Dp p' av' w6):=fun av' w6 hf=>⟨_,_,i+1,rfl,by rw [List.append_assoc,ext_split]; exact HSP.out,rfl,rfl,by simp,by rw [List.length_append,bs_len,hqs]; omega,hf⟩
      have MEA:(rs.extract (1+kk) rs.size).size<rs.size:=by simp; omega
      have hi1:IntKind.i64.wrap ((i:Int)+1)=(i:Int)+1:=by rw [IntWalk.i64_in _ (by omega)]
      by_cases m0:(stN xs p (bs (rs.extract 0 (1+kk)))).length=0
      · have en:stN xs p (bs (rs.extract 0 (1+kk)))=[]:=List.eq_nil_of_length_eq_zero m0
        have FN:Hid (FdI w sb b tt xs Dp (p++bs (rs.extract 0 (1+kk))) u12 w5):=by
          refine ⟨⟨Es,g4,g5,?_,g7⟩,g2⟩
          rw [stT_app,en,List.append_nil]; exact g3
        have F2:=hide (FIN.out u12 w5 FN.out)
        have G3:=hide g3
        rw [m0]
        clear g1 g2 g3 g4 g5 g6 g7 en m0 FN FIN
        by_cases he:stE p=0
        · have hei:((stE p:Nat):Int)=0:=by omega
          clear he
          generalize stE (p++bs (rs.extract 0 (1+kk)))=e5 at *
          generalize stAt (p++bs (rs.extract 0 (1+kk)))=a5 at *
          go_wp2_with (refine wpList_app0 rfl (.tmp 93) (.tmp 94) rfl u12 _ _ rfl G3.out sa sc rfl ?_)
          exact ⟨F2.out,MEA⟩
        obtain ⟨b1,b2⟩:=stE_bad (bs (rs.extract 0 (1+kk))) he
        rw [b1,b2] at F2 ⊢
        have hei:¬((stE p:Nat):Int)=0:=by omega
        clear he b1 b2
        generalize stE p=e5 at *
        generalize stAt p=a5 at *
        go_wp2_with (refine wpList_app0 rfl (.tmp 93) (.tmp 94) rfl u12 _ _ rfl G3.out sa sc rfl ?_)
        exact ⟨F2.out,MEA⟩
      have he:stE p=0:=Decidable.byContradiction fun y=>m0 (by unfold stN; rw [if_neg y]; rfl)
      obtain ⟨ga,cpa,hsv,_,hgal⟩:=g1.form (by omega)
      injection hsv with hs1 _ hs3
      subst hs1 hs3
      have NEWS:Hid (∀(j:Nat) (u:Value),((stN xs p (bs (rs.extract 0 (1+kk)))).flatMap tcl)[j]?=some u→w5.cell? ((⟨ga,0,none⟩:Addr).add j)=some u):=fun j u hj=>by
        have hadd:(⟨ga,0,none⟩:Addr).add j=⟨ga,j,none⟩:=by unfold Addr.add; split<;>simp_all
        have hjl:=(List.getElem?_eq_some_iff.1 hj).1
        rw [tcl_len] at hjl
        rw [hadd,g1.cellAt j hjl]; exact hj
      have LN:=hide (tcl_len (stN xs p (bs (rs.extract 0 (1+kk)))))
      have ONE:=hide (tcl_one (stN xs p (bs (rs.extract 0 (1+kk)))))
      have hb1:(stT xs (p++bs (rs.extract 0 (1+kk)))).length≤4000000:=stT_len xs hpos _ (by rw [List.length_append,bs_len,hqs]; omega)
      rw [stT_app,List.length_append] at hb1
      have GR:Hid (∀g cap w3,w3.ownsRow 0 44 4 (.slice (some ⟨g,0,none⟩) ((stT xs p).length+(stN xs p (bs (rs.extract 0 (1+kk)))).length) cap) ((stT xs p).length+(stN xs p (bs (rs.extract 0 (1+kk)))).length) ((stT xs p).flatMap tcl++(stN xs p (bs (rs.extract 0 (1+kk)))).flatMap tcl)→w5.grownBy w3 u12.ownBlock→(u12.ownBlock=some g∨g=w5.heap.size)→FdI w sb b tt xs Dp (p++bs (rs.extract 0 (1+kk))) (.slice (some ⟨g,0,none⟩) ((stT xs p).length+(stN xs p (bs (rs.extract 0 (1+kk)))).length) cap) w3):=fun g cap w3 o1 o2 o3=>fd_grown hx hsel g2 g4 g5 g7 o1 o2 o3
      obtain ⟨i0,hii,hz0,hz1,hz2⟩:=info_parts infoMatch
      have II:=hide hii
      have Z0:=hide hz0
      have Z1:=hide hz1
      have Z2:=hide hz2
      have G3:=hide g3
      have hei:((stE p:Nat):Int)=0:=by omega
      clear g1 g2 g3 g4 g5 g6 g7 he hii hz0 hz1 hz2 hgal
      generalize stN xs p (bs (rs.extract 0 (1+kk)))=NN at *
      generalize stE (p++bs (rs.extract 0 (1+kk)))=e5 at *
      generalize stAt (p++bs (rs.extract 0 (1+kk)))=a5 at *
      go_wp2_with (refine wpList_append_lies _ rfl (.tmp 93) (.tmp 94) 33 rfl 0 44 i0 _ 4 40 Tryz.underlying33 II.out Z0.out Z1.out Z2.out rfl (by decide) u12 _ _ rfl G3.out ⟨ga,0,none⟩ _ _ _ rfl LN.out NEWS.out ONE.out (by omega) (by unfold maxLen; omega) (by omega) (by omega) _ rfl ?_; intro g6 cap6 w6 o1 o2 o3 _; have F6:=hide (FIN.out _ w6 (GR.out g6 cap6 w6 o1 o2 o3)); clear o1 o2 o3)
      exact ⟨F6.out,MEA⟩
    have h5i:¬(k5:Int)=0:=by omega
    go_wp2_with fail
    have FD:=hide (fd_feed hx hsel hpos FF.out (rs.extract 0 (1+kk)) (by rw [hqs]; omega))
    refine FD.out.mono ?_
    rintro r w5 ⟨sv,rfl,g1,g2,g3,Es,g4,g5,g6,g7⟩
    clear FD FF
    obtain ⟨sa,sc,rfl⟩:=own_slice g1
    have FIN:Hid (∀av' w6,FdI w sb b tt xs Dp (p++bs (rs.extract 0 (1+kk))) av' w6→∃(p':List UInt8) (rs':ByteArray) (i':Nat),Value.string (rs.extract (1+kk) rs.size)=.string rs'∧bs s=p'++bs rs'∧Value.int .i64 (stE (p++bs (rs.extract 0 (1+kk))):Nat)=.int .i64 (stE p':Nat)∧Value.int .i64 (stAt (p++bs (rs.extract 0 (1+kk))):Nat)=.int .i64 (stAt p':Nat)∧Value.int .i64 ((i:Int)+1)=.int .i64 (i':Nat)∧i'≤p'.length∧FdI w sb b tt xs Dp p' av' w6):=fun av' w6 hf=>⟨_,_,i+1,rfl,by rw [List.append_assoc,ext_split]; exact HSP.out,rfl,rfl,by simp,by rw [List.length_append,bs_len,hqs]; omega,hf⟩
    have MEA:(rs.extract (1+kk) rs.size).size<rs.size:=by simp; omega
    have hi1:IntKind.i64.wrap ((i:Int)+1)=(i:Int)+1:=by rw [IntWalk.i64_in _ (by omega)]
    by_cases m0:(stN xs p (bs (rs.extract 0 (1+kk)))).length=0
    · have en:stN xs p (bs (rs.extract 0 (1+kk)))=[]:=List.eq_nil_of_length_eq_zero m0
      have FN:Hid (FdI w sb b tt xs Dp (p++bs (rs.extract 0 (1+kk))) u12 w5):=by
        refine ⟨⟨Es,g4,g5,?_,g7⟩,g2⟩
        rw [stT_app,en,List.append_nil]; exact g3
      have F2:=hide (FIN.out u12 w5 FN.out)
      have G3:=hide g3
      rw [m0]
      clear g1 g2 g3 g4 g5 g6 g7 en m0 FN FIN
      by_cases he:stE p=0
      · have hei:((stE p:Nat):Int)=0:=by omega
        clear he
        generalize stE (p++bs (rs.extract 0 (1+kk)))=e5 at *
        generalize stAt (p++bs (rs.extract 0 (1+kk)))=a5 at *
        go_wp2_with (refine wpList_app0 rfl (.tmp 93) (.tmp 94) rfl u12 _ _ rfl G3.out sa sc rfl ?_)
        exact ⟨F2.out,MEA⟩
      obtain ⟨b1,b2⟩:=stE_bad (bs (rs.extract 0 (1+kk))) he
      rw [b1,b2] at F2 ⊢
      have hei:¬((stE p:Nat):Int)=0:=by omega
      clear he b1 b2
      generalize stE p=e5 at *
      generalize stAt p=a5 at *
      go_wp2_with (refine wpList_app0 rfl (.tmp 93) (.tmp 94) rfl u12 _ _ rfl G3.out sa sc rfl ?_)
      exact ⟨F2.out,MEA⟩
    have he:stE p=0:=Decidable.byContradiction fun y=>m0 (by unfold stN; rw [if_neg y]; rfl)
    obtain ⟨ga,cpa,hsv,_,hgal⟩:=g1.form (by omega)
    injection hsv with hs1 _ hs3
    subst hs1 hs3
    have NEWS:Hid (∀(j:Nat) (u:Value),((stN xs p (bs (rs.extract 0 (1+kk)))).flatMap tcl)[j]?=some u→w5.cell? ((⟨ga,0,none⟩:Addr).add j)=some u):=fun j u hj=>by
      have hadd:(⟨ga,0,none⟩:Addr).add j=⟨ga,j,none⟩:=by unfold Addr.add; split<;>simp_all
      have hjl:=(List.getElem?_eq_some_iff.1 hj).1
      rw [tcl_len] at hjl
      rw [hadd,g1.cellAt j hjl]; exact hj
    have LN:=hide (tcl_len (stN xs p (bs (rs.extract 0 (1+kk)))))
    have ONE:=hide (tcl_one (stN xs p (bs (rs.extract 0 (1+kk)))))
    have hb1:(stT xs (p++bs (rs.extract 0 (1+kk)))).length≤4000000:=stT_len xs hpos _ (by rw [List.length_append,bs_len,hqs]; omega)
    rw [stT_app,List.length_append] at hb1
    have GR:Hid (∀g cap w3,w3.ownsRow 0 44 4 (.slice (some ⟨g,0,none⟩) ((stT xs p).length+(stN xs p (bs (rs.extract 0 (1+kk)))).length) cap) ((stT xs p).length+(stN xs p (bs (rs.extract 0 (1+kk)))).length) ((stT xs p).flatMap tcl++(stN xs p (bs (rs.extract 0 (1+kk)))).flatMap tcl)→w5.grownBy w3 u12.ownBlock→(u12.ownBlock=some g∨g=w5.heap.size)→FdI w sb b tt xs Dp (p++bs (rs.extract 0 (1+kk))) (.slice (some ⟨g,0,none⟩) ((stT xs p).length+(stN xs p (bs (rs.extract 0 (1+kk)))).length) cap) w3):=fun g cap w3 o1 o2 o3=>fd_grown hx hsel g2 g4 g5 g7 o1 o2 o3
    obtain ⟨i0,hii,hz0,hz1,hz2⟩:=info_parts infoMatch
    have II:=hide hii
    have Z0:=hide hz0
    have Z1:=hide hz1
    have Z2:=hide hz2
    have G3:=hide g3
    have hei:((stE p:Nat):Int)=0:=by omega
    clear g1 g2 g3 g4 g5 g6 g7 he hii hz0 hz1 hz2 hgal
    generalize stN xs p (bs (rs.extract 0 (1+kk)))=NN at *
    generalize stE (p++bs (rs.extract 0 (1+kk)))=e5 at *
    generalize stAt (p++bs (rs.extract 0 (1+kk)))=a5 at *
    go_wp2_with (refine wpList_append_lies _ rfl (.tmp 93) (.tmp 94) 33 rfl 0 44 i0 _ 4 40 Tryz.underlying33 II.out Z0.out Z1.out Z2.out rfl (by decide) u12 _ _ rfl G3.out ⟨ga,0,none⟩ _ _ _ rfl LN.out NEWS.out ONE.out (by omega) (by unfold maxLen; omega) (by omega) (by omega) _ rfl ?_; intro g6 cap6 w6 o1 o2 o3 _; have F6:=hide (FIN.out _ w6 (GR.out g6 cap6 w6 o1 o2 o3)); clear o1 o2 o3)
    exact ⟨F6.out,MEA⟩
end Go.Proofs.YtcbadebjpogmlaaGreatDoor
