import Derived.Test.YtcbadebjpogmlaaGreatDoorACm
import Derived.Test.YtcbadebjpogmlaaGreatDoorATx
import Derived.Test.YtcbadebjpogmlaaGreatDoorAPh
namespace Go.Proofs.YtcbadebjpogmlaaGreatDoor
open Go.RowKit Tr Go.Conc
theorem fRun_sh (xs:List Sg):∀(ts:List Tok) {s:Fw},OkL s.g.sh ts→(fRun xs s ts).g.sh=shRun s.g.sh ts
 | [],_,_=>rfl
 | t::r,s,h=>by
  show (fRun xs (fTake xs s t) r).g.sh=shRun (shTake s.g.sh t) r
  rw [← fTake_sh xs s h.1]
  exact fRun_sh xs r (by rw [fTake_sh xs s h.1]; exact h.2)
def stE (p:List UInt8):Nat:=(sRun sInit p).e
def stAt (p:List UInt8):Nat:=if stE p=0 then 0 else (sRun sInit p).z.at'
def stT (xs:List Sg) (p:List UInt8):List (Tv×Nat):=(fRun xs fInit (sRun sInit p).ts).told
def stN (xs:List Sg) (p q:List UInt8):List (Tv×Nat):=if stE p=0 then (fRun xs (noT (fRun xs fInit (sRun sInit p).ts)) (sRun (sRun sInit p).z q).ts).told else []
theorem stT_app (xs:List Sg) (p q:List UInt8):stT xs (p++q)=stT xs p++stN xs p q:=by
 unfold stT stN
 by_cases h:stE p=0
 ·rw [if_pos h,sRun_app p q sInit h]
  simp only
  rw [fRun_app]
  exact (fRun_no xs _ _).1
 rw [if_neg h,sRun_bad p q sInit h,List.append_nil]
theorem stE_app {p q:List UInt8} (h:stE p=0):stE (p++q)=(sRun (sRun sInit p).z q).e:=by unfold stE; rw [sRun_app p q sInit h]
theorem stE_bad {p:List UInt8} (q:List UInt8) (h:stE p≠0):stE (p++q)=stE p∧stAt (p++q)=stAt p:=by
 unfold stAt stE
 rw [sRun_bad p q sInit h]
 exact ⟨rfl,rfl⟩
theorem stN_nil (xs:List Sg) (p:List UInt8):stN xs p []=[]:=by
 unfold stN
 split
 ·rfl
 rfl
def ST (sb b:Nat) (tt:ByteArray) (xs:List Sg) (Dp:Nat→Prop) (H:Nat→Option Obj) (w:World) (Es:Nat→Prop) (p:List UInt8):Prop :=
 (stE p=0∧∃r f Er E,Blk w sb #[fvp r,fvp f,.int .i64 0,.int .i64 0] 135∧RZ w r Er (sRun sInit p).z∧FE b f tt xs Dp H w E (noT (fRun xs fInit (sRun sInit p).ts))∧(∀k,Er k→¬E k∧k≠sb)∧¬E sb∧∀k,Es k↔Er k∨E k∨k=sb) ∨
 (stE p≠0∧Blk w sb #[.pointer none,.pointer none,.int .i64 (stE p:Nat),.int .i64 (stAt p:Nat)] 135∧(∀k,Dp k∨gEN k→w.heap[k]?=H k∧k<w.heap.size∧k≠sb)∧∀k,Es k↔k=sb∨Dp k∨gEN k)
theorem ST.same {sb b:Nat} {tt:ByteArray} {xs:List Sg} {Dp:Nat→Prop} {H:Nat→Option Obj} {w:World} {Es:Nat→Prop} {p:List UInt8} (h:ST sb b tt xs Dp H w Es p) {k:Nat} (hk:Dp k∨gEN k):w.heap[k]?=H k∧Es k:=by
 rcases h with ⟨_,r,f,Er,E,h1,h2,h3,_,_,h6⟩ | ⟨_,h1,h3,h2⟩
 ·exact ⟨(h3.same hk).1,(h6 k).2 (Or.inr (Or.inl (h3.same hk).2))⟩
 exact ⟨(h3 k hk).1,(h2 k).2 (Or.inr hk)⟩
theorem ST.lt {sb b:Nat} {tt:ByteArray} {xs:List Sg} {Dp:Nat→Prop} {H:Nat→Option Obj} {w:World} {Es:Nat→Prop} {p:List UInt8} (h:ST sb b tt xs Dp H w Es p) {k:Nat} (hk:Es k):k<w.heap.size:=by
 rcases h with ⟨_,r,f,Er,E,h1,h2,h3,_,_,h6⟩ | ⟨_,h1,h3,h2⟩
 ·rcases (h6 k).1 hk with e | e | e
  ·exact h2.lt e
  ·exact h3.lt e
  rw [e]; exact h1.lt
 rcases (h2 k).1 hk with e | e
 ·rw [e]; exact h1.lt
 exact (h3 k e).2.1
theorem ST.keep {sb b:Nat} {tt:ByteArray} {xs:List Sg} {Dp:Nat→Prop} {H:Nat→Option Obj} (hx:xs.length≤10) (hsel:selN xs≤10) {w w':World} {Es:Nat→Prop} {p:List UInt8} (h:ST sb b tt xs Dp H w Es p) (s:Sm Es w w') (hz:w.heap.size≤w'.heap.size):ST sb b tt xs Dp H w' Es p:=by
 rcases h with ⟨h0,r,f,Er,E,h1,h2,h3,h4,h5,h6⟩ | ⟨h0,h1,h3,h2⟩
 ·exact Or.inl ⟨h0,r,f,Er,E,(s sb ((h6 sb).2 (Or.inr (Or.inr rfl)))).trans h1,h2.keep (fun k hk=>s k ((h6 k).2 (Or.inl hk))),h3.keep hx hsel (fun k hk=>s k ((h6 k).2 (Or.inr (Or.inl hk)))) hz,h4,h5,h6⟩
 exact Or.inr ⟨h0,(s sb ((h2 sb).2 (Or.inl rfl))).trans h1,fun k hk=>⟨(s k ((h2 k).2 (Or.inr hk))).trans (h3 k hk).1,Nat.lt_of_lt_of_le (h3 k hk).2.1 hz,(h3 k hk).2.2⟩,h2⟩
theorem st_new {sb b r f:Nat} {tt:ByteArray} {xs:List Sg} {Dp:Nat→Prop} {H:Nat→Option Obj} {w:World} {Er E:Nat→Prop} (h1:Blk w sb #[fvp r,fvp f,.int .i64 0,.int .i64 0] 135) (h2:RZ w r Er sInit) (h3:FE b f tt xs Dp H w E fInit) (h4:∀k,Er k→¬E k∧k≠sb) (h5:¬E sb):ST sb b tt xs Dp H w (fun k=>Er k∨E k∨k=sb) []:=Or.inl ⟨rfl,r,f,Er,E,h1,h2,h3,h4,h5,fun _=>Iff.rfl⟩
def SfP (sb b:Nat) (tt:ByteArray) (xs:List Sg) (Dp:Nat→Prop) (H:Nat→Option Obj) (Es:Nat→Prop) (p q:List UInt8) (w:World) (res:Ending) (w':World):Prop :=
 ∃sv Es',res=.returned (.tuple #[sv,.int .i64 (stE (p++q):Nat),.int .i64 (stAt (p++q):Nat)])∧ST sb b tt xs Dp H w' Es' (p++q)∧w'.ownsRow 0 44 4 sv (stN xs p q).length ((stN xs p q).flatMap tcl)∧(∀k,sv.ownBlock=some k→¬Es' k∧(Es k∨w.heap.size≤k))∧(∀k,Es' k→Es k∨w.heap.size≤k)∧Fr Es w w'
theorem st_feed {sb b:Nat} {tt:ByteArray} {xs:List Sg} {Dp:Nat→Prop} {H:Nat→Option Obj} (hx:xs.length≤10) (hsel:selN xs≤10) (hpos:∀g ∈ xs,0<g.l.length) {w:World} {Es:Nat→Prop} {p:List UInt8} (h:ST sb b tt xs Dp H w Es p) (q:ByteArray) (hl:p.length+q.size≤4000000) :
 Calls Tryz.prog 38 #[fvp sb,.string q] w (SfP sb b tt xs Dp H Es p (bs q) w):=by
 have hlen:(bs q).length=q.size:=bs_len q
 rcases h with ⟨h0,r,f,Er,E,h1,h2,h3,h4,h5,h6⟩ | ⟨h0,h1,h3,h2⟩
 ·have R:=run_ok' p sInit_ok.1 sInit_ok.2 (by simp [sInit]) (by simp [sInit]; omega)
  obtain ⟨r1,r2,r3,r4⟩:=R.ok h0
  have hat:(sRun sInit p).z.at'=p.length:=by simpa [sInit] using r3
  have htx:(sRun sInit p).z.tx.length≤p.length:=by have:=R.tx; simpa [sInit] using this
  have hsh:(noT (fRun xs fInit (sRun sInit p).ts)).g.sh=shRun ⟨[],0⟩ (sRun sInit p).ts:=fRun_sh xs (sRun sInit p).ts (s:=fInit) R.tok
  have hwd:=(run_room p sInit_ok.1 sInit_ok.2 (by simp [sInit]) (by simp [sInit]; omega) (fun y=>by simp [sInit] at y)).2
  have X:=run_tt (p++bs q) sInit 4000000 (by simp [sInit,hlen]; omega) (by simp [sInit])
  rw [sRun_app p (bs q) sInit h0] at X
  refine (s_feed hx hsel hpos h1 h2 h3 h4 h5 q r1 (by rw [hsh]; exact r4) r2 hwd (by omega) (by omega) (fun t ht=>X.1 t (List.mem_append_right _ ht))).mono ?_
  rintro res w' ⟨sv,rfl,g1,g2,g3,gs,g4,g5⟩
  have eE:stE (p++bs q)=(sRun (sRun sInit p).z (bs q)).e:=stE_app h0
  have eA:stAt (p++bs q)=if (sRun (sRun sInit p).z (bs q)).e=0 then 0 else (sRun (sRun sInit p).z (bs q)).z.at':=by unfold stAt; rw [eE,sRun_app p (bs q) sInit h0]
  have eN:stN xs p (bs q)=(fRun xs (noT (fRun xs fInit (sRun sInit p).ts)) (sRun (sRun sInit p).z (bs q)).ts).told:=by unfold stN; rw [if_pos h0]
  have hsbE:Es sb:=(h6 sb).2 (Or.inr (Or.inr rfl))
  by_cases he:(sRun (sRun sInit p).z (bs q)).e=0
  ·obtain ⟨Er',E',k1,k2,k3,k4,k5,k6,k7,k8⟩:=g4 he
   refine ⟨sv,fun k=>Er' k∨E' k∨k=sb,by rw [eE,eA],Or.inl ⟨by rw [eE]; exact he,r,f,Er',E',k3,?_,?_,k4,k5,fun _=>Iff.rfl⟩,by rw [eN]; exact g1,fun k hk=>⟨fun y=>?_,?_⟩,fun k hk=>?_,g3.mono (fun k _ y=>(h6 k).2 y)⟩
   ·rw [sRun_app p (bs q) sInit h0]; exact k1
   ·rw [sRun_app p (bs q) sInit h0]
    simp only
    rw [fRun_app,(fRun_no xs _ _).2]
    exact k2
   ·rcases y with y | y | y
    ·exact (k6 k hk).2 y
    ·exact (k6 k hk).1 y
    exact (g2 k hk).1.1 y
   ·exact (g2 k hk).2.imp (fun y=>(h6 k).2 (Or.inr (Or.inl y))) id
   rcases hk with y | y | y
   ·exact (k7 k y).imp (fun u=>(h6 k).2 (Or.inl u)) id
   ·exact (k8 k y).imp (fun u=>(h6 k).2 (Or.inr (Or.inl u))) id
   exact Or.inl (y▸hsbE)
  refine ⟨sv,fun k=>k=sb∨Dp k∨gEN k,by rw [eE,eA],Or.inr ⟨by rw [eE]; exact he,?_,fun k hk=>⟨gs k hk,?_,fun y=>h5 (y▸(h3.same hk).2)⟩,fun _=>Iff.rfl⟩,by rw [eN]; exact g1,fun k hk=>⟨fun y=>?_,(g2 k hk).2.imp (fun y=>(h6 k).2 (Or.inr (Or.inl y))) id⟩,fun k hk=>Or.inl ?_,g3.mono (fun k _ y=>(h6 k).2 y)⟩
  ·have:=g5 he
   rw [eE,eA,if_neg he]; exact this
  ·exact Nat.lt_of_lt_of_le (h3.lt (h3.same hk).2) g3.size
  ·rcases y with y | y
   ·exact (g2 k hk).1.1 y
   exact (g2 k hk).1.2 y
  rcases hk with y | y
  ·exact y▸hsbE
  exact (h6 k).2 (Or.inr (Or.inl (h3.same y).2))
 obtain ⟨e1,e2⟩:=stE_bad (bs q) h0
 refine (s_feed0 h1 h0 q).mono ?_
 rintro res w' ⟨rfl,g1,g2⟩
 have eN:stN xs p (bs q)=[]:=by unfold stN; rw [if_neg h0]
 exact ⟨.slice none 0 0,Es,by rw [e1,e2],Or.inr ⟨by rw [e1]; exact h0,by rw [e1,e2]; exact g1,fun k hk=>⟨(g2.block k (h3 k hk).2.1 (h3 k hk).2.2).trans (h3 k hk).1,Nat.lt_of_lt_of_le (h3 k hk).2.1 g2.size,(h3 k hk).2.2⟩,h2⟩,by rw [eN]; exact ⟨rfl,Or.inl ⟨rfl,rfl⟩⟩,fun k hk=>(by cases hk),fun k hk=>Or.inl hk,g2.mono (fun k _ y=>(h2 k).2 (Or.inl y))⟩
end Go.Proofs.YtcbadebjpogmlaaGreatDoor
namespace Go.Proofs.YtcbadebjpogmlaaGreatDoor
open Go.RowKit Tr Go.Conc
theorem ext_split (q:ByteArray) (n:Nat):bs (q.extract 0 n)++bs (q.extract n q.size)=bs q:=by
 rw [bs_extract,bs_extract]
 unfold sub
 rw [List.drop_zero,Nat.sub_zero,List.take_of_length_le (l:=(bs q).drop n) (by simp [bs_len])]
 exact List.take_append_drop _ _
structure FdI (w:World) (sb b:Nat) (tt:ByteArray) (xs:List Sg) (Dp:Nat→Prop) (p:List UInt8) (av:Value) (wr:World):Prop where
 ex:∃Es,ST sb b tt xs Dp (fun k=>w.heap[k]?) wr Es p∧(∀k,Es k→(Dp k∨gEN k)∨w.heap.size≤k)∧wr.ownsRow 0 44 4 av (stT xs p).length ((stT xs p).flatMap tcl)∧∀k,av.ownBlock=some k→w.heap.size≤k∧¬Es k
 k:Keeps w wr
theorem fd_feed {w:World} {sb b:Nat} {tt:ByteArray} {xs:List Sg} {Dp:Nat→Prop} (hx:xs.length≤10) (hsel:selN xs≤10) (hpos:∀g ∈ xs,0<g.l.length) {p:List UInt8} {av:Value} {wr:World} (h:FdI w sb b tt xs Dp p av wr) (q:ByteArray) (hl:p.length+q.size≤4000000) :
 Calls Tryz.prog 38 #[fvp sb,.string q] wr fun res w'=>∃sv,res=.returned (.tuple #[sv,.int .i64 (stE (p++bs q):Nat),.int .i64 (stAt (p++bs q):Nat)])∧w'.ownsRow 0 44 4 sv (stN xs p (bs q)).length ((stN xs p (bs q)).flatMap tcl)∧Keeps w w'∧w'.ownsRow 0 44 4 av (stT xs p).length ((stT xs p).flatMap tcl) ∧
  ∃Es,ST sb b tt xs Dp (fun k=>w.heap[k]?) w' Es (p++bs q)∧(∀k,Es k→(Dp k∨gEN k)∨w.heap.size≤k)∧(∀k,sv.ownBlock=some k→¬Es k∧av.ownBlock≠some k∧w.heap.size≤k)∧∀k,av.ownBlock=some k→w.heap.size≤k∧¬Es k:=by
 obtain ⟨Es,h1,h2,h3,h4⟩:=h.ex
 refine (st_feed hx hsel hpos h1 q hl).mono ?_
 rintro res w' ⟨sv,Es',rfl,g1,g2,g3,g4,g5⟩
 have hz:=h.k.size
 have K:Keeps w w':=by
  refine ⟨g5.os.trans h.k.os,g5.tape.trans h.k.tape,g5.output.trans h.k.output,Nat.le_trans h.k.size g5.size,fun k hk _=>?_⟩
  by_cases he:Es k
  ·rcases h2 k he with y | y
   ·exact (g1.same y).1
   omega
  rw [g5.block k (by omega) he]; exact h.k.block k hk id
 have nE:∀k,Es' k→(Dp k∨gEN k)∨w.heap.size≤k:=fun k hk=>by
  rcases g4 k hk with y | y
  ·exact h2 k y
  exact Or.inr (by omega)
 have avE:∀k,av.ownBlock=some k→¬Es' k:=fun k hk y=>by
  rcases g4 k y with u | u
  ·exact (h4 k hk).2 u
  have:=(h3.lt k hk).2; omega
 refine ⟨sv,rfl,g2,K,own_at' h3 (fun k hk=>g5.block k (h3.lt k hk).2 (h4 k hk).2),Es',g1,nE,fun k hk=>⟨(g3 k hk).1,fun y=>?_,?_⟩,fun k hk=>⟨(h4 k hk).1,avE k hk⟩⟩
 ·rcases (g3 k hk).2 with u | u
  ·exact (h4 k y).2 u
  have:=(h3.lt k y).2; omega
 rcases (g3 k hk).2 with u | u
 ·rcases h2 k u with v | v
  ·exact absurd (g1.same v).2 (g3 k hk).1
  exact v
 omega
theorem fOk_run {xs:List Sg} (hx:∀g ∈ xs,0<g.l.length):∀(ts:List Tok) {s:Fw},FOk xs s→OkL s.g.sh ts→FOk xs (fRun xs s ts)
 | [],_,h,_=>h
 | t::r,s,h,ho=>by
  show FOk xs (fRun xs (fTake xs s t) r)
  exact fOk_run hx r (fOk_take hx h ho.1) (by rw [fTake_sh xs s ho.1]; exact ho.2)
theorem shRun_bd:∀(ts:List Tok) {s:Sh},s.bd≤4000000→OkL s ts→(shRun s ts).bd≤4000000
 | [],_,h,_=>h
 | t::r,s,h,ho=>by
  show (shRun (shTake s t) r).bd≤4000000
  refine shRun_bd r ?_ ho.2
  unfold shTake
  have:=ho.1.frm
  repeat' split
  all_goals first | (simp only; omega) | omega
theorem stT_len (xs:List Sg) (hx:∀g ∈ xs,0<g.l.length) (p:List UInt8) (hp:p.length≤4000000):(stT xs p).length≤4000000:=by
 have R:=run_ok' p sInit_ok.1 sInit_ok.2 (by simp [sInit]) (by simp [sInit]; omega)
 have F:=(fOk_run hx (sRun sInit p).ts (fInit_ok xs) R.tok).n
 have e:=fRun_sh xs (sRun sInit p).ts (s:=fInit) R.tok
 have B:(fRun xs fInit (sRun sInit p).ts).g.bd≤4000000:=by
  have:=shRun_bd (sRun sInit p).ts (s:=⟨[],0⟩) (by simp) R.tok
  have e2:(fRun xs fInit (sRun sInit p).ts).g.sh.bd=(shRun ⟨[],0⟩ (sRun sInit p).ts).bd:=by rw [e]; rfl
  have e3:(fRun xs fInit (sRun sInit p).ts).g.sh.bd=(fRun xs fInit (sRun sInit p).ts).g.bd:=rfl
  omega
 unfold stT
 omega
theorem fd_empty {w:World} {sb b:Nat} {tt:ByteArray} {xs:List Sg} {Dp:Nat→Prop} (hx:xs.length≤10) (hsel:selN xs≤10) (hpos:∀g ∈ xs,0<g.l.length) {p:List UInt8} {av:Value} {wr:World} (h:FdI w sb b tt xs Dp p av wr) (hl:p.length≤4000000) :
 Calls Tryz.prog 38 #[.pointer (some ⟨sb,0,none⟩),.string ⟨#[]⟩] wr fun res w'=>∃a c,res=.returned (.tuple #[.slice a 0 c,.int .i64 (stE p:Nat),.int .i64 (stAt p:Nat)])∧FdI w sb b tt xs Dp p av w':=by
 refine (fd_feed hx hsel hpos h ⟨#[]⟩ hl).mono ?_
 rintro res w' ⟨sv,rfl,g1,g2,g3,Es,g4,g5,_,g7⟩
 have e0:p++bs ⟨#[]⟩=p:=List.append_nil p
 rw [e0] at g4 ⊢
 have e1:stN xs p (bs ⟨#[]⟩)=[]:=stN_nil xs p
 rw [e1] at g1
 obtain ⟨a,c,rfl⟩:=own_slice g1
 exact ⟨a,c,rfl,⟨Es,g4,g5,g3,g7⟩,g2⟩
theorem app_none {w:World} {av:Value} {n:Nat} {cells:List Value} (h:w.ownsRow 0 44 4 av n cells) (ty:TypeId) (a:Option Addr) (c:Nat):(Builtin.append_ #[33,33] ty #[av,.slice a 0 c]).run Tryz.prog w=.ok av w:=by
 obtain ⟨i0,hi,_,_,_⟩:=info_parts infoMatch
 rcases h.2 with ⟨rfl,rfl⟩ | ⟨g,cap,cur,rfl,_,_,hnc,_⟩
 ·cases a<;>simp [Builtin.append_,run_underlying Tryz.underlying33,sizeOf,typeInfo,hi,Builtin.lenOf,Builtin.firstCells,loadCells,loadCellsFrom]
 cases a<;>simp [Builtin.append_,run_underlying Tryz.underlying33,sizeOf,typeInfo,hi,Builtin.lenOf,Builtin.firstCells,hnc,storeCells,loadCells,loadCellsFrom]
theorem wpList_app0 {ops:Array Oper} {rest:List Oper} {o:Oper} {a:Act} {w:World} {Q:Exit→Act→World→Prop} (hgd:o.guard=none) (s x:Operand) (ho:o.op=.call { callee:=.builtin .append,args:=#[s,x],argTypes:=#[33,33] }) (av:Value) (n:Nat) (cells:List Value) (hs:a.eval s=av) (hown:w.ownsRow 0 44 4 av n cells) (sa:Option Addr) (sc:Nat) (hx:a.eval x=.slice sa 0 sc) (h:wpList Tryz.prog ops Q rest (a.put o.dst av) w):wpList Tryz.prog ops Q (o::rest) a w :=
 wpList_plain hgd fun _ hK=>by
  unfold Oper.wp execOp
  have:=fun ty=>app_none hown ty sa sc
  simp only [ho,resolve,invoke,builtin,Sem.run_bind,Sem.run_pure,Result.andThen_ok,List.map_toArray,List.map_cons,List.map_nil,hs,hx,this]
  exact hK _ _ h
theorem fd_grown {w:World} {sb b:Nat} {tt:ByteArray} {xs:List Sg} {Dp:Nat→Prop} (hx:xs.length≤10) (hsel:selN xs≤10) {p q:List UInt8} {av:Value} {w2:World} {Es:Nat→Prop} (K:Keeps w w2) (hS:ST sb b tt xs Dp (fun k=>w.heap[k]?) w2 Es (p++q)) (nE:∀k,Es k→(Dp k∨gEN k)∨w.heap.size≤k) (avE:∀k,av.ownBlock=some k→w.heap.size≤k∧¬Es k) {g cap:Nat} {w3:World}
 (ho:w3.ownsRow 0 44 4 (.slice (some ⟨g,0,none⟩) ((stT xs p).length+(stN xs p q).length) cap) ((stT xs p).length+(stN xs p q).length) ((stT xs p).flatMap tcl++(stN xs p q).flatMap tcl)) (hg:w2.grownBy w3 av.ownBlock) (hat:av.ownBlock=some g∨g=w2.heap.size):FdI w sb b tt xs Dp (p++q) (.slice (some ⟨g,0,none⟩) ((stT xs p).length+(stN xs p q).length) cap) w3:=by
 have hz:=K.size
 refine ⟨⟨Es,hS.keep hx hsel (fun k hk=>hg.block k (hS.lt hk) (fun e=>(avE k e.symm).2 hk)) hg.size,nE,?_,fun k hk=>?_⟩,?_⟩
 ·rw [stT_app,List.length_append,List.flatMap_append]; exact ho
 ·have e:g=k:=Option.some.inj hk
  subst e
  rcases hat with e | e
  ·exact avE g e
  exact ⟨by omega,fun y=>by have:=hS.lt y; omega⟩
 exact ⟨hg.os.trans K.os,hg.tape.trans K.tape,hg.output.trans K.output,Nat.le_trans K.size hg.size,fun k hk _=>by
  rw [hg.block k (by omega) (fun e=>by have:=(avE k e.symm).1; omega)]; exact K.block k hk id⟩
theorem tcl_one (l:List (Tv×Nat)):∀u ∈ l.flatMap tcl,u.oneCell'=true:=fun u hu=>by
 obtain ⟨p,_,h⟩:=List.mem_flatMap.1 hu
 simp only [tcl,mtCells,List.mem_cons,List.not_mem_nil,or_false] at h
 rcases h with rfl | rfl | rfl | rfl<;>rfl
end Go.Proofs.YtcbadebjpogmlaaGreatDoor
namespace Go.Proofs.YtcbadebjpogmlaaGreatDoor
open Go.RowKit Tr Go.Conc
structure QH (w:World) (gq:Nat) (xs:List Sg):Prop where
 ex:∃b tt Dp,Blk w gq #[fvp b] 77∧OkD Dp w (fun w=>PlanV w b tt xs)∧∀k,Dp k→k<w.heap.size
 pos:∀g ∈ xs,0<g.l.length
 sel:selN xs≤10
theorem QH.len {w:World} {gq:Nat} {xs:List Sg} (h:QH w gq xs):xs.length≤10:=Nat.le_trans (len_sel xs h.pos) h.sel
theorem QH.keep {w w':World} {gq:Nat} {xs:List Sg} (h:QH w gq xs) (k:Keeps w w'):QH w' gq xs:=by
 obtain ⟨b,tt,Dp,h1,h2,h3⟩:=h.ex
 exact ⟨⟨b,tt,Dp,h1.fr k id,h2.keep (fun j hj=>k.block j (h3 j hj) id),fun j hj=>Nat.lt_of_lt_of_le (h3 j hj) k.size⟩,h.pos,h.sel⟩
theorem qh_of {w:World} {gq:Nat} {tt:ByteArray} {s:List UInt8} (h:QryV w gq tt (pQuery s)) (hs:selN (pQuery s)≤10):QH w gq (pQuery s):=by
 obtain ⟨b,D,h1,h2⟩:=h
 exact ⟨⟨b,tt,D,(h2.self).1,fun w' s=>(h2 w' s).2,fun k hk=>h1.lt hk⟩,query_len s,hs⟩
theorem m_right {w:World} {s:ByteArray} (he:EV w) (hs:s.size≤120) (hf:FinP (bs s)) (hc:C (bs s) (s.size+1)≤10):Calls Tryz.prog 26 #[.string s] w fun r w'=>∃gq,r=.returned (.tuple #[.pointer (some ⟨gq,0,none⟩),.int .i64 0,.int .i64 0])∧QH w' gq (pQuery (bs s))∧Keeps w w':=by
 refine (m_comp (by unfold maxLen; omega) he).mono ?_
 rintro r w' ⟨k,h | h | h | h⟩
 ·omega
 ·obtain ⟨_,e,p,h1,_⟩:=h
  exact (h1.notFin hf).elim
 ·omega
 obtain ⟨_,_,_,gq,tt,rfl,h1,_,h3⟩:=h
 exact ⟨gq,rfl,qh_of h1 h3,k⟩
theorem q_select {w:World} {gq:Nat} {xs:List Sg} (h:QH w gq xs) (he:EN w) (s:ByteArray) (hs:s.size≤1100000):Calls Tryz.prog 18 #[.pointer (some ⟨gq,0,none⟩),.string s] w (SelP s xs w):=by
 obtain ⟨b,tt,Dp,h1,h2,h3⟩:=h.ex
 exact p_select h1 (fun w' k=>h2 w' (fun j hj=>k.block j (h3 j hj) id)) he h.pos h.sel s hs
end Go.Proofs.YtcbadebjpogmlaaGreatDoor
namespace Go.Proofs.YtcbadebjpogmlaaGreatDoor
open Go.RowKit Tr Go.Conc
def hq1:ByteArray:=⟨#[36,46,46,97]⟩
def hx1:ByteArray:=⟨#[123,34,97,34,58,91,49,44,123,34,97,34,58,50,125,93,125]⟩
def hq2:ByteArray:=⟨#[36,91,63,64,46,120,60,61,50,38,38,33,64,46,121,93]⟩
def hx2:ByteArray:=⟨#[91,123,34,120,34,58,50,125,44,123,34,120,34,58,49,44,34,121,34,58,48,125,44,123,34,120,34,58,51,125,93]⟩
def hq3:ByteArray:=⟨#[36,91,42,93,91,45,49,93]⟩
def hp1:ByteArray:=⟨#[91,91,49,44,50,93,44,91,51]⟩
def hp2:ByteArray:=⟨#[93,93]⟩
set_option maxRecDepth 100000
theorem fin1:FinP (bs hq1)∧C (bs hq1) (hq1.size+1)≤10:=by unfold FinP; decide +kernel
theorem fin2:FinP (bs hq2)∧C (bs hq2) (hq2.size+1)≤10:=by unfold FinP; decide +kernel
theorem fin3:FinP (bs hq3)∧C (bs hq3) (hq3.size+1)≤10:=by unfold FinP; decide +kernel
def ndP (v:Tv):List UInt8×Nat×Nat:=(v.d.path,v.d.frm,v.d.to)
def ndC (p:List UInt8×Nat×Nat):List Value:=[.string (bsb p.1),.int .i64 (p.2.1:Nat),.int .i64 (p.2.2:Nat)]
theorem nd_map (l:List Tv):l.flatMap ndCells=(l.map ndP).flatMap ndC:=by rw [List.flatMap_map]; rfl
theorem ok1:txErr (bs hx1)=0∧(txVal (bs hx1)).map (fun t=>(nodesS (pQuery (bs hq1)) [t]).map ndP)=some [([36,91,39,97,39,93],5,16),([36,91,39,97,39,93,91,49,93,91,39,97,39,93],13,14)]:=by decide +kernel
theorem ok2:txErr (bs hx2)=0∧(txVal (bs hx2)).map (fun t=>(nodesS (pQuery (bs hq2)) [t]).map ndP)=some [([36,91,48,93],1,8)]:=by decide +kernel
def tkP (p:Tv×Nat):List UInt8×Nat×Nat×Nat:=(p.1.d.path,p.1.d.frm,p.1.d.to,p.2)
def tkC (p:List UInt8×Nat×Nat×Nat):List Value:=mtCells p.1 p.2.1 p.2.2.1 p.2.2.2
theorem tk_map (l:List (Tv×Nat)):l.flatMap tcl=(l.map tkP).flatMap tkC:=by rw [List.flatMap_map]; rfl
theorem ok3:stE (bs hp1)=0∧(stN (pQuery (bs hq3)) [] (bs hp1)).map tkP=[([36,91,48,93,91,49,93],4,5,1)]∧stE (bs hp1++bs hp2)=0∧(stN (pQuery (bs hq3)) (bs hp1) (bs hp2)).map tkP=[([36,91,49,93,91,48,93],8,9,1)]:=by decide +kernel
theorem stood:Tryz.prog.stoodInHeld 42=false:=by kernel_rfl
theorem sel_known {w w':World} {s:ByteArray} {xs:List Sg} {r:Ending} (h:SelP s xs w r w') (h0:txErr (bs s)=0) {l:List (List UInt8×Nat×Nat)} (h1:(txVal (bs s)).map (fun t=>(nodesS xs [t]).map ndP)=some l) (hl:0<l.length):∃g cap,r=.returned (.tuple #[.slice (some ⟨g,0,none⟩) l.length cap,.int .i64 0,.int .i64 0])∧(∀j,j<l.length * 3→w'.cell? ⟨g,j,none⟩=(l.flatMap ndC)[j]?)∧Keeps w w':=by
 obtain ⟨k,h | h⟩:=h
 ·exact absurd h0 h.1
 obtain ⟨_,t,sv,ht,rfl,ho⟩:=h
 rw [ht] at h1
 have e:(nodesS xs [t]).map ndP=l:=Option.some.inj h1
 have el:(nodesS xs [t]).length=l.length:=by rw [← e,List.length_map]
 rw [nd_map,e,el] at ho
 obtain ⟨g,cap,rfl,_,_⟩:=ho.form hl
 exact ⟨g,cap,rfl,fun j hj=>ho.cellAt j hj,k⟩
theorem told_known {w':World} {sv:Value} {n:Nat} {tl:List (Tv×Nat)} (ho:w'.ownsRow 0 44 4 sv n (tl.flatMap tcl)) (hn:n=tl.length) {l:List (List UInt8×Nat×Nat×Nat)} (h1:tl.map tkP=l) (hl:0<l.length):∃g cap,sv=.slice (some ⟨g,0,none⟩) l.length cap∧∀j,j<l.length * 4→w'.cell? ⟨g,j,none⟩=(l.flatMap tkC)[j]?:=by
 have el:n=l.length:=by rw [hn,← h1,List.length_map]
 subst el
 rw [tk_map,h1] at ho
 obtain ⟨g,cap,rfl,_,_⟩:=ho.form hl
 exact ⟨g,cap,rfl,fun j hj=>ho.cellAt j hj⟩
set_option maxHeartbeats 8000000 in
theorem p_head {w:World} (he:EN w):Calls Tryz.prog 25 #[] w fun r w'=>r=.returned (.bool true)∧Keeps w w':=by
 have HE:=hide he
 have hst:=stood
 clear he
 go_enter Tryz.func25,Tryz.ntmps25
 go_wp2_with fail
 refine (m_right (s:=hq1) HE.out.ev (by decide) fin1.1 fin1.2).mono ?_
 rintro r w1 ⟨gq,rfl,hQ,k1⟩
 have E1:=hide (HE.out.keep k1)
 have SEL:=hide (q_select hQ E1.out hx1 (by decide))
 have K1:=hide k1
 clear hQ k1
 go_wp2_with fail
 refine SEL.out.mono ?_
 intro r w2 hs2
 obtain ⟨g2,cap2,rfl,c2,k2⟩:=sel_known hs2 ok1.1 ok1.2 (by decide)
 have d0:w2.cell? ⟨g2,0,none⟩=some (.string ⟨#[36,91,39,97,39,93]⟩):=c2 0 (by decide)
 have d1:w2.cell? ⟨g2,1,none⟩=some (.int .i64 5):=c2 1 (by decide)
 have d2:w2.cell? ⟨g2,2,none⟩=some (.int .i64 16):=c2 2 (by decide)
 have d3:w2.cell? ⟨g2,3,none⟩=some (.string ⟨#[36,91,39,97,39,93,91,49,93,91,39,97,39,93]⟩):=c2 3 (by decide)
 have d4:w2.cell? ⟨g2,4,none⟩=some (.int .i64 13):=c2 4 (by decide)
 have d5:w2.cell? ⟨g2,5,none⟩=some (.int .i64 14):=c2 5 (by decide)
 have E2:=hide (E1.out.keep k2)
 have K2:=hide (K1.out.trans k2)
 clear hs2 c2 k2 E1 K1 SEL
 go_wp2_with fail
 refine (m_right (s:=hq2) E2.out.ev (by decide) fin2.1 fin2.2).mono ?_
 rintro r w3 ⟨gq3,rfl,hQ,k3⟩
 have E3:=hide (E2.out.keep k3)
 have SEL:=hide (q_select hQ E3.out hx2 (by decide))
 have K3:=hide (K2.out.trans k3)
 clear hQ k3 d0 d1 d2 d3 d4 d5 E2 K2
 go_wp2_with fail
 refine SEL.out.mono ?_
 intro r w4 hs2
 obtain ⟨g4,cap4,rfl,c2,k4⟩:=sel_known hs2 ok2.1 ok2.2 (by decide)
 have d0:w4.cell? ⟨g4,0,none⟩=some (.string ⟨#[36,91,48,93]⟩):=c2 0 (by decide)
 have E4:=hide (E3.out.keep k4)
 have K4:=hide (K3.out.trans k4)
 clear hs2 c2 k4 E3 K3 SEL
 go_wp2_with fail
 refine (m_right (s:=hq3) E4.out.ev (by decide) fin3.1 fin3.2).mono ?_
 rintro r w5 ⟨gq5,rfl,hQ,k5⟩
 have E5:=hide (E4.out.keep k5)
 have K5:=hide (K4.out.trans k5)
 have STR:Hid (Calls Tryz.prog 37 #[.pointer (some ⟨gq5,0,none⟩)] w5 fun r w'=>∃sb b tt Dp,r=.returned (.pointer (some ⟨sb,0,none⟩))∧FdI w5 sb b tt (pQuery (bs hq3)) Dp [] (.slice none 0 0) w'):=by
  obtain ⟨b,tt,Dp,h1,h2,h3⟩:=hQ.ex
  refine (s_stream h1 h2 h3 E5.out).mono ?_
  rintro res w' ⟨sb,r,f,Er,E,rfl,h1,h2,h3,h4,h5,h6,h7,h8,h9⟩
  refine ⟨sb,b,tt,Dp,rfl,⟨⟨_,st_new h1 h2 h3 h4 h5,fun k hk=>?_,⟨rfl,Or.inl ⟨rfl,rfl⟩⟩,fun k hk=>(by cases hk)⟩,h9⟩⟩
  rcases hk with y | y | y
  ·exact Or.inr (h7 k y)
  ·rcases h8 k y with u | u | u
   ·exact Or.inl (Or.inl u)
   ·exact Or.inl (Or.inr u)
   exact Or.inr u
  exact Or.inr (y▸h6)
 have HX:=hide (And.intro hQ.len (And.intro hQ.sel hQ.pos))
 clear hQ k5 d0 E4 K4
 go_wp2_with fail
 refine STR.out.mono ?_
 rintro r w6 ⟨sb,b,tt,Dp,rfl,hF⟩
 have FD:=hide (fd_feed HX.out.1 HX.out.2.1 HX.out.2.2 hF hp1 (by decide))
 clear hF STR
 go_wp2_with fail
 refine FD.out.mono ?_
 rintro r w7 ⟨sv,rfl,g1,g2,g3,Es,g4,g5,g6,g7⟩
 have eT:stT (pQuery (bs hq3)) ([]++bs hp1)=stN (pQuery (bs hq3)) [] (bs hp1):=by rw [stT_app]; rfl
 have F7:FdI w5 sb b tt (pQuery (bs hq3)) Dp ([]++bs hp1) sv w7:=⟨⟨Es,g4,g5,by rw [eT]; exact g1,fun k hk=>⟨(g6 k hk).2.2,(g6 k hk).1⟩⟩,g2⟩
 have FD2:=hide (fd_feed HX.out.1 HX.out.2.1 HX.out.2.2 F7 hp2 (by decide))
 have z1:stE ([]++bs hp1)=0:=ok3.1
 rw [z1]
 generalize hat1:stAt ([]++bs hp1)=at1
 clear g1 g2 g3 g4 g5 g6 g7 F7 FD hat1
 go_wp2_with fail
 refine FD2.out.mono ?_
 rintro r w8 ⟨sv8,rfl,g1,g2,g3,Es8,g4,g5,g6,g7⟩
 rw [eT] at g3
 obtain ⟨ga,ca,rfl,da⟩:=told_known g3 rfl ok3.2.1 (by decide)
 obtain ⟨gb,cb,rfl,db⟩:=told_known g1 rfl ok3.2.2.2 (by decide)
 have z2:stE ([]++bs hp1++bs hp2)=0:=ok3.2.2.1
 rw [z2]
 generalize hat2:stAt ([]++bs hp1++bs hp2)=at2
 have d0:w8.cell? ⟨ga,0,none⟩=some (.string ⟨#[36,91,48,93,91,49,93]⟩):=da 0 (by decide)
 have d3:w8.cell? ⟨ga,3,none⟩=some (.int .i64 1):=da 3 (by decide)
 have d4:w8.cell? ⟨gb,0,none⟩=some (.string ⟨#[36,91,49,93,91,48,93]⟩):=db 0 (by decide)
 have KF:=hide (K5.out.trans g2)
 clear g1 g2 g3 g4 g5 g6 g7 da db FD2 eT z1 z2 HX E5 K5 hat2
 go_wp2
 go_ret
 exact ⟨rfl,KF.out⟩
end Go.Proofs.YtcbadebjpogmlaaGreatDoor
namespace Go.Proofs.YtcbadebjpogmlaaGreatDoor
open Go.RowKit Tr Go.Conc
set_option maxRecDepth 100000 in
set_option maxHeartbeats 2000000 in
theorem p_compiled {w:World} (he:EN w) {s:ByteArray} (hs:s.size≤120) (hf:FinP (bs s)) (hc:C (bs s) (s.size+1)≤10):Calls Tryz.prog 15 #[.string s] w fun r w'=>∃gq,r=.returned (.pointer (some ⟨gq,0,none⟩))∧QH w' gq (pQuery (bs s))∧Keeps w w':=by
 have HE:=hide he
 have FC:=hide (And.intro hf hc)
 clear he hf hc
 go_enter Tryz.func15,Tryz.ntmps15
 go_wp2_with fail
 refine (p_head HE.out).mono ?_
 rintro r w1 ⟨rfl,k1⟩
 have K1:=hide k1
 clear k1
 go_wp2_with fail
 refine (m_right (HE.out.keep K1.out).ev hs FC.out.1 FC.out.2).mono ?_
 rintro r w2 ⟨gq,rfl,hQ,k2⟩
 have HQ:=hide hQ
 have K2:=hide (K1.out.trans k2)
 clear hQ k2
 go_wp2
 go_ret
 exact ⟨gq,rfl,HQ.out,K2.out⟩
end Go.Proofs.YtcbadebjpogmlaaGreatDoor
