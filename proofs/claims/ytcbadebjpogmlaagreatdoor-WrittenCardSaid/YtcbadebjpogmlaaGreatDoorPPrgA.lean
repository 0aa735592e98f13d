import Derived.Test.YtcbadebjpogmlaaGreatDoorPBase
import Derived.Test.YtcbadebjpogmlaaGreatDoorPPlain
namespace Go.Proofs.YtcbadebjpogmlaaGreatDoor
open Go.RowKit Tr
def kindN (c:Nat):Nat:=if isLet c=true then 1 else if c=48 then 2 else if isDig c=true then 3 else if c=32 then 4 else 0
set_option maxHeartbeats 400000 in
theorem c_kindOf {w:World} (c:Nat) (hc:c<256) :
 Calls Tryz.prog 147 #[.int .u8 (c:Int)] w fun r w'=>r=.returned (.int .i64 (kindN c:Nat))∧w'=w:=by
 by_cases h1:isLet c=true
 ·have e:kindN c=1:=by simp [kindN,h1]
  rw [e]
  simp [isLet] at h1
  have d1:(97:Int)≤(c:Int):=by omega
  have d2:(c:Int)≤122:=by omega
  clear e h1
  go_enter Tryz.func147,Tryz.ntmps147
  go_wp2
  go_ret
  exact ⟨rfl,rfl⟩
 by_cases h2:c=48
 ·subst h2
  have e:kindN 48=2:=rfl
  rw [e]
  clear e h1
  go_enter Tryz.func147,Tryz.ntmps147
  go_wp2
  go_ret
  exact ⟨rfl,rfl⟩
 by_cases h3:isDig c=true
 ·have e:kindN c=3:=by simp [kindN,h1,h2,h3]
  rw [e]
  simp [isDig] at h3
  have d1:¬(97:Int)≤(c:Int):=by omega
  have d2:decide ((97:Int)≤(c:Int))=false:=by simpa using d1
  have d3:((c:Int) == 48)=false:=by rw [beq_eq_false_iff_ne]; omega
  have d4:(49:Int)≤(c:Int):=by omega
  have d5:(c:Int)≤57:=by omega
  clear e h1 h2 h3
  go_enter Tryz.func147,Tryz.ntmps147
  go_wp2
  go_ret
  exact ⟨rfl,rfl⟩
 by_cases h4:c=32
 ·subst h4
  have e:kindN 32=4:=rfl
  rw [e]
  clear e h1 h2 h3
  go_enter Tryz.func147,Tryz.ntmps147
  go_wp2
  go_ret
  exact ⟨rfl,rfl⟩
 have e:kindN c=0:=by simp [kindN,h1,h2,h3,h4]
 rw [e]
 simp [isLet] at h1
 simp [isDig] at h3
 have d3:((c:Int) == 48)=false:=by rw [beq_eq_false_iff_ne]; omega
 have d6:((c:Int) == 32)=false:=by rw [beq_eq_false_iff_ne]; omega
 by_cases h5:97≤c
 ·have d1:(97:Int)≤(c:Int):=by omega
  have d2:decide ((c:Int)≤122)=false:=by simp; omega
  have d4:(49:Int)≤(c:Int):=by omega
  have d5:decide ((c:Int)≤57)=false:=by simp; omega
  clear e h1 h2 h3 h4
  go_enter Tryz.func147,Tryz.ntmps147
  go_wp2
  go_ret
  exact ⟨rfl,rfl⟩
 have d1:decide ((97:Int)≤(c:Int))=false:=by simp; omega
 by_cases h6:49≤c
 ·have d4:(49:Int)≤(c:Int):=by omega
  have d5:decide ((c:Int)≤57)=false:=by simp; omega
  clear e h1 h2 h3 h4
  go_enter Tryz.func147,Tryz.ntmps147
  go_wp2
  go_ret
  exact ⟨rfl,rfl⟩
 have d4:decide ((49:Int)≤(c:Int))=false:=by simp; omega
 clear e h1 h2 h3 h4
 go_enter Tryz.func147,Tryz.ntmps147
 go_wp2
 go_ret
 exact ⟨rfl,rfl⟩
theorem ret_bool {a b:Bool} (h:a=b):Ending.returned (.bool a)=.returned (.bool b):=by rw [h]
theorem kind_let (c:Nat):((kindN c:Int) == 1)=isLet c:=by
 unfold kindN; repeat' split
 all_goals simp_all
theorem kind_quo (c:Nat):((kindN c:Int) != 0)=isQuo c:=by
 unfold kindN isQuo; repeat' split
 all_goals simp_all
 all_goals simp [isDig]
theorem kind_le (c:Nat):kindN c≤4:=by
 unfold kindN; repeat' split
 all_goals omega
set_option maxHeartbeats 400000 in
theorem c_isLetter {w:World} (c:Nat) (hc:c<256) :
 Calls Tryz.prog 193 #[.int .u8 (c:Int)] w fun r w'=>r=.returned (.bool (isLet c))∧w'=w:=by
 have HK:=hide (kind_let c)
 go_enter Tryz.func193,Tryz.ntmps193
 go_wp2_with fail
 refine (c_kindOf c hc).mono ?_
 rintro r w1 ⟨rfl,rfl⟩
 generalize kindN c=k at *
 go_wp2
 go_ret
 exact ⟨ret_bool HK.out,rfl⟩
set_option maxHeartbeats 400000 in
theorem c_isQuoted {w:World} (c:Nat) (hc:c<256) :
 Calls Tryz.prog 195 #[.int .u8 (c:Int)] w fun r w'=>r=.returned (.bool (isQuo c))∧w'=w:=by
 have HK:=hide (kind_quo c)
 go_enter Tryz.func195,Tryz.ntmps195
 go_wp2_with fail
 refine (c_kindOf c hc).mono ?_
 rintro r w1 ⟨rfl,rfl⟩
 generalize kindN c=k at *
 go_wp2
 go_ret
 exact ⟨ret_bool HK.out,rfl⟩
set_option maxHeartbeats 400000 in
theorem c_isDigit {w:World} (c:Nat) (hc:c<256) :
 Calls Tryz.prog 194 #[.int .u8 (c:Int)] w fun r w'=>r=.returned (.bool (isDig c))∧w'=w:=by
 by_cases h2:kindN c=2
 ·have e:isDig c=true:=by
   unfold kindN at h2
   repeat' split at h2
   all_goals simp_all
   simp [isDig]
  rw [e]
  have HK:=hide h2
  clear e h2
  go_enter Tryz.func194,Tryz.ntmps194
  go_wp2_with fail
  refine (c_kindOf c hc).mono ?_
  rintro r w1 ⟨rfl,rfl⟩
  rw [HK.out]
  go_wp2
  go_ret
  exact ⟨rfl,rfl⟩
 have e:isDig c=((kindN c:Int) == 3):=by
  unfold kindN at h2 ⊢
  repeat' split at h2
  all_goals simp_all
  rename_i h1
  simp [isLet] at h1
  simp [isDig]
  omega
 rw [e]
 have d2:((kindN c:Int) == 2)=false:=by rw [beq_eq_false_iff_ne]; omega
 have HK:=hide (rfl:kindN c=kindN c)
 have hle:=kind_le c
 clear e h2
 go_enter Tryz.func194,Tryz.ntmps194
 go_wp2_with fail
 refine (c_kindOf c hc).mono ?_
 rintro r w1 ⟨rfl,rfl⟩
 go_wp2_with fail
 refine (c_kindOf c hc).mono ?_
 rintro r w1 ⟨rfl,rfl⟩
 go_wp2
 go_ret
 exact ⟨rfl,rfl⟩
def HasG (w:World) (b:Nat) (x:Nat) (g:G):Prop :=
 w.heap[b]?=some (.cells #[.int .i64 x,.int .i64 g.bh,.int .i64 g.sz,.string ⟨g.rs.toArray⟩,.string ⟨g.op.toArray⟩] 176)
theorem HasG.lt {w:World} {b x:Nat} {g:G} (h:HasG w b x g):b<w.heap.size:=lt_of_some h
theorem HasG.c0 {w:World} {b x:Nat} {g:G} (h:HasG w b x g):w.cell? ⟨b,0,none⟩=some (.int .i64 x):=by unfold HasG at h; simp [World.cell?,h]
theorem HasG.c1 {w:World} {b x:Nat} {g:G} (h:HasG w b x g):w.cell? ⟨b,1,none⟩=some (.int .i64 g.bh):=by unfold HasG at h; simp [World.cell?,h]
theorem HasG.c2 {w:World} {b x:Nat} {g:G} (h:HasG w b x g):w.cell? ⟨b,2,none⟩=some (.int .i64 g.sz):=by unfold HasG at h; simp [World.cell?,h]
theorem HasG.c3 {w:World} {b x:Nat} {g:G} (h:HasG w b x g):w.cell? ⟨b,3,none⟩=some (.string ⟨g.rs.toArray⟩):=by unfold HasG at h; simp [World.cell?,h]
theorem HasG.c4 {w:World} {b x:Nat} {g:G} (h:HasG w b x g):w.cell? ⟨b,4,none⟩=some (.string ⟨g.op.toArray⟩):=by unfold HasG at h; simp [World.cell?,h]
theorem HasG.fz {w:World} {b x:Nat} {g:G} (h:HasG w b x g) (i:Nat):w.frozen? ⟨b,i,none⟩=false:=by unfold HasG at h; simp [World.frozen?,h]
theorem HasG.set0 {w:World} {b x:Nat} {g:G} (h:HasG w b x g) (y:Nat):HasG (w.setCell ⟨b,0,none⟩ (.int .i64 y)) b y g:=by
 unfold HasG at *; simp [World.setCell,Array.getElem?_modify,h]
theorem HasG.set1 {w:World} {b x:Nat} {g:G} (h:HasG w b x g) (y:Nat):HasG (w.setCell ⟨b,1,none⟩ (.int .i64 y)) b x { g with bh:=y }:=by
 unfold HasG at *; simp [World.setCell,Array.getElem?_modify,h]
theorem HasG.set2 {w:World} {b x:Nat} {g:G} (h:HasG w b x g) (y:Nat):HasG (w.setCell ⟨b,2,none⟩ (.int .i64 y)) b x { g with sz:=y }:=by
 unfold HasG at *; simp [World.setCell,Array.getElem?_modify,h]
theorem HasG.set3 {w:World} {b x:Nat} {g:G} (h:HasG w b x g) (y:List UInt8):HasG (w.setCell ⟨b,3,none⟩ (.string ⟨y.toArray⟩)) b x { g with rs:=y }:=by
 unfold HasG at *; simp [World.setCell,Array.getElem?_modify,h]
theorem HasG.set4 {w:World} {b x:Nat} {g:G} (h:HasG w b x g) (y:List UInt8):HasG (w.setCell ⟨b,4,none⟩ (.string ⟨y.toArray⟩)) b x { g with op:=y }:=by
 unfold HasG at *; simp [World.setCell,Array.getElem?_modify,h]
structure Rg (b:Nat) (w:World) (x:Nat) (g:G) (w':World):Prop where
 m:HasG w' b x g
 f:Fr (PB b) w w'
theorem Rg.same {b:Nat} {w:World} {x:Nat} {g:G} (h:HasG w b x g):Rg b w x g w:=⟨h,Fr.refl _ _⟩
theorem Rg.trans {b:Nat} {w w1 w2:World} {x y:Nat} {g h:G} (a:Rg b w x g w1) (c:Rg b w1 y h w2):Rg b w y h w2:=⟨c.m,a.f.trans c.f⟩
theorem Rg.set0 {b:Nat} {w w1:World} {x:Nat} {g:G} (a:Rg b w x g w1) (y:Nat):Rg b w y g (w1.setCell ⟨b,0,none⟩ (.int .i64 y)):=⟨a.m.set0 y,a.f.setCell ⟨b,0,none⟩ (Or.inl rfl) _⟩
theorem Rg.set1 {b:Nat} {w w1:World} {x:Nat} {g:G} (a:Rg b w x g w1) (y:Nat):Rg b w x { g with bh:=y } (w1.setCell ⟨b,1,none⟩ (.int .i64 y)):=⟨a.m.set1 y,a.f.setCell ⟨b,1,none⟩ (Or.inl rfl) _⟩
theorem Rg.set2 {b:Nat} {w w1:World} {x:Nat} {g:G} (a:Rg b w x g w1) (y:Nat):Rg b w x { g with sz:=y } (w1.setCell ⟨b,2,none⟩ (.int .i64 y)):=⟨a.m.set2 y,a.f.setCell ⟨b,2,none⟩ (Or.inl rfl) _⟩
theorem Rg.set3 {b:Nat} {w w1:World} {x:Nat} {g:G} (a:Rg b w x g w1) (y:List UInt8):Rg b w x { g with rs:=y } (w1.setCell ⟨b,3,none⟩ (.string ⟨y.toArray⟩)):=⟨a.m.set3 y,a.f.setCell ⟨b,3,none⟩ (Or.inl rfl) _⟩
theorem Rg.set4 {b:Nat} {w w1:World} {x:Nat} {g:G} (a:Rg b w x g w1) (y:List UInt8):Rg b w x { g with op:=y } (w1.setCell ⟨b,4,none⟩ (.string ⟨y.toArray⟩)):=⟨a.m.set4 y,a.f.setCell ⟨b,4,none⟩ (Or.inl rfl) _⟩
end Go.Proofs.YtcbadebjpogmlaaGreatDoor
namespace Go.Proofs.YtcbadebjpogmlaaGreatDoor
open Go.RowKit Tr
def Ans (b:Nat) (w:World) (x:Nat) (g:G) (r:Ending) (w':World):Prop:=r=.returned (.int .i64 (g.st:Nat))∧Rg b w x g w'
theorem Rg.as {b:Nat} {w w':World} {x:Nat} {g:G} (h:Rg b w x g w') (g':G) (e1:g'.bh=g.bh) (e2:g'.sz=g.sz) (e3:g'.rs=g.rs) (e4:g'.op=g.op):Rg b w x g' w' :=
 ⟨by have:=h.m; unfold HasG at *; rw [e1,e2,e3,e4]; exact this,h.f⟩
set_option maxHeartbeats 400000 in
theorem g_word {w:World} {b x:Nat} {g:G} (h:HasG w b x g) (c:Nat) (hc:c<256) (k:Nat) (ki:Int) (hk:ki=k) :
 Calls Tryz.prog 202 #[.pointer (some ⟨b,0,none⟩),.int .u8 (c:Int),.int .i64 ki] w (Ans b w x (gWord g c k)):=by
 subst hk
 have f1:=h.fz 1
 have f2:=h.fz 2
 have c1:=h.c1
 have c2:=h.c2
 have HH:=hide h
 clear h
 cases hl:isLet c
 ·have e:gWord g c k={ g with st:=0 }:=by simp [gWord,hl]
  rw [e]
  have HL:=hide hl
  clear e hl
  go_enter Tryz.func202,Tryz.ntmps202
  go_wp2_with fail
  refine (c_isLetter c hc).mono ?_
  rintro r w1 ⟨rfl,rfl⟩
  rw [HL.out]
  go_wp2
  go_ret
  exact ⟨rfl,Rg.as (Rg.same HH.out) _ rfl rfl rfl rfl⟩
 have e:gWord g c k={ g with st:=21,bh:=k,sz:=1 }:=by simp [gWord,hl]
 rw [e]
 have HL:=hide hl
 clear e hl
 go_enter Tryz.func202,Tryz.ntmps202
 go_wp2_with fail
 refine (c_isLetter c hc).mono ?_
 rintro r w1 ⟨rfl,rfl⟩
 rw [HL.out]
 go_wp2
 go_ret
 exact ⟨rfl,Rg.as (((Rg.same HH.out).set1 k).set2 1) _ rfl rfl rfl rfl⟩
set_option maxHeartbeats 400000 in
theorem g_quote {w:World} {b x:Nat} {g:G} (h:HasG w b x g) (k:Nat) (ki:Int) (hk:ki=k) :
 Calls Tryz.prog 197 #[.pointer (some ⟨b,0,none⟩),.int .i64 ki] w (Ans b w x (gQuote g k)):=by
 subst hk
 have f1:=h.fz 1
 have f2:=h.fz 2
 have c1:=h.c1
 have c2:=h.c2
 have HH:=hide h
 clear h
 go_enter Tryz.func197,Tryz.ntmps197
 go_wp2
 go_ret
 exact ⟨rfl,Rg.as (((Rg.same HH.out).set1 k).set2 0) _ rfl rfl rfl rfl⟩
set_option maxHeartbeats 400000 in
theorem g_minus {w:World} {b x:Nat} {g:G} (h:HasG w b x g) (k:Nat) (ki:Int) (hk:ki=k) :
 Calls Tryz.prog 198 #[.pointer (some ⟨b,0,none⟩),.int .i64 ki] w (Ans b w x (gMinus g k)):=by
 subst hk
 have f1:=h.fz 1
 have c1:=h.c1
 have HH:=hide h
 clear h
 go_enter Tryz.func198,Tryz.ntmps198
 go_wp2
 go_ret
 exact ⟨rfl,Rg.as ((Rg.same HH.out).set1 k) _ rfl rfl rfl rfl⟩
set_option maxHeartbeats 400000 in
theorem g_named {w:World} {b x:Nat} {g:G} (h:HasG w b x g) (l:List UInt8) (k:Nat) (ki:Int) (hk:ki=k) :
 Calls Tryz.prog 146 #[.pointer (some ⟨b,0,none⟩),.string ⟨l.toArray⟩,.int .i64 ki] w (Ans b w x (gNamed g l k)):=by
 subst hk
 have f1:=h.fz 1
 have f3:=h.fz 3
 have c1:=h.c1
 have c3:=h.c3
 have HH:=hide h
 clear h
 cases l with
 | nil =>
  have e:gNamed g [] k={ g with st:=k }:=rfl
  rw [e]
  clear e
  go_enter Tryz.func146,Tryz.ntmps146
  go_wp2
  go_ret
  exact ⟨rfl,Rg.as (Rg.same HH.out) _ rfl rfl rfl rfl⟩
 | cons a r =>
  have e:gNamed g (a::r) k={ g with st:=24,bh:=k,rs:=a::r }:=rfl
  rw [e]
  clear e
  go_enter Tryz.func146,Tryz.ntmps146
  go_wp2
  go_ret
  exact ⟨rfl,Rg.as (((Rg.same HH.out).set1 k).set3 (a::r)) _ rfl rfl rfl rfl⟩
set_option maxHeartbeats 400000 in
theorem g_count {w:World} {b x:Nat} {g:G} (h:HasG w b x g) (c:Nat) (hc:c<256) (k:Nat) (ki:Int) (hk:ki=k) :
 Calls Tryz.prog 148 #[.pointer (some ⟨b,0,none⟩),.int .u8 (c:Int),.int .i64 ki] w (Ans b w x (gCount g c k)):=by
 subst hk
 have f1:=h.fz 1
 have f2:=h.fz 2
 have c1:=h.c1
 have c2:=h.c2
 have HH:=hide h
 clear h
 by_cases h48:c=48
 ·have e:gCount g c k={ g with st:=k }:=by simp [gCount,h48]
  have HK:Hid (kindN c=2):=by unfold Hid; rw [h48]; rfl
  rw [e]
  clear e h48
  go_enter Tryz.func148,Tryz.ntmps148
  go_wp2_with fail
  refine (c_kindOf c hc).mono ?_
  rintro r w1 ⟨rfl,rfl⟩
  rw [HK.out]
  go_wp2
  go_ret
  exact ⟨rfl,Rg.as (Rg.same HH.out) _ rfl rfl rfl rfl⟩
 cases hd:isDig c
 ·have e:gCount g c k={ g with st:=0 }:=by simp [gCount,h48,hd]
  have d1:((kindN c:Int) == 2)=false:=by
   rw [beq_eq_false_iff_ne]; unfold kindN; repeat' split
   all_goals (first | omega | simp_all)
  have d2:((kindN c:Int) == 3)=false:=by
   rw [beq_eq_false_iff_ne]; unfold kindN; repeat' split
   all_goals (first | omega | simp_all)
  rw [e]
  clear e h48 hd
  go_enter Tryz.func148,Tryz.ntmps148
  go_wp2_with fail
  refine (c_kindOf c hc).mono ?_
  rintro r w1 ⟨rfl,rfl⟩
  go_wp2
  go_ret
  exact ⟨rfl,Rg.as (Rg.same HH.out) _ rfl rfl rfl rfl⟩
 have e:gCount g c k={ g with st:=22,bh:=k,sz:=1 }:=by simp [gCount,h48,hd]
 have HK:Hid (kindN c=3):=by
  unfold Hid kindN
  have:isLet c=false:=by simp [isDig] at hd; simp [isLet]; omega
  simp [this,h48,hd]
 rw [e]
 clear e h48 hd
 go_enter Tryz.func148,Tryz.ntmps148
 go_wp2_with fail
 refine (c_kindOf c hc).mono ?_
 rintro r w1 ⟨rfl,rfl⟩
 rw [HK.out]
 go_wp2
 go_ret
 exact ⟨rfl,Rg.as (((Rg.same HH.out).set1 k).set2 1) _ rfl rfl rfl rfl⟩
set_option maxHeartbeats 400000 in
theorem g_signed {w:World} {b x:Nat} {g:G} (h:HasG w b x g) (c:Nat) (hc:c<256) (k:Nat) (ki:Int) (hk:ki=k) :
 Calls Tryz.prog 201 #[.pointer (some ⟨b,0,none⟩),.int .u8 (c:Int),.int .i64 ki] w (Ans b w x (gSigned g c k)):=by
 subst hk
 have HH:=hide h
 clear h
 by_cases h45:c=45
 ·have e:gSigned g c k=gMinus g k:=by simp [gSigned,h45]
  rw [e]
  have d:((c:Int) == 45)=true:=by rw [h45]; rfl
  clear e h45
  go_enter Tryz.func201,Tryz.ntmps201
  go_wp2_with fail
  refine (g_minus HH.out k _ rfl).mono ?_
  rintro r w1 ⟨rfl,hr⟩
  have HR:=hide hr
  clear hr
  go_wp2
  go_ret
  exact ⟨rfl,HR.out⟩
 have e:gSigned g c k=gCount g c k:=by simp [gSigned,h45]
 rw [e]
 have d:((c:Int) == 45)=false:=by rw [beq_eq_false_iff_ne]; omega
 clear e h45
 go_enter Tryz.func201,Tryz.ntmps201
 go_wp2_with fail
 refine (g_count HH.out c hc k _ rfl).mono ?_
 rintro r w1 ⟨rfl,hr⟩
 have HR:=hide hr
 clear hr
 generalize gCount g c k=g2 at *
 go_wp2
 go_ret
 exact ⟨rfl,HR.out⟩
end Go.Proofs.YtcbadebjpogmlaaGreatDoor
namespace Go.Proofs.YtcbadebjpogmlaaGreatDoor
open Go.RowKit Tr
def szOf:Value→Nat | .string t=>t.size | _=>0
theorem bs_snoc {t:ByteArray} {n:Nat} (h:n<t.size) (hn:t.size=n+1):bs t=bs (t.extract 0 n)++[t[n]]:=by
 have e:(bs t).length=n+1:=by rw [bs_len]; exact hn
 have e2:bs (t.extract 0 n)=(bs t).take n:=by simp [bs,List.extract_eq_take_drop]
 rw [e2]
 have e3:bs t=(bs t).take (n+1):=by rw [List.take_of_length_le (by omega)]
 have e4:(bs t).take (n+1)=(bs t).take n++[(bs t)[n]'(by omega)]:=List.take_succ_eq_append_getElem (by omega)
 have e5:(bs t)[n]'(by omega)=t[n]:=by simp [bs,ByteArray.getElem_eq_getElem_data]
 rw [e4,e5] at e3
 exact e3
theorem trimR_not {l:List UInt8} {a:UInt8} (h:a≠33):trimR (l++[a])=l++[a]:=by
 unfold trimR
 rw [List.reverse_append,List.reverse_singleton,List.singleton_append,List.dropWhile_cons]
 simp [h]
theorem trimR_bang2 (o:List UInt8):trimR (o++[33])=trimR o:=by simp [trimR]
set_option maxRecDepth 100000 in
set_option maxHeartbeats 1000000 in
theorem c_trimRB {w:World} (t0:ByteArray) (hz:t0.size≤120) :
 Calls Tryz.prog 236 #[.string t0,.int .u8 33] w fun r w'=>∃t,r=.returned (.string t)∧bs t=trimR (bs t0)∧w'=w:=by
 go_enter Tryz.func236,Tryz.ntmps236
 go_wp2
 go_loop [0] (fun v=>∃t:ByteArray,v=.string t∧t.size≤120∧trimR (bs t)=trimR (bs t0)) (fun v=>szOf v)
 case atStart=>exact ⟨t0,rfl,hz,rfl⟩
 case round =>
  obtain ⟨t,rfl,ht,htr⟩:=hrel
  have HT:=hide htr
  clear htr
  by_cases h0:t.size=0
  ·have HN:Hid (bs t=[]):=by
    have:=bs_len t
    rw [h0] at this
    exact List.eq_nil_of_length_eq_zero this
   go_wp2
   go_ret
   exact ⟨t,rfl,by rw [← HT.out,HN.out]; rfl,rfl⟩
  obtain ⟨n,hn⟩:∃n,t.size=n+1:=⟨t.size - 1,by omega⟩
  have hlt:n<t.size:=by omega
  have HS:=hide (bs_snoc hlt hn)
  have hs3:(t.extract 0 n).size=n:=by rw [ByteArray.size_extract]; omega
  by_cases hb:t[n]=33
  ·have HB:=hide hb
   have hd:(t[n].toNat:Int)=33:=by rw [hb]; rfl
   clear hb
   go_wp2
   refine ⟨⟨t.extract 0 n,rfl,by omega,?_⟩,by simp only [szOf]; omega⟩
   rw [← HT.out,HS.out,HB.out,trimR_bang2]
  have HB:=hide hb
  have hd:((t[n].toNat:Int) == 33)=false:=by
   rw [beq_eq_false_iff_ne]
   intro e
   apply hb
   apply UInt8.toNat_inj.1
   show t[n].toNat=33
   omega
  clear hb
  go_wp2
  go_ret
  refine ⟨t,rfl,?_,rfl⟩
  rw [← HT.out,HS.out,trimR_not HB.out]
theorem bs_inj {a b:ByteArray} (h:bs a=bs b):a=b:=by
 cases a; cases b
 simp only [bs] at h
 rw [ByteArray.mk.injEq]
 exact Array.toList_inj.1 h
theorem bs_mk (l:List UInt8):bs ⟨l.toArray⟩=l:=by simp [bs]
set_option maxRecDepth 100000 in
set_option maxHeartbeats 1000000 in
theorem c_trimRight {w:World} (l:List UInt8) (hz:l.length≤120) :
 Calls Tryz.prog 199 #[.string ⟨l.toArray⟩,.string ⟨#[33]⟩] w fun r w'=>r=.returned (.string ⟨(trimR l).toArray⟩)∧w'=w:=by
 cases l with
 | nil =>
  have e:trimR []=[]:=rfl
  rw [e]
  clear e
  go_enter Tryz.func199,Tryz.ntmps199
  go_wp2
  go_ret
  exact ⟨rfl,rfl⟩
 | cons a r =>
  have hb:=bs_mk (a::r)
  have hsz:(⟨(a::r).toArray⟩:ByteArray).size≤120:=by rw [← bs_len,hb]; exact hz
  have HB:=hide hb
  have HZ:=hide hsz
  clear hb hsz
  go_enter Tryz.func199,Tryz.ntmps199
  go_wp2_with fail
  refine (c_trimRB ⟨(a::r).toArray⟩ HZ.out).mono ?_
  rintro rr w1 ⟨t1,rfl,h1,rfl⟩
  have HT:Hid (t1=⟨(trimR (a::r)).toArray⟩):=by
   unfold Hid
   apply bs_inj
   rw [h1,HB.out,bs_mk]
  clear h1
  go_wp2
  go_ret
  exact ⟨by rw [HT.out]; rfl,rfl⟩
theorem last_toList {t:ByteArray} {n:Nat} (hlt:n<t.size) (hn:t.size=n+1):(t.extract n (n+1)).toList=[t[n]]:=by
 rw [ByteArray.toList_eq]
 show bs (t.extract n (n+1))=_
 have e:bs (t.extract n (n+1))=((bs t).drop n).take (n+1 - n):=by simp [bs,List.extract_eq_take_drop]
 rw [e,List.take_of_length_le (by rw [List.length_drop,bs_len]; omega)]
 have e2:=bs_snoc hlt hn
 have e3:(bs (t.extract 0 n)).length=n:=by rw [bs_len,ByteArray.size_extract]; omega
 rw [e2,List.drop_append_of_le_length (by omega),List.drop_of_length_le (by omega)]
 rfl
theorem trimS_not {l:List UInt8} {a:UInt8} (h:a≠40):trimS (l++[a])=l++[a]:=by
 simp [trimS,h]
theorem trimS_yes (l:List UInt8):trimS (l++[40])=l:=by simp [trimS]
set_option maxRecDepth 100000 in
set_option maxHeartbeats 1000000 in
theorem c_hasSuffix {w:World} (t:ByteArray) (n:Nat) (hn:t.size=n+1) (hlt:n<t.size) (hz:t.size≤120) :
 Calls Tryz.prog 254 #[.string t,.string ⟨#[40]⟩] w fun r w'=>r=.returned (.bool (t[n] == 40))∧w'=w:=by
 have HL:=hide (last_toList hlt hn)
 go_enter Tryz.func254,Tryz.ntmps254
 go_wp2
 go_ret
 exact ⟨ret_bool (by rw [HL.out]; simp),rfl⟩
set_option maxRecDepth 100000 in
set_option maxHeartbeats 1000000 in
theorem c_trimSuffix {w:World} (t:ByteArray) (n:Nat) (hn:t.size=n+1) (hlt:n<t.size) (hz:t.size≤120) :
 Calls Tryz.prog 200 #[.string t,.string ⟨#[40]⟩] w fun r w'=>∃t1,r=.returned (.string t1)∧bs t1=trimS (bs t)∧w'=w:=by
 have HS:=hide (bs_snoc hlt hn)
 cases hb:(t[n] == 40)
 ·have HB:=hide hb
  have hN:t[n]≠40:=by simpa using hb
  have HN:=hide hN
  clear hN
  clear hb
  go_enter Tryz.func200,Tryz.ntmps200
  go_wp2_with (go_at_call 240; go_in)
  refine (c_hasSuffix t n hn hlt hz).mono ?_
  rintro rr w1 ⟨rfl,rfl⟩
  rw [HB.out]
  go_wp2
  go_ret
  exact ⟨t,rfl,by rw [HS.out,trimS_not HN.out],rfl⟩
 have HB:=hide hb
 have hN:t[n]=40:=by simpa using hb
 have HN:=hide hN
 clear hN
 clear hb
 go_enter Tryz.func200,Tryz.ntmps200
 go_wp2_with (go_at_call 240; go_in)
 refine (c_hasSuffix t n hn hlt hz).mono ?_
 rintro rr w1 ⟨rfl,rfl⟩
 rw [HB.out]
 go_wp2
 go_ret
 refine ⟨t.extract 0 n,rfl,?_,rfl⟩
 rw [HS.out,HN.out,trimS_yes]
end Go.Proofs.YtcbadebjpogmlaaGreatDoor
