import Derived.Test.YtcbadebjpogmlaaGreatDoorVsRefA
import Derived.Test.YtcbadebjpogmlaaGreatDoorVsPlain
set_option maxHeartbeats 1000000
set_option maxRecDepth 100000
namespace Go.Proofs.YtcbadebjpogmlaaGreatDoor
open Go.RowKit Tr
def bL (c:Nat):Nat:=if isLet c=true then 1 else if c=48 then 2 else if af c=true then 3 else if c=32 then 4 else 0
theorem cZ {w:World} (c:Nat) (hc:c<256) :
 Calls Tryz.prog 147 #[.int .u8 (c:Int)] w λ r w'=>r=.returned (.int .i64 (bL c:Nat))/\w'=w:=by
 by_cases h1:isLet c=true
 ·have e:bL c=1:=by simp [bL,h1]
  rw [e]
  simp [isLet] at h1
  have d1:(97:Int)<=(c:Int):=by omega
  have d2:(c:Int)<=122:=by omega
  clear e h1
  go_enter Tryz.func147,Tryz.ntmps147
  go_wp2
  go_ret
  exact ⟨rfl,rfl⟩
 by_cases h2:c=48
 ·subst h2
  have e:bL 48=2:=rfl
  rw [e]
  clear e h1
  go_enter Tryz.func147,Tryz.ntmps147
  go_wp2
  go_ret
  exact ⟨rfl,rfl⟩
 by_cases h3:af c=true
 ·have e:bL c=3:=by simp [bL,h1,h2,h3]
  rw [e]
  simp [af] at h3
  have d1:¬(97:Int)<=(c:Int):=by omega
  have d2:decide ((97:Int)<=(c:Int))=false:=by simpa using d1
  have d3:((c:Int) == 48)=false:=cU
  have d4:(49:Int)<=(c:Int):=by omega
  have d5:(c:Int)<=57:=by omega
  clear e h1 h2 h3
  go_enter Tryz.func147,Tryz.ntmps147
  go_wp2
  go_ret
  exact ⟨rfl,rfl⟩
 by_cases h4:c=32
 ·subst h4
  have e:bL 32=4:=rfl
  rw [e]
  clear e h1 h2 h3
  go_enter Tryz.func147,Tryz.ntmps147
  go_wp2
  go_ret
  exact ⟨rfl,rfl⟩
 have e:bL c=0:=by simp [bL,h1,h2,h3,h4]
 rw [e]
 simp [isLet] at h1
 simp [af] at h3
 have d3:((c:Int) == 48)=false:=cU
 have d6:((c:Int) == 32)=false:=cU
 by_cases h5:97<=c
 ·have d1:(97:Int)<=(c:Int):=by omega
  have d2:decide ((c:Int)<=122)=false:=by simp; omega
  have d4:(49:Int)<=(c:Int):=by omega
  have d5:decide ((c:Int)<=57)=false:=by simp; omega
  clear e h1 h2 h3 h4
  go_enter Tryz.func147,Tryz.ntmps147
  go_wp2
  go_ret
  exact ⟨rfl,rfl⟩
 have d1:decide ((97:Int)<=(c:Int))=false:=by simp; omega
 by_cases h6:49<=c
 ·have d4:(49:Int)<=(c:Int):=by omega
  have d5:decide ((c:Int)<=57)=false:=by simp; omega
  clear e h1 h2 h3 h4
  go_enter Tryz.func147,Tryz.ntmps147
  go_wp2
  go_ret
  exact ⟨rfl,rfl⟩
 have d4:decide ((49:Int)<=(c:Int))=false:=by simp; omega
 clear e h1 h2 h3 h4
 go_enter Tryz.func147,Tryz.ntmps147
 go_wp2
 go_ret
 exact ⟨rfl,rfl⟩
theorem jN {a b:Bool} (h:a=b):Ending.returned (.bool a)=.returned (.bool b):=by rw [h]
theorem IL (c:Nat):((bL c:Int) == 1)=isLet c:=by
 unfold bL; repeat' split
 all_goals simp_all
theorem IM (c:Nat):((bL c:Int) != 0)=aO c:=by
 unfold bL aO; repeat' split
 all_goals simp_all
 all_goals simp [af]
theorem My (c:Nat):bL c<=4:=by
 unfold bL; repeat' split
 all_goals omega
theorem l_ {w:World} (c:Nat) (hc:c<256) :
 Calls Tryz.prog 193 #[.int .u8 (c:Int)] w λ r w'=>r=.returned (.bool (isLet c))/\w'=w:=by
 have HK:=aa (IL c)
 go_enter Tryz.func193,Tryz.ntmps193
 go_wp2_with fail
 refine (cZ c hc).mono ?_
 rintro r w1 ⟨rfl,rfl⟩
 generalize bL c=k at *
 go_wp2
 go_ret
 exact ⟨jN HK.out,rfl⟩
theorem Ad {w:World} (c:Nat) (hc:c<256) :
 Calls Tryz.prog 195 #[.int .u8 (c:Int)] w λ r w'=>r=.returned (.bool (aO c))/\w'=w:=by
 have HK:=aa (IM c)
 go_enter Tryz.func195,Tryz.ntmps195
 go_wp2_with fail
 refine (cZ c hc).mono ?_
 rintro r w1 ⟨rfl,rfl⟩
 generalize bL c=k at *
 go_wp2
 go_ret
 exact ⟨jN HK.out,rfl⟩
theorem DF {w:World} (c:Nat) (hc:c<256) :
 Calls Tryz.prog 194 #[.int .u8 (c:Int)] w λ r w'=>r=.returned (.bool (af c))/\w'=w:=by
 by_cases h2:bL c=2
 ·have e:af c=true:=by
   unfold bL at h2
   repeat' split at h2
   all_goals simp_all
   simp [af]
  rw [e]
  have HK:=aa h2
  clear e h2
  go_enter Tryz.func194,Tryz.ntmps194
  go_wp2_with fail
  refine (cZ c hc).mono ?_
  rintro r w1 ⟨rfl,rfl⟩
  rw [HK.out]
  go_wp2
  go_ret
  exact ⟨rfl,rfl⟩
 have e:af c=((bL c:Int) == 3):=by
  unfold bL at h2 ⊢
  repeat' split at h2
  all_goals simp_all
  rename_i h1
  simp [isLet] at h1
  simp [af]
  omega
 rw [e]
 have d2:((bL c:Int) == 2)=false:=cU
 have HK:=aa (rfl:bL c=bL c)
 have hle:=My c
 clear e h2
 go_enter Tryz.func194,Tryz.ntmps194
 go_wp2_with fail
 refine (cZ c hc).mono ?_
 rintro r w1 ⟨rfl,rfl⟩
 go_wp2_with fail
 refine (cZ c hc).mono ?_
 rintro r w1 ⟨rfl,rfl⟩
 go_wp2
 go_ret
 exact ⟨rfl,rfl⟩
def bB (w:World) (b:Nat) (x:Nat) (g:G):Prop :=
 w.heap[b]?=some (.cells #[.int .i64 x,.int .i64 g.bh,.int .i64 g.sz,.string ⟨g.rs.toArray⟩,.string ⟨g.op.toArray⟩] 176)
theorem bB.lt {w:World} {b x:Nat} {g:G} (h:bB w b x g):b<w.heap.size:=bH h
theorem bB.c0 {w:World} {b x:Nat} {g:G} (h:bB w b x g):w.cell? ⟨b,0,none⟩=some (.int .i64 x):=by unfold bB at h; simp [World.cell?,h]
theorem bB.c1 {w:World} {b x:Nat} {g:G} (h:bB w b x g):w.cell? ⟨b,1,none⟩=some (.int .i64 g.bh):=by unfold bB at h; simp [World.cell?,h]
theorem bB.c2 {w:World} {b x:Nat} {g:G} (h:bB w b x g):w.cell? ⟨b,2,none⟩=some (.int .i64 g.sz):=by unfold bB at h; simp [World.cell?,h]
theorem bB.c3 {w:World} {b x:Nat} {g:G} (h:bB w b x g):w.cell? ⟨b,3,none⟩=some (.string ⟨g.rs.toArray⟩):=by unfold bB at h; simp [World.cell?,h]
theorem bB.c4 {w:World} {b x:Nat} {g:G} (h:bB w b x g):w.cell? ⟨b,4,none⟩=some (.string ⟨g.op.toArray⟩):=by unfold bB at h; simp [World.cell?,h]
theorem bB.fz {w:World} {b x:Nat} {g:G} (h:bB w b x g) (i:Nat):w.frozen? ⟨b,i,none⟩=false:=by unfold bB at h; simp [World.frozen?,h]
theorem bB.IQ {w:World} {b x:Nat} {g:G} (h:bB w b x g) (y:Nat):bB (w.setCell ⟨b,0,none⟩ (.int .i64 y)) b y g:=by
 unfold bB at *; simp [World.setCell,Array.getElem?_modify,h]
theorem bB.qL {w:World} {b x:Nat} {g:G} (h:bB w b x g) (y:Nat):bB (w.setCell ⟨b,1,none⟩ (.int .i64 y)) b x { g with bh:=y }:=by
 unfold bB at *; simp [World.setCell,Array.getElem?_modify,h]
theorem bB.DH {w:World} {b x:Nat} {g:G} (h:bB w b x g) (y:Nat):bB (w.setCell ⟨b,2,none⟩ (.int .i64 y)) b x { g with sz:=y }:=by
 unfold bB at *; simp [World.setCell,Array.getElem?_modify,h]
theorem bB.xW {w:World} {b x:Nat} {g:G} (h:bB w b x g) (y:List UInt8):bB (w.setCell ⟨b,3,none⟩ (.string ⟨y.toArray⟩)) b x { g with rs:=y }:=by
 unfold bB at *; simp [World.setCell,Array.getElem?_modify,h]
theorem bB.qU {w:World} {b x:Nat} {g:G} (h:bB w b x g) (y:List UInt8):bB (w.setCell ⟨b,4,none⟩ (.string ⟨y.toArray⟩)) b x { g with op:=y }:=by
 unfold bB at *; simp [World.setCell,Array.getElem?_modify,h]
structure Rg (b:Nat) (w:World) (x:Nat) (g:G) (w':World):Prop where
 m:bB w' b x g
 f:Fr (PB b) w w'
theorem Rg.same {b:Nat} {w:World} {x:Nat} {g:G} (h:bB w b x g):Rg b w x g w:=⟨h,Fr.refl _ _⟩
theorem Rg.trans {b:Nat} {w w1 w2:World} {x y:Nat} {g h:G} (a:Rg b w x g w1) (c:Rg b w1 y h w2):Rg b w y h w2:=⟨c.m,a.f.trans c.f⟩
theorem Rg.IQ {b:Nat} {w w1:World} {x:Nat} {g:G} (a:Rg b w x g w1) (y:Nat):Rg b w y g (w1.setCell ⟨b,0,none⟩ (.int .i64 y)):=⟨a.m.IQ y,a.f.setCell ⟨b,0,none⟩ (Or.inl rfl) _⟩
theorem Rg.qL {b:Nat} {w w1:World} {x:Nat} {g:G} (a:Rg b w x g w1) (y:Nat):Rg b w x { g with bh:=y } (w1.setCell ⟨b,1,none⟩ (.int .i64 y)):=⟨a.m.qL y,a.f.setCell ⟨b,1,none⟩ (Or.inl rfl) _⟩
theorem Rg.DH {b:Nat} {w w1:World} {x:Nat} {g:G} (a:Rg b w x g w1) (y:Nat):Rg b w x { g with sz:=y } (w1.setCell ⟨b,2,none⟩ (.int .i64 y)):=⟨a.m.DH y,a.f.setCell ⟨b,2,none⟩ (Or.inl rfl) _⟩
theorem Rg.xW {b:Nat} {w w1:World} {x:Nat} {g:G} (a:Rg b w x g w1) (y:List UInt8):Rg b w x { g with rs:=y } (w1.setCell ⟨b,3,none⟩ (.string ⟨y.toArray⟩)):=⟨a.m.xW y,a.f.setCell ⟨b,3,none⟩ (Or.inl rfl) _⟩
theorem Rg.qU {b:Nat} {w w1:World} {x:Nat} {g:G} (a:Rg b w x g w1) (y:List UInt8):Rg b w x { g with op:=y } (w1.setCell ⟨b,4,none⟩ (.string ⟨y.toArray⟩)):=⟨a.m.qU y,a.f.setCell ⟨b,4,none⟩ (Or.inl rfl) _⟩
def vO (b:Nat) (w:World) (x:Nat) (g:G) (r:Ending) (w':World):Prop:=r=.returned (.int .i64 (g.st:Nat))/\Rg b w x g w'
theorem Rg.as {b:Nat} {w w':World} {x:Nat} {g:G} (h:Rg b w x g w') (g':G) (e1:g'.bh=g.bh) (e2:g'.sz=g.sz) (e3:g'.rs=g.rs) (e4:g'.op=g.op):Rg b w x g' w' :=
 ⟨by have:=h.m; unfold bB at *; rw [e1,e2,e3,e4]; exact this,h.f⟩
theorem IS {w:World} {b x:Nat} {g:G} (h:bB w b x g) (c:Nat) (hc:c<256) (k:Nat) (ki:Int) (hk:ki=k) :
 Calls Tryz.prog 202 #[.pointer (some ⟨b,0,none⟩),.int .u8 (c:Int),.int .i64 ki] w (vO b w x (g_ g c k)):=by
 subst hk
 have f1:=h.fz 1
 have f2:=h.fz 2
 have c1:=h.c1
 have c2:=h.c2
 have HH:=aa h
 clear h
 cases hl:isLet c
 ·have e:g_ g c k={ g with st:=0 }:=by simp [g_,hl]
  rw [e]
  have HL:=aa hl
  clear e hl
  go_enter Tryz.func202,Tryz.ntmps202
  go_wp2_with fail
  refine (l_ c hc).mono ?_
  rintro r w1 ⟨rfl,rfl⟩
  rw [HL.out]
  go_wp2
  go_ret
  exact ⟨rfl,Rg.as (Rg.same HH.out) _ rfl rfl rfl rfl⟩
 have e:g_ g c k={ g with st:=21,bh:=k,sz:=1 }:=by simp [g_,hl]
 rw [e]
 have HL:=aa hl
 clear e hl
 go_enter Tryz.func202,Tryz.ntmps202
 go_wp2_with fail
 refine (l_ c hc).mono ?_
 rintro r w1 ⟨rfl,rfl⟩
 rw [HL.out]
 go_wp2
 go_ret
 exact ⟨rfl,Rg.as (((Rg.same HH.out).qL k).DH 1) _ rfl rfl rfl rfl⟩
theorem Cc {w:World} {b x:Nat} {g:G} (h:bB w b x g) (k:Nat) (ki:Int) (hk:ki=k) :
 Calls Tryz.prog 197 #[.pointer (some ⟨b,0,none⟩),.int .i64 ki] w (vO b w x (j_ g k)):=by
 subst hk
 have f1:=h.fz 1
 have f2:=h.fz 2
 have c1:=h.c1
 have c2:=h.c2
 have HH:=aa h
 clear h
 go_enter Tryz.func197,Tryz.ntmps197
 go_wp2
 go_ret
 exact ⟨rfl,Rg.as (((Rg.same HH.out).qL k).DH 0) _ rfl rfl rfl rfl⟩
theorem Cd {w:World} {b x:Nat} {g:G} (h:bB w b x g) (k:Nat) (ki:Int) (hk:ki=k) :
 Calls Tryz.prog 198 #[.pointer (some ⟨b,0,none⟩),.int .i64 ki] w (vO b w x (ke g k)):=by
 subst hk
 have f1:=h.fz 1
 have c1:=h.c1
 have HH:=aa h
 clear h
 go_enter Tryz.func198,Tryz.ntmps198
 go_wp2
 go_ret
 exact ⟨rfl,Rg.as ((Rg.same HH.out).qL k) _ rfl rfl rfl rfl⟩
theorem Ce {w:World} {b x:Nat} {g:G} (h:bB w b x g) (l:List UInt8) (k:Nat) (ki:Int) (hk:ki=k) :
 Calls Tryz.prog 146 #[.pointer (some ⟨b,0,none⟩),.string ⟨l.toArray⟩,.int .i64 ki] w (vO b w x (eH g l k)):=by
 subst hk
 have f1:=h.fz 1
 have f3:=h.fz 3
 have c1:=h.c1
 have c3:=h.c3
 have HH:=aa h
 clear h
 cases l with
 | nil =>
  have e:eH g [] k={ g with st:=k }:=rfl
  rw [e]
  clear e
  go_enter Tryz.func146,Tryz.ntmps146
  go_wp2
  go_ret
  exact ⟨rfl,Rg.as (Rg.same HH.out) _ rfl rfl rfl rfl⟩
 | cons a r =>
  have e:eH g (a::r) k={ g with st:=24,bh:=k,rs:=a::r }:=rfl
  rw [e]
  clear e
  go_enter Tryz.func146,Tryz.ntmps146
  go_wp2
  go_ret
  exact ⟨rfl,Rg.as (((Rg.same HH.out).qL k).xW (a::r)) _ rfl rfl rfl rfl⟩
theorem pS {w:World} {b x:Nat} {g:G} (h:bB w b x g) (c:Nat) (hc:c<256) (k:Nat) (ki:Int) (hk:ki=k) :
 Calls Tryz.prog 148 #[.pointer (some ⟨b,0,none⟩),.int .u8 (c:Int),.int .i64 ki] w (vO b w x (bW g c k)):=by
 subst hk
 have f1:=h.fz 1
 have f2:=h.fz 2
 have c1:=h.c1
 have c2:=h.c2
 have HH:=aa h
 clear h
 by_cases h48:c=48
 ·have e:bW g c k={ g with st:=k }:=by simp [bW,h48]
  have HK:Hid (bL c=2):=by unfold Hid; rw [h48]; rfl
  rw [e]
  clear e h48
  go_enter Tryz.func148,Tryz.ntmps148
  go_wp2_with fail
  refine (cZ c hc).mono ?_
  rintro r w1 ⟨rfl,rfl⟩
  rw [HK.out]
  go_wp2
  go_ret
  exact ⟨rfl,Rg.as (Rg.same HH.out) _ rfl rfl rfl rfl⟩
 cases hd:af c
 ·have e:bW g c k={ g with st:=0 }:=by simp [bW,h48,hd]
  have d1:((bL c:Int) == 2)=false:=by
   rw [beq_eq_false_iff_ne]; unfold bL; repeat' split
   all_goals (first | omega | simp_all)
  have d2:((bL c:Int) == 3)=false:=by
   rw [beq_eq_false_iff_ne]; unfold bL; repeat' split
   all_goals (first | omega | simp_all)
  rw [e]
  clear e h48 hd
  go_enter Tryz.func148,Tryz.ntmps148
  go_wp2_with fail
  refine (cZ c hc).mono ?_
  rintro r w1 ⟨rfl,rfl⟩
  go_wp2
  go_ret
  exact ⟨rfl,Rg.as (Rg.same HH.out) _ rfl rfl rfl rfl⟩
 have e:bW g c k={ g with st:=22,bh:=k,sz:=1 }:=by simp [bW,h48,hd]
 have HK:Hid (bL c=3):=by
  unfold Hid bL
  have:isLet c=false:=by simp [af] at hd; simp [isLet]; omega
  simp [this,h48,hd]
 rw [e]
 clear e h48 hd
 go_enter Tryz.func148,Tryz.ntmps148
 go_wp2_with fail
 refine (cZ c hc).mono ?_
 rintro r w1 ⟨rfl,rfl⟩
 rw [HK.out]
 go_wp2
 go_ret
 exact ⟨rfl,Rg.as (((Rg.same HH.out).qL k).DH 1) _ rfl rfl rfl rfl⟩
theorem xX {w:World} {b x:Nat} {g:G} (h:bB w b x g) (c:Nat) (hc:c<256) (k:Nat) (ki:Int) (hk:ki=k) :
 Calls Tryz.prog 201 #[.pointer (some ⟨b,0,none⟩),.int .u8 (c:Int),.int .i64 ki] w (vO b w x (dA g c k)):=by
 subst hk
 have HH:=aa h
 clear h
 by_cases ji:c=45
 ·have e:dA g c k=ke g k:=by simp [dA,ji]
  rw [e]
  have d:((c:Int) == 45)=true:=by rw [ji]; rfl
  clear e ji
  go_enter Tryz.func201,Tryz.ntmps201
  go_wp2_with fail
  refine (Cd HH.out k _ rfl).mono ?_
  rintro r w1 ⟨rfl,hr⟩
  have HR:=aa hr
  clear hr
  go_wp2
  go_ret
  exact ⟨rfl,HR.out⟩
 have e:dA g c k=bW g c k:=by simp [dA,ji]
 rw [e]
 have d:((c:Int) == 45)=false:=cU
 clear e ji
 go_enter Tryz.func201,Tryz.ntmps201
 go_wp2_with fail
 refine (pS HH.out c hc k _ rfl).mono ?_
 rintro r w1 ⟨rfl,hr⟩
 have HR:=aa hr
 clear hr
 generalize bW g c k=g2 at *
 go_wp2
 go_ret
 exact ⟨rfl,HR.out⟩
def Wx:Value->Nat | .string t=>t.size | _=>0
theorem uX {t:ByteArray} {n:Nat} (h:n<t.size) (hn:t.size=n+1):bs t=bs (t.extract 0 n)++[t[n]]:=by
 have e:(bs t).length=n+1:=by rw [an]; exact hn
 have e2:bs (t.extract 0 n)=(bs t).take n:=by simp [bs,List.extract_eq_take_drop]
 rw [e2]
 have e3:bs t=(bs t).take (n+1):=by rw [List.take_of_length_le (by omega)]
 have e4:(bs t).take (n+1)=(bs t).take n++[(bs t)[n]'(by omega)]:=List.take_succ_eq_append_getElem (by omega)
 have e5:(bs t)[n]'(by omega)=t[n]:=by simp [bs,ByteArray.getElem_eq_getElem_data]
 rw [e4,e5] at e3
 exact e3
theorem DI {l:List UInt8} {a:UInt8} (h:a≠33):bD (l++[a])=l++[a]:=by
 unfold bD
 rw [List.reverse_append,List.reverse_singleton,List.singleton_append,List.dropWhile_cons]
 simp [h]
theorem xY (o:List UInt8):bD (o++[33])=bD o:=by simp [bD]
theorem IU {w:World} (t0:ByteArray) (hz:t0.size<=120) :
 Calls Tryz.prog 236 #[.string t0,.int .u8 33] w λ r w'=>∃t,r=.returned (.string t)/\bs t=bD (bs t0)/\w'=w:=by
 go_enter Tryz.func236,Tryz.ntmps236
 go_wp2
 go_loop [0] (λ v=>∃t:ByteArray,v=.string t/\t.size<=120/\bD (bs t)=bD (bs t0)) (λ v=>Wx v)
 case atStart=>exact ⟨t0,rfl,hz,rfl⟩
 case round =>
  obtain ⟨t,rfl,ht,Ku⟩:=hrel
  have HT:=aa Ku
  clear Ku
  by_cases h0:t.size=0
  ·have HN:Hid (bs t=[]):=by
    have:=an t
    rw [h0] at this
    exact List.eq_nil_of_length_eq_zero this
   go_wp2
   go_ret
   exact ⟨t,rfl,by rw [<-HT.out,HN.out]; rfl,rfl⟩
  obtain ⟨n,hn⟩:∃n,t.size=n+1:=⟨t.size - 1,by omega⟩
  have hlt:n<t.size:=by omega
  have HS:=aa (uX hlt hn)
  have hs3:(t.extract 0 n).size=n:=by rw [ByteArray.size_extract]; omega
  by_cases hb:t[n]=33
  ·have HB:=aa hb
   have hd:(t[n].toNat:Int)=33:=by rw [hb]; rfl
   clear hb
   go_wp2
   refine ⟨⟨t.extract 0 n,rfl,by omega,?_⟩,by simp only [Wx]; omega⟩
   rw [<-HT.out,HS.out,HB.out,xY]
  have HB:=aa hb
  have hd:((t[n].toNat:Int) == 33)=false:=by
   rw [beq_eq_false_iff_ne]
   intro e
   apply hb
   apply UInt8.toNat_inj.1
   show t[n].toNat=33
   omega
  clear hb
  go_wp2
  go_ret
  refine ⟨t,rfl,?_,rfl⟩
  rw [<-HT.out,HS.out,DI HB.out]
theorem om {a b:ByteArray} (h:bs a=bs b):a=b:=by
 cases a; cases b
 simp only [bs] at h
 rw [ByteArray.mk.injEq]
 exact Array.toList_inj.1 h
theorem lV (l:List UInt8):bs ⟨l.toArray⟩=l:=by simp [bs]
theorem fU {w:World} (l:List UInt8) (hz:l.length<=120) :
 Calls Tryz.prog 199 #[.string ⟨l.toArray⟩,.string ⟨#[33]⟩] w λ r w'=>r=.returned (.string ⟨(bD l).toArray⟩)/\w'=w:=by
 cases l with
 | nil =>
  have e:bD []=[]:=rfl
  rw [e]
  clear e
  go_enter Tryz.func199,Tryz.ntmps199
  go_wp2
  go_ret
  exact ⟨rfl,rfl⟩
 | cons a r =>
  have hb:=lV (a::r)
  have hsz:(⟨(a::r).toArray⟩:ByteArray).size<=120:=by rw [<-an,hb]; exact hz
  have HB:=aa hb
  have HZ:=aa hsz
  clear hb hsz
  go_enter Tryz.func199,Tryz.ntmps199
  go_wp2_with fail
  refine (IU ⟨(a::r).toArray⟩ HZ.out).mono ?_
  rintro rr w1 ⟨t1,rfl,h1,rfl⟩
  have HT:Hid (t1=⟨(bD (a::r)).toArray⟩):=by
   unfold Hid
   apply om
   rw [h1,HB.out,lV]
  clear h1
  go_wp2
  go_ret
  exact ⟨by rw [HT.out]; rfl,rfl⟩
theorem xZ {t:ByteArray} {n:Nat} (hlt:n<t.size) (hn:t.size=n+1):(t.extract n (n+1)).toList=[t[n]]:=by
 rw [ByteArray.toList_eq]
 show bs (t.extract n (n+1))=_
 have e:bs (t.extract n (n+1))=((bs t).drop n).take (n+1 - n):=by simp [bs,List.extract_eq_take_drop]
 rw [e,List.take_of_length_le (by rw [List.length_drop,an]; omega)]
 have e2:=uX hlt hn
 have e3:(bs (t.extract 0 n)).length=n:=by rw [an,ByteArray.size_extract]; omega
 rw [e2,List.drop_append_of_le_length (by omega),List.drop_of_length_le (by omega)]
 rfl
theorem DJ {l:List UInt8} {a:UInt8} (h:a≠40):ij (l++[a])=l++[a]:=by
 simp [ij,h]
theorem DK (l:List UInt8):ij (l++[40])=l:=by simp [ij]
theorem oP {w:World} (t:ByteArray) (n:Nat) (hn:t.size=n+1) (hlt:n<t.size) (hz:t.size<=120) :
 Calls Tryz.prog 254 #[.string t,.string ⟨#[40]⟩] w λ r w'=>r=.returned (.bool (t[n] == 40))/\w'=w:=by
 have HL:=aa (xZ hlt hn)
 go_enter Tryz.func254,Tryz.ntmps254
 go_wp2
 go_ret
 exact ⟨jN (by rw [HL.out]; simp),rfl⟩
theorem uY {w:World} (t:ByteArray) (n:Nat) (hn:t.size=n+1) (hlt:n<t.size) (hz:t.size<=120) :
 Calls Tryz.prog 200 #[.string t,.string ⟨#[40]⟩] w λ r w'=>∃t1,r=.returned (.string t1)/\bs t1=ij (bs t)/\w'=w:=by
 have HS:=aa (uX hlt hn)
 cases hb:(t[n] == 40)
 ·have HB:=aa hb
  have hN:t[n]≠40:=by simpa using hb
  have HN:=aa hN
  clear hN
  clear hb
  go_enter Tryz.func200,Tryz.ntmps200
  go_wp2_with (go_at_call 240; go_in)
  refine (oP t n hn hlt hz).mono ?_
  rintro rr w1 ⟨rfl,rfl⟩
  rw [HB.out]
  go_wp2
  go_ret
  exact ⟨t,rfl,by rw [HS.out,DJ HN.out],rfl⟩
 have HB:=aa hb
 have hN:t[n]=40:=by simpa using hb
 have HN:=aa hN
 clear hN
 clear hb
 go_enter Tryz.func200,Tryz.ntmps200
 go_wp2_with (go_at_call 240; go_in)
 refine (oP t n hn hlt hz).mono ?_
 rintro rr w1 ⟨rfl,rfl⟩
 rw [HB.out]
 go_wp2
 go_ret
 refine ⟨t.extract 0 n,rfl,?_,rfl⟩
 rw [HS.out,HN.out,DK]
end Go.Proofs.YtcbadebjpogmlaaGreatDoor
