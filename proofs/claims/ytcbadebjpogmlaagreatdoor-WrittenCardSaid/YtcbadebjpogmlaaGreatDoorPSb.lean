import Derived.Test.YtcbadebjpogmlaaGreatDoorPShelf
import Derived.Test.YtcbadebjpogmlaaGreatDoorPMkA
import Derived.Test.YtcbadebjpogmlaaGreatDoorPVa
import Derived.Test.YtcbadebjpogmlaaGreatDoorPBase
import Derived.Test.YtcbadebjpogmlaaGreatDoorProg
import Derived.Shelf.LaysM
import Derived.Shelf.LaysC
import Derived.Shelf.Strconv.Itoa3
import Derived.Shelf.Strings.Replace
import Derived.Shelf.Small.Strs
namespace Go.Proofs.YtcbadebjpogmlaaGreatDoor
open Go.RowKit Tr
def kindT (c:Nat):Nat:=if c=10 then 1 else if c<32∨126<c then 0 else if c=32 then 2 else if c=48 then 3 else if 49≤c∧c≤57 then 4 else if c=34 then 5 else if c=92 then 6 else 7
set_option maxHeartbeats 1000000 in
theorem t_kindOf {w:World} (c:Nat) (hc:c<256) :
 Calls Tryz.prog 173 #[.int .u8 (c:Int)] w fun r w'=>r=.returned (.int .i64 (kindT c:Nat))∧w'=w:=by
 by_cases h0:c=10
 ·subst h0
  have e:kindT 10=1:=by decide
  rw [e]
  clear e
  go_enter Tryz.func173,Tryz.ntmps173
  go_wp2
  go_ret
  exact ⟨rfl,rfl⟩
 by_cases h1:c<32
 ·have e:kindT c=0:=by unfold kindT; repeat (first | rw [if_pos (by omega)] | rw [if_neg (by omega)])
  rw [e]
  clear e
  have n10:((c:Int) == 10)=false:=by rw [beq_eq_false_iff_ne]; omega
  have l32:(c:Int)<32:=by omega
  go_enter Tryz.func173,Tryz.ntmps173
  go_wp2
  go_ret
  exact ⟨rfl,rfl⟩
 by_cases h2:126<c
 ·have e:kindT c=0:=by unfold kindT; repeat (first | rw [if_pos (by omega)] | rw [if_neg (by omega)])
  rw [e]
  clear e
  have n10:((c:Int) == 10)=false:=by rw [beq_eq_false_iff_ne]; omega
  have g32:¬(c:Int)<32:=by omega
  have m126:(126:Int)<(c:Int):=by omega
  go_enter Tryz.func173,Tryz.ntmps173
  go_wp2
  go_ret
  exact ⟨rfl,rfl⟩
 by_cases h3:c=32
 ·subst h3
  have e:kindT 32=2:=by decide
  rw [e]
  clear e
  go_enter Tryz.func173,Tryz.ntmps173
  go_wp2
  go_ret
  exact ⟨rfl,rfl⟩
 by_cases h4:c=48
 ·subst h4
  have e:kindT 48=3:=by decide
  rw [e]
  clear e
  go_enter Tryz.func173,Tryz.ntmps173
  go_wp2
  go_ret
  exact ⟨rfl,rfl⟩
 by_cases h5:49≤c∧c≤57
 ·have e:kindT c=4:=by unfold kindT; repeat (first | rw [if_pos (by omega)] | rw [if_neg (by omega)])
  rw [e]
  clear e
  have n10:((c:Int) == 10)=false:=by rw [beq_eq_false_iff_ne]; omega
  have g32:¬(c:Int)<32:=by omega
  have l126:¬(126:Int)<(c:Int):=by omega
  have n32:((c:Int) == 32)=false:=by rw [beq_eq_false_iff_ne]; omega
  have n48:((c:Int) == 48)=false:=by rw [beq_eq_false_iff_ne]; omega
  have g49:(49:Int)≤(c:Int):=by omega
  have l57:(c:Int)≤57:=by omega
  go_enter Tryz.func173,Tryz.ntmps173
  go_wp2
  go_ret
  exact ⟨rfl,rfl⟩
 by_cases h6:c=34
 ·subst h6
  have e:kindT 34=5:=by decide
  rw [e]
  clear e
  go_enter Tryz.func173,Tryz.ntmps173
  go_wp2
  go_ret
  exact ⟨rfl,rfl⟩
 by_cases h7:c=92
 ·subst h7
  have e:kindT 92=6:=by decide
  rw [e]
  clear e
  go_enter Tryz.func173,Tryz.ntmps173
  go_wp2
  go_ret
  exact ⟨rfl,rfl⟩
 have e:kindT c=7:=by unfold kindT; repeat (first | rw [if_pos (by omega)] | rw [if_neg (by omega)])
 rw [e]
 clear e
 rcases Nat.lt_or_ge c 49 with h9 | h9
 ·have n10:((c:Int) == 10)=false:=by rw [beq_eq_false_iff_ne]; omega
  have g32:¬(c:Int)<32:=by omega
  have l126:¬(126:Int)<(c:Int):=by omega
  have n32:((c:Int) == 32)=false:=by rw [beq_eq_false_iff_ne]; omega
  have n48:((c:Int) == 48)=false:=by rw [beq_eq_false_iff_ne]; omega
  have g49:¬(49:Int)≤(c:Int):=by omega
  have g49':decide ((49:Int)≤(c:Int))=false:=by simpa using g49
  have n34:((c:Int) == 34)=false:=by rw [beq_eq_false_iff_ne]; omega
  have n92:((c:Int) == 92)=false:=by rw [beq_eq_false_iff_ne]; omega
  go_enter Tryz.func173,Tryz.ntmps173
  go_wp2
  go_ret
  exact ⟨rfl,rfl⟩
 have n10:((c:Int) == 10)=false:=by rw [beq_eq_false_iff_ne]; omega
 have g32:¬(c:Int)<32:=by omega
 have l126:¬(126:Int)<(c:Int):=by omega
 have n32:((c:Int) == 32)=false:=by rw [beq_eq_false_iff_ne]; omega
 have n48:((c:Int) == 48)=false:=by rw [beq_eq_false_iff_ne]; omega
 have g49:(49:Int)≤(c:Int):=by omega
 have l57:¬(c:Int)≤57:=by omega
 have n34:((c:Int) == 34)=false:=by rw [beq_eq_false_iff_ne]; omega
 have n92:((c:Int) == 92)=false:=by rw [beq_eq_false_iff_ne]; omega
 go_enter Tryz.func173,Tryz.ntmps173
 go_wp2
 go_ret
 exact ⟨rfl,rfl⟩
theorem kindT_cases (c:Nat):(c=10∧kindT c=1)∨((c<32∨126<c)∧c≠10∧kindT c=0)∨(c=32∧kindT c=2)∨(c=48∧kindT c=3)∨(49≤c∧c≤57∧kindT c=4)∨(c=34∧kindT c=5)∨(c=92∧kindT c=6) ∨
 (32<c∧c≤126∧(c<48∨57<c)∧c≠34∧c≠92∧kindT c=7):=by
 unfold kindT
 split
 ·omega
 split
 ·omega
 split
 ·omega
 split
 ·omega
 split
 ·omega
 split
 ·omega
 split<;>omega
theorem kind_bl (c:Nat):(((kindT c:Nat):Int) == 2 || ((kindT c:Nat):Int) == 1)=isBl c:=by
 have e:isBl c=decide (c=32∨c=10):=by rw [Bool.eq_iff_iff]; simp [isBl]
 rw [e]
 rcases kindT_cases c with ⟨h,k⟩ | ⟨h,h',k⟩ | ⟨h,k⟩ | ⟨h,k⟩ | ⟨h,h',k⟩ | ⟨h,k⟩ | ⟨h,k⟩ | ⟨h,h',h2,h3,h4,k⟩<;>rw [k]
 ·rw [decide_eq_true (Or.inr h)]; rfl
 ·rw [decide_eq_false (by omega)]; rfl
 ·rw [decide_eq_true (Or.inl h)]; rfl
 all_goals rw [decide_eq_false (by omega)]; rfl
theorem kind_dg (c:Nat):(((kindT c:Nat):Int) == 3 || ((kindT c:Nat):Int) == 4)=isDig c:=by
 have e:isDig c=decide (48≤c∧c≤57):=by simp [isDig]
 rw [e]
 rcases kindT_cases c with ⟨h,k⟩ | ⟨h,h',k⟩ | ⟨h,k⟩ | ⟨h,k⟩ | ⟨h,h',k⟩ | ⟨h,k⟩ | ⟨h,k⟩ | ⟨h,h',h2,h3,h4,k⟩<;>rw [k]
 ·rw [decide_eq_false (by omega)]; rfl
 ·rw [decide_eq_false (by omega)]; rfl
 ·rw [decide_eq_false (by omega)]; rfl
 ·rw [decide_eq_true (by omega)]; rfl
 ·rw [decide_eq_true (by omega)]; rfl
 all_goals rw [decide_eq_false (by omega)]; rfl
set_option maxHeartbeats 400000 in
theorem t_isBlank {w:World} (c:Nat) (hc:c<256):Calls Tryz.prog 138 #[.int .u8 (c:Int)] w fun r w'=>r=.returned (.bool (isBl c))∧w'=w:=by
 rw [← kind_bl]
 have K:=hide (fun w=>t_kindOf (w:=w) c hc)
 generalize kindT c=k at *
 by_cases h:k=2
 ·subst h
  go_enter Tryz.func138,Tryz.ntmps138
  go_wp2_with fail
  refine (K.out _).mono ?_
  rintro r w' ⟨rfl,rfl⟩
  go_wp2
  go_ret
  exact ⟨rfl,rfl⟩
 have e:((k:Int) == 2)=false:=by rw [beq_eq_false_iff_ne]; omega
 rw [e]
 go_enter Tryz.func138,Tryz.ntmps138
 go_wp2_with fail
 refine (K.out _).mono ?_
 rintro r w' ⟨rfl,rfl⟩
 go_wp2_with fail
 refine (K.out _).mono ?_
 rintro r w' ⟨rfl,rfl⟩
 go_wp2
 go_ret
 exact ⟨rfl,rfl⟩
set_option maxHeartbeats 400000 in
theorem t_isDigit {w:World} (c:Nat) (hc:c<256):Calls Tryz.prog 176 #[.int .u8 (c:Int)] w fun r w'=>r=.returned (.bool (isDig c))∧w'=w:=by
 rw [← kind_dg]
 have K:=hide (fun w=>t_kindOf (w:=w) c hc)
 generalize kindT c=k at *
 by_cases h:k=3
 ·subst h
  go_enter Tryz.func176,Tryz.ntmps176
  go_wp2_with fail
  refine (K.out _).mono ?_
  rintro r w' ⟨rfl,rfl⟩
  go_wp2
  go_ret
  exact ⟨rfl,rfl⟩
 have e:((k:Int) == 3)=false:=by rw [beq_eq_false_iff_ne]; omega
 rw [e]
 go_enter Tryz.func176,Tryz.ntmps176
 go_wp2_with fail
 refine (K.out _).mono ?_
 rintro r w' ⟨rfl,rfl⟩
 go_wp2_with fail
 refine (K.out _).mono ?_
 rintro r w' ⟨rfl,rfl⟩
 go_wp2
 go_ret
 exact ⟨rfl,rfl⟩
end Go.Proofs.YtcbadebjpogmlaaGreatDoor
namespace Go.Proofs.YtcbadebjpogmlaaGreatDoor
open Go.RowKit Tr
def tkx (k:Nat) (l:List UInt8):List UInt8:=if k=3 then l.take 9 else l
def tagg (t:Tok):Value:=.agg #[.int .i64 (t.k:Nat),.int .i64 (t.of:Nat),.int .i64 (t.frm:Nat),.int .i64 (t.to:Nat),.int .i64 t.n,.string (bsb (tkx t.k t.t))]
def rcl (s0:Nat) (z:Sn) (ov bp bv tell:Value):Array Value :=
 #[.int .i64 (s0:Nat),.int .i64 (z.at':Nat),ov,.int .i64 (z.tk.k:Nat),.int .i64 (z.tk.of:Nat),.int .i64 (z.tk.frm:Nat),.int .i64 (z.tk.to:Nat),.int .i64 z.tk.n,.string (bsb (tkx z.tk.k z.tk.t)),bp,bv,.string (bsb z.rs),.int .i64 (z.sz:Nat),.int .i64 z.sg,tell]
def opCells (l:List Nat):List Value:=l.map (fun k=>.int .i64 (k:Nat))
structure RS (w:World) (r s0:Nat) (z:Sn) (tell ov bp bv:Value):Prop where
 b:Blk w r (rcl s0 z ov bp bv tell) 115
 o:w.ownsRow (r+1) 106 1 ov z.op.length (opCells z.op)
 t:w.ownsRow (r+1) 5 1 bv (tkx z.tk.k z.tx).length (Lib.byteCells (tkx z.tk.k z.tx))
 p:bp=.pointer none∨bp=.pointer (some ⟨r,9,none⟩)
 e:tkx z.tk.k z.tx=[]→bv=.slice none 0 0
structure Sink (f:Value) (S:World→(Nat→Prop)→List Tok→Prop) (V:List Tok→Tok→Prop):Prop where
 lt:∀{w D ts k},S w D ts→D k→k<w.heap.size
 keep:∀{w w' D ts},S w D ts→Sm D w w'→w.heap.size≤w'.heap.size→S w' D ts
 call:∃N first cap,f=.func (.func N) first cap∧(∀args w,(callFunc N args).run Tryz.prog w=.ok (.enter N args) w) ∧
  ∀w D ts t,S w D ts→V ts t→Calls Tryz.prog N (first.push (tagg t)++cap) w fun r w'=>r=.returned (.tuple #[])∧∃D',S w' D' (ts++[t])∧(∀k,D' k→D k∨w.heap.size≤k)∧Fr D w w'
def VL (V:List Tok→Tok→Prop):List Tok→List Tok→Prop
 | _,[]=>True
 | ts,t::r=>V ts t∧VL V (ts++[t]) r
structure RM (S:World→(Nat→Prop)→List Tok→Prop) (tell:Value) (r s0:Nat) (z:Sn) (ts:List Tok) (E:Nat→Prop) (w:World):Prop where
 ex:∃ov bp bv D,RS w r s0 z tell ov bp bv∧S w D ts∧(∀k,D k→k≠r∧ov.ownBlock≠some k∧bv.ownBlock≠some k)∧(∀k,E k↔k=r∨ov.ownBlock=some k∨bv.ownBlock=some k∨D k)
structure Ev (E:Nat→Prop) (w:World) (E':Nat→Prop) (w':World):Prop where
 s:∀k,E' k→E k∨w.heap.size≤k
 f:Fr E w w'
theorem Ev.refl (E:Nat→Prop) (w:World):Ev E w E w:=⟨fun _=>Or.inl,Fr.refl _ _⟩
theorem Ev.trans {E E' E'':Nat→Prop} {a b c:World} (h:Ev E a E' b) (k:Ev E' b E'' c):Ev E a E'' c:=by
 refine ⟨fun i hi=>?_,⟨k.f.os.trans h.f.os,k.f.tape.trans h.f.tape,k.f.output.trans h.f.output,Nat.le_trans h.f.size k.f.size,fun i hi hn=>?_⟩⟩
 ·rcases k.s i hi with x | x
  ·exact h.s i x
  exact Or.inr (Nat.le_trans h.f.size x)
 refine (k.f.block i (Nat.lt_of_lt_of_le hi h.f.size) (fun x=>?_)).trans (h.f.block i hi hn)
 rcases h.s i x with y | y
 ·exact hn y
 omega
def RP (S:World→(Nat→Prop)→List Tok→Prop) (tell:Value) (r s0:Nat) (x:Sx) (ts:List Tok) (E:Nat→Prop) (w:World) (res:Ending) (w':World):Prop :=
 res=.returned (.int .i64 (x.z.st:Nat))∧∃E',RM S tell r s0 x.z (ts++x.ts) E' w'∧Ev E w E' w'
theorem RM.drewN {S:World→(Nat→Prop)→List Tok→Prop} {f:Value} {V:List Tok→Tok→Prop} (hS:Sink f S V) {tell:Value} {r s0:Nat} {z:Sn} {ts:List Tok} {E:Nat→Prop} {w:World} (h:RM S tell r s0 z ts E w) (n:Nat):RM S tell r s0 z ts E (w.drewN n):=by
 obtain ⟨ov,bp,bv,D,h1,h2,h3⟩:=h.ex
 exact ⟨ov,bp,bv,D,⟨h1.b,own_at' h1.o (fun _ _=>rfl),own_at' h1.t (fun _ _=>rfl),h1.p,h1.e⟩,hS.keep h2 (fun _ _=>rfl) (Nat.le_refl _),h3⟩
theorem Ev.drewN {E E':Nat→Prop} {a w:World} (h:Ev E a E' w) (n:Nat):Ev E a E' (w.drewN n):=⟨h.s,h.f.drewN n⟩
theorem RM.set {S:World→(Nat→Prop)→List Tok→Prop} {f:Value} {V:List Tok→Tok→Prop} (hS:Sink f S V) {tell:Value} {r s0 s1:Nat} {z z':Sn} {ts:List Tok} {E:Nat→Prop} {w w':World} {ov bp bv:Value} {D:Nat→Prop} (h1:RS w r s0 z tell ov bp bv) (h2:S w D ts) (h3:∀k,D k→k≠r∧ov.ownBlock≠some k∧bv.ownBlock≠some k) (h4:∀k,E k↔k=r∨ov.ownBlock=some k∨bv.ownBlock=some k∨D k)
 (hb:Blk w' r (rcl s1 z' ov bp bv tell) 115) (f0:Fr (fun k=>k=r) w w') (hop:z'.op=z.op) (htx:tkx z'.tk.k z'.tx=tkx z.tk.k z.tx):RM S tell r s1 z' ts E w'∧Ev E w E w':=by
 refine ⟨⟨ov,bp,bv,D,⟨hb,?_,?_,h1.p,?_⟩,hS.keep h2 (fun k hk=>f0.block k (hS.lt h2 hk) (h3 k hk).1) f0.size,h3,h4⟩,⟨fun _=>Or.inl,f0.mono (fun k _ e=>(h4 k).2 (Or.inl e))⟩⟩
 ·rw [hop]; exact own_fr h1.o f0 (fun k hk e=>by omega)
 ·rw [htx]; exact own_fr h1.t f0 (fun k hk e=>by omega)
 rw [htx]; exact h1.e
theorem RM.tell {S:World→(Nat→Prop)→List Tok→Prop} {f:Value} {V:List Tok→Tok→Prop} (hS:Sink f S V):∃N first cap,f=.func (.func N) first cap∧(∀args w,(callFunc N args).run Tryz.prog w=.ok (.enter N args) w) ∧
 ∀{r s0:Nat} {z:Sn} {ts:List Tok} {E:Nat→Prop} {w:World} (t:Tok),RM S f r s0 z ts E w→V ts t→Calls Tryz.prog N (first.push (tagg t)++cap) w fun res w'=>res=.returned (.tuple #[])∧∃E',RM S f r s0 z (ts++[t]) E' w'∧Ev E w E' w':=by
 obtain ⟨N,first,cap,hf,hE,hc⟩:=hS.call
 refine ⟨N,first,cap,hf,hE,fun {r s0 z ts E w} t h hV=>?_⟩
 obtain ⟨ov,bp,bv,D,h1,h2,h3,h4⟩:=h.ex
 refine (hc w D ts t h2 hV).mono ?_
 rintro res w' ⟨rfl,D',g1,g2,g3⟩
 have kb:∀k,k<w.heap.size→¬D k→w'.heap[k]?=w.heap[k]?:=fun k hk hn=>g3.block k hk hn
 have nr:¬D r:=fun x=>(h3 r x).1 rfl
 refine ⟨rfl,fun k=>k=r∨ov.ownBlock=some k∨bv.ownBlock=some k∨D' k,⟨ov,bp,bv,D',⟨(kb r h1.b.lt nr).trans h1.b,own_at' h1.o (fun k hk=>kb k (h1.o.lt k hk).2 (fun x=>(h3 k x).2.1 hk)),own_at' h1.t (fun k hk=>kb k (h1.t.lt k hk).2 (fun x=>(h3 k x).2.2 hk)),h1.p,h1.e⟩,g1,fun k hk=>?_,fun _=>Iff.rfl⟩,⟨fun k hk=>?_,g3.mono (fun k _ x=>(h4 k).2 (Or.inr (Or.inr (Or.inr x))))⟩⟩
 ·rcases g2 k hk with x | x
  ·exact h3 k x
  refine ⟨fun e=>by have:=h1.b.lt; omega,fun e=>by have:=(h1.o.lt k e).2; omega,fun e=>by have:=(h1.t.lt k e).2; omega⟩
 rcases hk with x | x | x | x
 ·exact Or.inl ((h4 k).2 (Or.inl x))
 ·exact Or.inl ((h4 k).2 (Or.inr (Or.inl x)))
 ·exact Or.inl ((h4 k).2 (Or.inr (Or.inr (Or.inl x))))
 rcases g2 k x with y | y
 ·exact Or.inl ((h4 k).2 (Or.inr (Or.inr (Or.inr y))))
 exact Or.inr y
end Go.Proofs.YtcbadebjpogmlaaGreatDoor
namespace Go.Proofs
open Go.Shelf
def Tryz.laysM171_ren:Go.Shelf.Ren:=⟨fun | 171=>75 | 243=>103 | 246=>140 | 283=>184 | 284=>185 | 285=>186 | 286=>187 | 129=>227 | 317=>226 | 318=>228 | 319=>229 | 320=>230 | 337=>245 | 338=>246 | n=>n,fun | 3=>3 | 9=>9 | 2=>2 | 4=>4 | 171=>257 | 0=>0 | 53=>258 | 37=>110 | 5=>5 | 173=>261 | 212=>277 | 51=>278 | 20=>20 | 213=>279 | 46=>281 | 232=>304 | 233=>305 | n=>n,fun | 17=>0 | 18=>4 | 19=>5 | n=>n⟩
theorem Tryz.laysM171:Go.Proofs.LaysM.n171 Tryz.prog Tryz.laysM171_ren:={
 mixed:=by kernel_rfl
 f129:=Tryz.func227.trans (congrArg some (by kernel_rfl))
 f171:=Tryz.func75.trans (congrArg some (by kernel_rfl))
 f243:=Tryz.func103.trans (congrArg some (by kernel_rfl))
 f246:=Tryz.func140.trans (congrArg some (by kernel_rfl))
 f283:=Tryz.func184.trans (congrArg some (by kernel_rfl))
 f284:=Tryz.func185.trans (congrArg some (by kernel_rfl))
 f285:=Tryz.func186.trans (congrArg some (by kernel_rfl))
 f286:=Tryz.func187.trans (congrArg some (by kernel_rfl))
 f317:=Tryz.func226.trans (congrArg some (by kernel_rfl))
 f318:=Tryz.func228.trans (congrArg some (by kernel_rfl))
 f319:=Tryz.func229.trans (congrArg some (by kernel_rfl))
 f320:=Tryz.func230.trans (congrArg some (by kernel_rfl))
 f337:=Tryz.func245.trans (congrArg some (by kernel_rfl))
 f338:=Tryz.func246.trans (congrArg some (by kernel_rfl))
 t0:=Tryz.underlying0
 a0:=Tryz.isAgg0
 z0:=Tryz.sizeOf0
 v0:=Tryz.zeroValue0
 t2:=Tryz.underlying2
 a2:=Tryz.isAgg2
 z2:=Tryz.sizeOf2
 v2:=Tryz.zeroValue2
 t3:=Tryz.underlying3
 a3:=Tryz.isAgg3
 z3:=Tryz.sizeOf3
 v3:=Tryz.zeroValue3
 t4:=Tryz.underlying4
 a4:=Tryz.isAgg4
 z4:=Tryz.sizeOf4
 v4:=Tryz.zeroValue4
 t5:=Tryz.underlying5
 a5:=Tryz.isAgg5
 z5:=Tryz.sizeOf5
 v5:=Tryz.zeroValue5
 t9:=Tryz.underlying9
 a9:=Tryz.isAgg9
 z9:=Tryz.sizeOf9
 v9:=Tryz.zeroValue9
 t20:=Tryz.underlying20
 a20:=Tryz.isAgg20
 z20:=Tryz.sizeOf20
 v20:=Tryz.zeroValue20
 t37:=Tryz.underlying110
 a37:=Tryz.isAgg110
 z37:=Tryz.sizeOf110
 v37:=Tryz.zeroValue110
 t46:=Tryz.underlying281
 a46:=Tryz.isAgg281
 z46:=Tryz.sizeOf281
 v46:=Tryz.zeroValue281
 t51:=Tryz.underlying278
 a51:=Tryz.isAgg278
 z51:=Tryz.sizeOf278
 v51:=Tryz.zeroValue278
 t53:=Tryz.underlying258
 a53:=Tryz.isAgg258
 z53:=Tryz.sizeOf258
 v53:=Tryz.zeroValue258
 t171:=Tryz.underlying257
 a171:=Tryz.isAgg257
 z171:=Tryz.sizeOf257
 v171:=Tryz.zeroValue257
 t173:=Tryz.underlying261
 a173:=Tryz.isAgg261
 z173:=Tryz.sizeOf261
 v173:=Tryz.zeroValue261
 t212:=Tryz.underlying277
 a212:=Tryz.isAgg277
 z212:=Tryz.sizeOf277
 v212:=Tryz.zeroValue277
 t213:=Tryz.underlying279
 a213:=Tryz.isAgg279
 z213:=Tryz.sizeOf279
 t232:=Tryz.underlying304
 a232:=Tryz.isAgg304
 z232:=Tryz.sizeOf304
 v232:=Tryz.zeroValue304
 t233:=Tryz.underlying305
 a233:=Tryz.isAgg305
 z233:=Tryz.sizeOf305
 v233:=Tryz.zeroValue305
 g17:=by kernel_rfl
 g18:=by kernel_rfl
 g19:=by kernel_rfl
 i0:=by kernel_rfl
 i2:=by kernel_rfl
 i3:=by kernel_rfl
 i4:=by kernel_rfl
 i5:=by kernel_rfl
 i9:=by kernel_rfl
 i20:=by kernel_rfl
 i37:=by kernel_rfl
 i46:=by kernel_rfl
 i51:=by kernel_rfl
 i53:=by kernel_rfl
 i171:=by kernel_rfl
 i173:=by kernel_rfl
 i212:=by kernel_rfl
 i232:=by kernel_rfl
 i233:=by kernel_rfl
 m17:=by kernel_rfl
 m18:=by kernel_rfl
 m19:=by kernel_rfl }
def Tryz.lays155_ren:Go.Shelf.Ren:=⟨fun | 155=>104 | 154=>141 | 138=>188 | 165=>189 | 143=>190 | 166=>86 | 197=>191 | 169=>88 | 195=>231 | 218=>232 | 240=>114 | 241=>233 | 219=>234 | 260=>235 | 276=>158 | 277=>247 | 217=>144 | 225=>248 | 224=>249 | 267=>250 | 266=>192 | 314=>260 | n=>n,fun | 9=>9 | 3=>3 | 4=>4 | 72=>112 | 0=>0 | 76=>181 | 105=>265 | 21=>21 | 5=>5 | 70=>109 | 20=>20 | 37=>110 | 75=>180 | 127=>209 | 164=>234 | 46=>281 | 119=>295 | 139=>298 | 138=>297 | 146=>306 | 51=>278 | 80=>52 | n=>n,fun | 1=>1 | 3=>2 | 4=>3 | n=>n⟩
theorem Tryz.lays155:Go.Proofs.Lays.n155 Tryz.prog Tryz.lays155_ren:={
 mixed:=by kernel_rfl
 f138:=Tryz.func188.trans (congrArg some (by kernel_rfl))
 f143:=Tryz.func190.trans (congrArg some (by kernel_rfl))
 f154:=Tryz.func141.trans (congrArg some (by kernel_rfl))
 f155:=Tryz.func104.trans (congrArg some (by kernel_rfl))
 f165:=Tryz.func189.trans (congrArg some (by kernel_rfl))
 f166:=Tryz.func86.trans (congrArg some (by kernel_rfl))
 f169:=Tryz.func88.trans (congrArg some (by kernel_rfl))
 f195:=Tryz.func231.trans (congrArg some (by kernel_rfl))
 f197:=Tryz.func191.trans (congrArg some (by kernel_rfl))
 f217:=Tryz.func144.trans (congrArg some (by kernel_rfl))
 f218:=Tryz.func232.trans (congrArg some (by kernel_rfl))
 f219:=Tryz.func234.trans (congrArg some (by kernel_rfl))
 f224:=Tryz.func249.trans (congrArg some (by kernel_rfl))
 f225:=Tryz.func248.trans (congrArg some (by kernel_rfl))
 f240:=Tryz.func114.trans (congrArg some (by kernel_rfl))
 f241:=Tryz.func233.trans (congrArg some (by kernel_rfl))
 f260:=Tryz.func235.trans (congrArg some (by kernel_rfl))
 f266:=Tryz.func192.trans (congrArg some (by kernel_rfl))
 f267:=Tryz.func250.trans (congrArg some (by kernel_rfl))
 f276:=Tryz.func158.trans (congrArg some (by kernel_rfl))
 f277:=Tryz.func247.trans (congrArg some (by kernel_rfl))
 f314:=Tryz.func260.trans (congrArg some (by kernel_rfl))
 t0:=Tryz.underlying0
 a0:=Tryz.isAgg0
 z0:=Tryz.sizeOf0
 v0:=Tryz.zeroValue0
 t3:=Tryz.underlying3
 a3:=Tryz.isAgg3
 z3:=Tryz.sizeOf3
 v3:=Tryz.zeroValue3
 t4:=Tryz.underlying4
 a4:=Tryz.isAgg4
 z4:=Tryz.sizeOf4
 v4:=Tryz.zeroValue4
 t5:=Tryz.underlying5
 a5:=Tryz.isAgg5
 z5:=Tryz.sizeOf5
 v5:=Tryz.zeroValue5
 t9:=Tryz.underlying9
 a9:=Tryz.isAgg9
 z9:=Tryz.sizeOf9
 v9:=Tryz.zeroValue9
 t20:=Tryz.underlying20
 a20:=Tryz.isAgg20
 z20:=Tryz.sizeOf20
 v20:=Tryz.zeroValue20
 t21:=Tryz.underlying21
 a21:=Tryz.isAgg21
 z21:=Tryz.sizeOf21
 v21:=Tryz.zeroValue21
 t37:=Tryz.underlying110
 a37:=Tryz.isAgg110
 z37:=Tryz.sizeOf110
 v37:=Tryz.zeroValue110
 t46:=Tryz.underlying281
 a46:=Tryz.isAgg281
 z46:=Tryz.sizeOf281
 v46:=Tryz.zeroValue281
 t51:=Tryz.underlying278
 a51:=Tryz.isAgg278
 z51:=Tryz.sizeOf278
 v51:=Tryz.zeroValue278
 t70:=Tryz.underlying109
 a70:=Tryz.isAgg109
 z70:=Tryz.sizeOf109
 v70:=Tryz.zeroValue109
 t72:=Tryz.underlying112
 a72:=Tryz.isAgg112
 z72:=Tryz.sizeOf112
 v72:=Tryz.zeroValue112
 t75:=Tryz.underlying180
 a75:=Tryz.isAgg180
 z75:=Tryz.sizeOf180
 v75:=Tryz.zeroValue180
 t76:=Tryz.underlying181
 a76:=Tryz.isAgg181
 z76:=Tryz.sizeOf181
 v76:=Tryz.zeroValue181
 t105:=Tryz.underlying265
 a105:=Tryz.isAgg265
 z105:=Tryz.sizeOf265
 v105:=Tryz.zeroValue265
 t119:=Tryz.underlying295
 a119:=Tryz.isAgg295
 z119:=Tryz.sizeOf295
 t127:=Tryz.underlying209
 a127:=Tryz.isAgg209
 z127:=Tryz.sizeOf209
 v127:=Tryz.zeroValue209
 t138:=Tryz.underlying297
 a138:=Tryz.isAgg297
 z138:=Tryz.sizeOf297
 v138:=Tryz.zeroValue297
 t139:=Tryz.underlying298
 a139:=Tryz.isAgg298
 z139:=Tryz.sizeOf298
 v139:=Tryz.zeroValue298
 t146:=Tryz.underlying306
 a146:=Tryz.isAgg306
 z146:=Tryz.sizeOf306
 v146:=Tryz.zeroValue306
 t164:=Tryz.underlying234
 a164:=Tryz.isAgg234
 z164:=Tryz.sizeOf234
 v164:=Tryz.zeroValue234
 g1:=by kernel_rfl
 g3:=by kernel_rfl
 g4:=by kernel_rfl }
def Tryz.lays137_ren:Go.Shelf.Ren:=⟨fun | 137=>110 | 217=>144 | 266=>192 | n=>n,fun | 9=>9 | 5=>5 | 3=>3 | n=>n,fun | n=>n⟩
theorem Tryz.lays137:Go.Proofs.Lays.n137 Tryz.prog Tryz.lays137_ren:={
 mixed:=by kernel_rfl
 f137:=Tryz.func110.trans (congrArg some (by kernel_rfl))
 f217:=Tryz.func144.trans (congrArg some (by kernel_rfl))
 f266:=Tryz.func192.trans (congrArg some (by kernel_rfl))
 t3:=Tryz.underlying3
 a3:=Tryz.isAgg3
 z3:=Tryz.sizeOf3
 v3:=Tryz.zeroValue3
 t5:=Tryz.underlying5
 a5:=Tryz.isAgg5
 z5:=Tryz.sizeOf5
 v5:=Tryz.zeroValue5
 t9:=Tryz.underlying9
 a9:=Tryz.isAgg9
 z9:=Tryz.sizeOf9
 v9:=Tryz.zeroValue9 }
end Go.Proofs
namespace Go.Proofs.YtcbadebjpogmlaaGreatDoor
open Go.RowKit Tr
theorem opCells_last {l:List Nat} {m k:Nat} (hl:l.length=m+1) (h:l.getLast?=some k):(opCells l)[m]?=some (.int .i64 (k:Nat)):=by
 have:l[m]?=some k:=by rw [List.getLast?_eq_getElem?,hl] at h; exact h
 simp [opCells,this]
set_option maxHeartbeats 1000000 in
set_option maxRecDepth 100000 in
theorem t_innermost {w:World} {r s0:Nat} {z:Sn} {tell ov bp bv:Value} (h:RS w r s0 z tell ov bp bv) {k:Nat} (hk:z.op.getLast?=some k) (h8:z.op.length≤8) :
 Calls Tryz.prog 222 #[.pointer (some ⟨r,0,none⟩)] w fun res w'=>res=.returned (.int .i64 (k:Nat))∧∃n,w'=w.drewN n:=by
 obtain ⟨m,hm⟩:∃m,z.op.length=m+1:=⟨z.op.length - 1,by have:z.op≠[]:=(fun e=>by rw [e] at hk; cases hk); have:=List.length_pos_iff.2 this; omega⟩
 have ho:=h.o
 rw [hm] at ho
 obtain ⟨g,cap,hv,_,hgl⟩:=ho.form (by omega)
 subst hv
 have c2:w.cell? ⟨r,2,none⟩=some (.slice (some ⟨g,0,none⟩) (m+1) cap):=h.b.cell 2
 have cm:w.cell? ⟨g,m,none⟩=some (.int .i64 (k:Nat)):=(ho.cellAt m (by omega)).trans (opCells_last hm hk)
 have hwr:IntKind.i64.wrap ((m:Int)+1 - 1)=(m:Int):=by rw [IntWalk.i64_in _ (by omega)]; omega
 have hm8:m≤8:=by omega
 clear h ho hk hm h8
 go_enter Tryz.func222,Tryz.ntmps222
 go_wp2
 go_quiet (fail)
 go_wp2
 go_ret
 exact ⟨rfl,_,rfl⟩
set_option maxHeartbeats 1000000 in
set_option maxRecDepth 100000 in
theorem t_mayFollow {w:World} {r s0:Nat} {z:Sn} {tell ov bp bv:Value} (h:RS w r s0 z tell ov bp bv) (h8:z.op.length≤8) (hk6:∀k ∈ z.op,k=5∨k=6) (b:Nat) (hb:b<256) :
 Calls Tryz.prog 178 #[.pointer (some ⟨r,0,none⟩),.int .u8 (b:Int)] w fun res w'=>res=.returned (.bool (mayF z.op b))∧∃n,w'=w.drewN n:=by
 have KB:=hide (fun w=>t_isBlank (w:=w) b hb)
 have c2:w.cell? ⟨r,2,none⟩=some ov:=h.b.cell 2
 by_cases h1:isBl b=true
 ·have e:mayF z.op b=true:=by simp [mayF,h1]
  rw [e]
  rw [h1] at KB
  clear h e c2 h1
  go_enter Tryz.func178,Tryz.ntmps178
  go_wp2_with fail
  refine (KB.out _).mono ?_
  rintro r w' ⟨rfl,rfl⟩
  go_wp2
  go_ret
  exact ⟨rfl,0,rfl⟩
 have h1:isBl b=false:=by simpa using h1
 rw [h1] at KB
 by_cases h2:z.op=[]
 ·have e:mayF z.op b=false:=by simp [mayF,h1,h2]
  rw [e]
  obtain ⟨ao,cp,rfl⟩:=own_slice h.o
  rw [h2] at c2
  simp only [List.length_nil] at c2
  clear h e h1 h2
  go_enter Tryz.func178,Tryz.ntmps178
  go_wp2_with fail
  refine (KB.out _).mono ?_
  rintro r w' ⟨rfl,rfl⟩
  go_wp2
  go_ret
  exact ⟨rfl,0,rfl⟩
 obtain ⟨k,hk⟩:∃k,z.op.getLast?=some k:=⟨_,List.getLast?_eq_some_getLast h2⟩
 have KI:=hide (t_innermost h hk h8)
 obtain ⟨ao,cp,rfl⟩:=own_slice h.o
 obtain ⟨L,hL⟩:∃L,L=z.op.length:=⟨_,rfl⟩
 rw [← hL] at c2 h8
 have hLp:L≠0:=fun e=>h2 (List.length_eq_zero_iff.1 (by omega))
 have eL:((L:Int) == 0)=false:=by rw [beq_eq_false_iff_ne]; omega
 have hkk:k=5∨k=6:=hk6 k (List.mem_of_getLast? hk)
 have e:mayF z.op b=(if k=6 then (b == 44 || b == 125) else (b == 44 || b == 93)):=by
  have:z.op.isEmpty=false:=by simpa using h2
  simp [mayF,h1,this,inThing,hk]
 rw [e]
 clear h e h1 h2 hk hL hk6 hLp
 have e44:((b:Int) == 44)=(b == 44):=by rw [Bool.eq_iff_iff]; simp; omega
 have e125:((b:Int) == 125)=(b == 125):=by rw [Bool.eq_iff_iff]; simp; omega
 have e93:((b:Int) == 93)=(b == 93):=by rw [Bool.eq_iff_iff]; simp; omega
 rcases hkk with rfl | rfl
 ·rw [if_neg (by decide)]
  by_cases h44:b=44
  ·subst h44
   clear e44 e125 e93
   go_enter Tryz.func178,Tryz.ntmps178
   go_wp2_with fail
   refine (KB.out _).mono ?_
   rintro r w' ⟨rfl,rfl⟩
   go_wp2_with fail
   refine (KI.out).mono ?_
   rintro r w' ⟨rfl,n,rfl⟩
   go_wp2
   go_ret
   exact ⟨rfl,_,rfl⟩
  have n44:(b == 44)=false:=by simpa using h44
  rw [n44] at e44
  rw [n44,← e93]
  clear n44 e93 e125
  go_enter Tryz.func178,Tryz.ntmps178
  go_wp2_with fail
  refine (KB.out _).mono ?_
  rintro r w' ⟨rfl,rfl⟩
  go_wp2_with fail
  refine (KI.out).mono ?_
  rintro r w' ⟨rfl,n,rfl⟩
  go_wp2
  go_ret
  exact ⟨rfl,_,rfl⟩
 rw [if_pos rfl]
 by_cases h44:b=44
 ·subst h44
  clear e44 e125 e93
  go_enter Tryz.func178,Tryz.ntmps178
  go_wp2_with fail
  refine (KB.out _).mono ?_
  rintro r w' ⟨rfl,rfl⟩
  go_wp2_with fail
  refine (KI.out).mono ?_
  rintro r w' ⟨rfl,n,rfl⟩
  go_wp2
  go_ret
  exact ⟨rfl,_,rfl⟩
 have n44:(b == 44)=false:=by simpa using h44
 rw [n44] at e44
 rw [n44,← e125]
 clear n44 e93 e125
 go_enter Tryz.func178,Tryz.ntmps178
 go_wp2_with fail
 refine (KB.out _).mono ?_
 rintro r w' ⟨rfl,rfl⟩
 go_wp2_with fail
 refine (KI.out).mono ?_
 rintro r w' ⟨rfl,n,rfl⟩
 go_wp2
 go_ret
 exact ⟨rfl,_,rfl⟩
theorem own_pre {w:World} {B e g m cap:Nat} {xs:List Value} (h:w.ownsRow B e 1 (.slice (some ⟨g,0,none⟩) (m+1) cap) (m+1) xs):w.ownsRow B e 1 (.slice (some ⟨g,0,none⟩) m cap) m (xs.take m)∧m+1≤cap:=by
 have hl:=h.1
 rcases h.2 with ⟨x,_⟩ | ⟨g2,cap2,cur,x,y1,y2,y3,y4,y5,y6⟩
 ·cases x
 injection x with x1 x2 x3
 injection x1 with x1
 injection x1 with x1
 subst x1 x3
 refine ⟨⟨by simp; omega,Or.inr ⟨g,cap,cur,rfl,y1,y2,by omega,y4,y5,?_⟩⟩,y3⟩
 rw [← y6,List.take_take]
 congr 1
 omega
set_option maxHeartbeats 1000000 in
set_option maxRecDepth 100000 in
theorem t_shut {S:World→(Nat→Prop)→List Tok→Prop} {V:List Tok→Tok→Prop} {tell:Value} (hS:Sink tell S V) {w:World} {r s0:Nat} {z:Sn} {ts:List Tok} {E:Nat→Prop} (h:RM S tell r s0 z ts E w) (hne:z.op≠[]) (h8:z.op.length≤8) (hat:z.at'≤4000000) (hV:VL V ts (sShut z).ts) :
 Calls Tryz.prog 181 #[.pointer (some ⟨r,0,none⟩)] w (RP S tell r s0 (sShut z) ts E w):=by
 obtain ⟨ov,bp,bv,D,h1,h2,h3,h4⟩:=h.ex
 obtain ⟨m,hm⟩:∃m,z.op.length=m+1:=⟨z.op.length - 1,by have:=List.length_pos_iff.2 hne; omega⟩
 have ho:=h1.o
 rw [hm] at ho
 obtain ⟨g,cap,hv,hbg,hgl⟩:=ho.form (by omega)
 subst hv
 obtain ⟨N,first,cp2,htell,hE,hcall⟩:=RM.tell hS
 have c2:w.cell? ⟨r,2,none⟩=some (.slice (some ⟨g,0,none⟩) (m+1) cap):=h1.b.cell 2
 have c1:w.cell? ⟨r,1,none⟩=some (.int .i64 (z.at':Nat)):=h1.b.cell 1
 have c14:w.cell? ⟨r,14,none⟩=some tell:=h1.b.cell 14
 have fz:=h1.b.fz
 have hwr:IntKind.i64.wrap ((m:Int)+1 - 1)=(m:Int):=by rw [IntWalk.i64_in _ (by omega)]; omega
 have hm8:m≤8:=by omega
 have hcap:(m:Int)≤(cap:Int):=by
  rcases ho.2 with ⟨x,_⟩ | ⟨g2,cap2,cur,x,_,_,y,_⟩
  ·cases x
  injection x with _ _ x3; omega
 have hcap2:m+1≤cap:=(own_pre ho).2
 obtain ⟨z1,hz1⟩:∃z1:Sn,z1={ z with st:=5,op:=z.op.dropLast }:=⟨_,rfl⟩
 have M1:Hid (RM S tell r s0 z1 ts E (w.setCell ⟨r,2,none⟩ (.slice (some ⟨g,0,none⟩) m cap)).drew∧Fr E w (w.setCell ⟨r,2,none⟩ (.slice (some ⟨g,0,none⟩) m cap)).drew):=by
  have f0:Fr (fun k=>k=r) w (w.setCell ⟨r,2,none⟩ (.slice (some ⟨g,0,none⟩) m cap)).drew:=((Fr.refl (fun k=>k=r) w).setCell ⟨r,2,none⟩ (Or.inl rfl) _).drew
  refine ⟨⟨.slice (some ⟨g,0,none⟩) m cap,bp,bv,D,⟨?_,?_,?_,h1.p,?_⟩,hS.keep h2 (fun k hk=>f0.block k (hS.lt h2 hk) (h3 k hk).1) f0.size,h3,h4⟩,f0.mono (fun k _ e=>(h4 k).2 (Or.inl e))⟩
  ·rw [hz1]; exact h1.b.set 2 _
  ·rw [hz1]
   have e1:z.op.dropLast.length=m:=by simp [hm]
   have e2:(opCells z.op).take m=opCells z.op.dropLast:=by rw [List.dropLast_eq_take,hm]; simp [opCells,List.map_take]
   show World.ownsRow _ _ _ _ _ z.op.dropLast.length _
   rw [e1,← e2]
   exact own_fr (own_pre ho).1 f0 (fun k hk e=>by omega)
  ·rw [hz1]; exact own_fr h1.t f0 (fun k hk e=>by omega)
  rw [hz1]; exact h1.e
 have hZ:Hid (z1={ z with st:=5,op:=z.op.dropLast }):=hz1
 have HV:Hid (V ts ⟨1,0,0,z.at'+1,0,[]⟩):=hV.1
 have TE:Hid (∀W,RM S tell r s0 z1 ts E W→Calls Tryz.prog N (first.push (tagg ⟨1,0,0,z.at'+1,0,[]⟩)++cp2) W fun res w'=>res=.returned (.tuple #[])∧∃E',RM S tell r s0 z1 (ts++[⟨1,0,0,z.at'+1,0,[]⟩]) E' w'∧Ev E W E' w'):=fun W hW=>hcall _ hW HV.out
 have DR:Hid (∀W n,RM S tell r s0 z1 ts E W→RM S tell r s0 z1 ts E (W.drewN n)):=fun W n hW=>RM.drewN hS hW n
 have hwa:IntKind.i64.wrap ((z.at':Int)+1)=((z.at'+1:Nat):Int):=by rw [IntWalk.i64_in _ (by omega)]; omega
 clear hcall h h1 h2 h3 h4 ho hm hV hne h8 hS hz1
 subst htell
 go_enter Tryz.func181,Tryz.ntmps181
 go_wp2
 go_region
 all_goals
  have d1:(w.setCell ⟨r,2,none⟩ (.slice (some ⟨g,0,none⟩) m cap)).drew.cell? ⟨r,1,none⟩=some (.int .i64 (z.at':Nat)):=by
   obtain ⟨_,_,_,_,y,_⟩:=M1.out.1.ex
   have:=y.b.cell 1
   rw [hZ.out] at this
   exact this
  have d14:(w.setCell ⟨r,2,none⟩ (.slice (some ⟨g,0,none⟩) m cap)).drew.cell? ⟨r,14,none⟩=some (.func (.func N) first cp2):=by
   obtain ⟨_,_,_,_,y,_⟩:=M1.out.1.ex
   exact y.b.cell 14
  clear c1 c2 c14 fz
  generalize (w.setCell ⟨r,2,none⟩ (.slice (some ⟨g,0,none⟩) m cap)).drew=W1 at *
  go_wp2
  go_region_with (refine (TE.out _ (DR.out _ 1 M1.out.1)).mono ?_; rintro res w2 ⟨rfl,E2,hM2,hE2⟩; have M2:=hide hM2; have EV2:=hide hE2; clear hM2 hE2)
  all_goals
   go_wp2
   go_ret
   exact ⟨rfl,E2,by rw [← show z1=(sShut z).z from hZ.out]; exact M2.out,(Ev.mk (fun _=>Or.inl) (M1.out.2.drewN 1)).trans EV2.out⟩
end Go.Proofs.YtcbadebjpogmlaaGreatDoor
namespace Go.Proofs.YtcbadebjpogmlaaGreatDoor
open Go.RowKit Tr
theorem RM.st {S:World→(Nat→Prop)→List Tok→Prop} {tell:Value} {r s0:Nat} {z:Sn} {ts:List Tok} {E:Nat→Prop} {w:World} (h:RM S tell r s0 z ts E w) (s:Nat):RM S tell r s0 { z with st:=s } ts E w:=by
 obtain ⟨ov,bp,bv,D,h1,h2⟩:=h.ex
 exact ⟨ov,bp,bv,D,⟨h1.b,h1.o,h1.t,h1.p,h1.e⟩,h2⟩
theorem RM.to {S:World→(Nat→Prop)→List Tok→Prop} {tell:Value} {r s0:Nat} {z:Sn} {ts:List Tok} {E E':Nat→Prop} {w w':World} (h:RM S tell r s0 z ts E' w') (v:Ev E w E' w') (s:Nat):RP S tell r s0 (z.to s) ts E w (.returned (.int .i64 (s:Nat))) w' :=
 ⟨rfl,E',by rw [show (z.to s).ts=[] from rfl,List.append_nil]; exact h.st s,v⟩
theorem RM.rs {S:World→(Nat→Prop)→List Tok→Prop} {tell:Value} {r s0:Nat} {z:Sn} {ts:List Tok} {E:Nat→Prop} {w:World} (h:RM S tell r s0 z ts E w):∃ov bp bv,RS w r s0 z tell ov bp bv:=by
 obtain ⟨ov,bp,bv,D,h1,_⟩:=h.ex
 exact ⟨ov,bp,bv,h1⟩
theorem VL.app {V:List Tok→Tok→Prop}:∀{ts a b:List Tok},VL V ts (a++b)→VL V ts a∧VL V (ts++a) b
 | ts,[],b,h=>⟨trivial,by simpa using h⟩
 | ts,t::a,b,h=>by
  obtain ⟨h1,h2⟩:=h
  obtain ⟨h3,h4⟩:=VL.app h2
  exact ⟨⟨h1,h3⟩,by simpa using h4⟩
set_option maxHeartbeats 2000000 in
set_option maxRecDepth 100000 in
theorem t_behind {S:World→(Nat→Prop)→List Tok→Prop} {V:List Tok→Tok→Prop} {tell:Value} (hS:Sink tell S V) {w:World} {r s0:Nat} {z:Sn} {ts:List Tok} {E:Nat→Prop} (h:RM S tell r s0 z ts E w) (h8:z.op.length≤8) (h6:∀k ∈ z.op,k=5∨k=6) (hat:z.at'≤4000000) (b:Nat) (hb:b<256) (hV:VL V ts (sBehind z b).ts) :
 Calls Tryz.prog 179 #[.pointer (some ⟨r,0,none⟩),.int .u8 (b:Int)] w (RP S tell r s0 (sBehind z b) ts E w):=by
 obtain ⟨ov,bp,bv,h1⟩:=h.rs
 have MF:=hide (t_mayFollow h1 h8 h6 b hb)
 have KB:=hide (fun w=>t_isBlank (w:=w) b hb)
 have DR:Hid (∀n,RM S tell r s0 z ts E (w.drewN n)):=fun n=>RM.drewN hS h n
 have EV:Hid (∀n,Ev E w E (w.drewN n)):=fun n=>(Ev.refl E w).drewN n
 by_cases c1:mayF z.op b=false
 ·have e:sBehind z b=z.to 12:=by unfold sBehind; rw [if_pos c1]
  rw [e]
  rw [c1] at MF
  clear h h1 hV e c1 h6 h8
  go_enter Tryz.func179,Tryz.ntmps179
  go_wp2_with fail
  refine (MF.out).mono ?_
  rintro res w1 ⟨rfl,n,rfl⟩
  go_wp2
  go_ret
  exact (DR.out n).to (EV.out n) 12
 have c1':mayF z.op b=true:=by simpa using c1
 rw [c1'] at MF
 by_cases c2:isBl b=true
 ·have e:sBehind z b=z.to 5:=by unfold sBehind; rw [if_neg c1,if_pos c2]
  rw [e]
  rw [c2] at KB
  clear h h1 hV e c1 c2 c1' h6 h8
  go_enter Tryz.func179,Tryz.ntmps179
  go_wp2_with fail
  refine (MF.out).mono ?_
  rintro res w1 ⟨rfl,n,rfl⟩
  go_wp2_with fail
  refine (KB.out _).mono ?_
  rintro res w1 ⟨rfl,rfl⟩
  go_wp2
  go_ret
  exact (DR.out n).to (EV.out n) 5
 have c2':isBl b=false:=by simpa using c2
 rw [c2'] at KB
 have hne:z.op≠[]:=fun x=>by simp [mayF,c2',x] at c1'
 by_cases c3:b≠44
 ·have e:sBehind z b=sShut z:=by unfold sBehind; rw [if_neg c1,if_neg c2,if_pos c3]
  rw [e] at hV ⊢
  have b44:((b:Int) != 44)=true:=by rw [bne_iff_ne]; omega
  have SH:Hid (∀n,Calls Tryz.prog 181 #[.pointer (some ⟨r,0,none⟩)] (w.drewN n) (RP S tell r s0 (sShut z) ts E (w.drewN n))):=fun n=>t_shut hS (DR.out n) hne h8 hat hV
  clear h h1 hV e c1 c2 c1' h6 h8 c3 hne
  go_enter Tryz.func179,Tryz.ntmps179
  go_wp2_with fail
  refine (MF.out).mono ?_
  rintro res w1 ⟨rfl,n,rfl⟩
  go_wp2_with fail
  refine (KB.out _).mono ?_
  rintro res w1 ⟨rfl,rfl⟩
  go_wp2_with fail
  refine (SH.out n).mono ?_
  rintro res w1 ⟨rfl,E1,hM,hE⟩
  have M1:=hide hM
  have E1':=hide hE
  clear hM hE
  go_wp2
  go_ret
  exact ⟨rfl,E1,M1.out,(EV.out n).trans E1'.out⟩
 have c3':b=44:=by omega
 subst c3'
 obtain ⟨k,hk⟩:∃k,z.op.getLast?=some k:=⟨_,List.getLast?_eq_some_getLast hne⟩
 have IN:Hid (∀n,Calls Tryz.prog 222 #[.pointer (some ⟨r,0,none⟩)] (w.drewN n) fun res w'=>res=.returned (.int .i64 (k:Nat))∧∃m,w'=(w.drewN n).drewN m):=fun n=>by
  obtain ⟨_,_,_,y⟩:=(DR.out n).rs
  exact t_innermost y hk h8
 have hkk:k=5∨k=6:=h6 k (List.mem_of_getLast? hk)
 rcases hkk with rfl | rfl
 ·have e:sBehind z 44=z.to 0:=by unfold sBehind; rw [if_neg c1,if_neg c2,if_neg c3]; simp [inThing,hk]
  rw [e]
  clear h h1 hV e c1 c2 c1' h6 h8 c3 hne hk c2'
  go_enter Tryz.func179,Tryz.ntmps179
  go_wp2_with fail
  refine (MF.out).mono ?_
  rintro res w1 ⟨rfl,n,rfl⟩
  go_wp2_with fail
  refine (KB.out _).mono ?_
  rintro res w1 ⟨rfl,rfl⟩
  go_wp2_with fail
  refine (IN.out n).mono ?_
  rintro res w1 ⟨rfl,m,rfl⟩
  rw [drewN3]
  go_wp2
  go_ret
  exact (DR.out _).to (EV.out _) 0
 have e:sBehind z 44=z.to 3:=by unfold sBehind; rw [if_neg c1,if_neg c2,if_neg c3]; simp [inThing,hk]
 rw [e]
 clear h h1 hV e c1 c2 c1' h6 h8 c3 hne hk c2'
 go_enter Tryz.func179,Tryz.ntmps179
 go_wp2_with fail
 refine (MF.out).mono ?_
 rintro res w1 ⟨rfl,n,rfl⟩
 go_wp2_with fail
 refine (KB.out _).mono ?_
 rintro res w1 ⟨rfl,rfl⟩
 go_wp2_with fail
 refine (IN.out n).mono ?_
 rintro res w1 ⟨rfl,m,rfl⟩
 rw [drewN3]
 go_wp2
 go_ret
 exact (DR.out _).to (EV.out _) 3
set_option maxHeartbeats 2000000 in
set_option maxRecDepth 100000 in
theorem t_endPlain {S:World→(Nat→Prop)→List Tok→Prop} {V:List Tok→Tok→Prop} {tell:Value} (hS:Sink tell S V) {w:World} {r s0:Nat} {z:Sn} {ts:List Tok} {E:Nat→Prop} (h:RM S tell r s0 z ts E w) (hat:z.at'≤4000000) (hV:VL V ts (sEndP z).ts) :
 Calls Tryz.prog 180 #[.pointer (some ⟨r,0,none⟩)] w (RP S tell r s0 (sEndP z) ts E w):=by
 obtain ⟨ov,bp,bv,D,h1,h2,h3,h4⟩:=h.ex
 obtain ⟨N,first,cp2,htell,hE,hcall⟩:=RM.tell hS
 have c1:w.cell? ⟨r,1,none⟩=some (.int .i64 (z.at':Nat)):=h1.b.cell 1
 have c6:w.cell? ⟨r,6,none⟩=some (.int .i64 (z.tk.to:Nat)):=h1.b.cell 6
 have fz:=h1.b.fz
 obtain ⟨z1,hz1⟩:∃z1:Sn,z1={ z with st:=5,tk:={ z.tk with to:=z.at'+1 } }:=⟨_,rfl⟩
 have M1:Hid (RM S tell r s0 z1 ts E (w.setCell ⟨r,6,none⟩ (.int .i64 ((z.at'+1:Nat):Int)))∧Ev E w E (w.setCell ⟨r,6,none⟩ (.int .i64 ((z.at'+1:Nat):Int)))) :=
  RM.set hS h1 h2 h3 h4 (by rw [hz1]; exact h1.b.set 6 _) ((Fr.refl (fun k=>k=r) w).setCell ⟨r,6,none⟩ (Or.inl rfl) _) (by rw [hz1]) (by rw [hz1])
 have hZ:=hide hz1
 have TE:Hid (∀W,RM S tell r s0 z1 ts E W→Calls Tryz.prog N (first.push (tagg z1.tk)++cp2) W fun res w'=>res=.returned (.tuple #[])∧∃E',RM S tell r s0 z1 (ts++[z1.tk]) E' w'∧Ev E W E' w'):=fun W hW=>hcall _ hW (by rw [hz1]; exact hV.1)
 have DR:Hid (∀W n,RM S tell r s0 z1 ts E W→RM S tell r s0 z1 ts E (W.drewN n)):=fun W n hW=>RM.drewN hS hW n
 have hwa:IntKind.i64.wrap ((z.at':Int)+1)=((z.at'+1:Nat):Int):=by rw [IntWalk.i64_in _ (by omega)]; omega
 have CC:Hid (∀W,RM S tell r s0 z1 ts E W→(W.cell? ⟨r,14,none⟩=some tell∧W.cell? ⟨r,3,none⟩=some (.int .i64 (z1.tk.k:Nat))∧W.cell? ⟨r,4,none⟩=some (.int .i64 (z1.tk.of:Nat))∧W.cell? ⟨r,5,none⟩=some (.int .i64 (z1.tk.frm:Nat))∧W.cell? ⟨r,6,none⟩=some (.int .i64 (z1.tk.to:Nat))∧W.cell? ⟨r,7,none⟩=some (.int .i64 z1.tk.n)∧W.cell? ⟨r,8,none⟩=some (.string (bsb (tkx z1.tk.k z1.tk.t))))):=fun W hW=>by
  obtain ⟨_,_,_,y⟩:=hW.rs
  exact ⟨y.b.cell 14,y.b.cell 3,y.b.cell 4,y.b.cell 5,y.b.cell 6,y.b.cell 7,y.b.cell 8⟩
 clear hcall h h1 h2 h3 h4 hV hS hz1
 subst htell
 go_enter Tryz.func180,Tryz.ntmps180
 go_wp2
 have eW:((z.at'+1:Nat):Int)=(z.at':Int)+1:=by omega
 try rw [eW] at M1
 generalize hWW:w.setCell ⟨r,6,none⟩ _=W1 at *
 obtain ⟨d14,d3,d4,d5,d6,d7,d8⟩:=CC.out _ M1.out.1
 clear c1 c6 fz hwa hWW eW
 unfold tagg at TE
 go_region_with (refine (TE.out _ (DR.out _ 1 M1.out.1)).mono ?_; rintro res w2 ⟨rfl,E2,hM2,hE2⟩; have M2:=hide hM2; have EV2:=hide hE2; clear hM2 hE2)
 all_goals
  go_wp2
  go_ret
  refine ⟨rfl,E2,?_,(M1.out.2.drewN 1).trans EV2.out⟩
  have:=M2.out
  rw [hZ.out] at this
  exact this
end Go.Proofs.YtcbadebjpogmlaaGreatDoor
