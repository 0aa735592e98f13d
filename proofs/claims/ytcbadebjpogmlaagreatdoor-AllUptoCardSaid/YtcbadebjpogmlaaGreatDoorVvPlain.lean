import Derived.Test.YtcbadebjpogmlaaGreatDoorProg
import Derived.WalkSpells
import Derived.WalkLawsBesides
import Derived.BigQuiet
set_option maxHeartbeats 2000000
namespace Tr
abbrev Y:=@Or.inl
abbrev I:=@Or.inr
abbrev aa:=@if_neg
abbrev ae:=@if_pos
abbrev cG:=@List.length_append
abbrev eC:=@List.take_succ_eq_append_getElem
abbrev bP:=@List.getElem_mem
abbrev cI:=@Option.some.inj
abbrev fU:=@List.mem_cons
abbrev fE:=@List.mem_flatMap
abbrev gz:=@List.append_nil
abbrev dT:=@List.mem_cons_self
abbrev bX:=@List.take_length
abbrev dy:=@List.mem_singleton
abbrev f_:=@List.mem_cons_of_mem
abbrev fB:=@List.getElem?_eq_getElem
abbrev gh:=@List.append_assoc
abbrev CG:=@List.eq_nil_of_length_eq_zero
abbrev iw:=@beq_eq_false_iff_ne
abbrev gv:=@List.take_of_length_le
abbrev nI:=@List.length_cons
abbrev kD:=@List.flatMap_cons
abbrev gR:=@List.mem_iff_getElem
abbrev eY:=@List.length_map
abbrev iU:=@List.take_append_drop
abbrev fC:=@List.map_append
abbrev iy:=@List.flatMap_append
abbrev gU:=@List.mem_append
abbrev db:=@And.intro
abbrev kL:=@List.getElem?_toArray
abbrev lR:=@ByteArray.size_append
abbrev aP:=@Nat.le_refl
abbrev az:=@Nat.le_trans
abbrev aI:=@Nat.lt_of_lt_of_le
abbrev aT:=@Nat.zero_le
abbrev tX:=@Nat.lt_succ_self
abbrev mR:=@Nat.le_of_lt
abbrev gT:=@Nat.le_succ
abbrev tY:=@Nat.lt_irrefl
abbrev gV:=@congrArg
abbrev Dd:=@beq_iff_eq
theorem om{p:Prop}(h:p:=by omega):p:=h
theorem de{p:Prop}(h:p:=by decide):p:=h
theorem si{p:Prop}(h:p:=by simp):p:=h
variable{n:Nat}
theorem lr:n<=n:=aP n
theorem zl:0<=n:=aT n
def bt(s:List UInt8)(i:Nat):Nat:=match s[i]? with|some c=>c.toNat|none=>256
def isLet(b:Nat):Bool:=decide (97<=b)&&decide (b<=122)
def O(b:Nat):Bool:=decide (48<=b)&&decide (b<=57)
def aR(b:Nat):Bool:=isLet b||O b||b==32
structure G where
 st:Nat
 bh:Nat
 sz:Nat
 rs:List UInt8
 op:List UInt8
def bI(l:List UInt8):List UInt8:=(l.reverse.dropWhile (·==33)).reverse
def iA(l:List UInt8):List UInt8:=if l.getLast?=some 40 then l.dropLast else l
def iW(g:G)(b k:Nat):G:=if isLet b then{g with st:=21,bh:=k,sz:=1}else{g with st:=0}
def jg(g:G)(k:Nat):G:={g with st:=23,bh:=k,sz:=0}
def dQ(g:G)(l:List UInt8)(k:Nat):G:=if l=[]then{g with st:=k}else{g with st:=24,bh:=k,rs:=l}
def iH(g:G)(k:Nat):G:={g with st:=25,bh:=k}
def bJ(g:G)(b k:Nat):G:=if b=48 then{g with st:=k}else if O b then{g with st:=22,bh:=k,sz:=1}else{g with st:=0}
def dM(g:G)(b k:Nat):G:=if b=45 then iH g k else bJ g b k
def fj(g:G)(b:Nat):G:=if b=61/\g.st≠17 then{g with st:=17}else if g.st=15 then{g with st:=0}else if b=39 then jg g 18 else if b=116 then dQ g [114,117,101] 18 else if b=102 then dQ g [97,108,115,101] 18 else if b=110 then dQ g [117,108,108] 18 else dM g b 18
def dh(g:G)(b:Nat):G:=if g.st=12 then iW g b 11 else if g.st=13 then dM g b 14 else if g.st=14/\b=93 then{g with st:=11}else if(g.st=19/\b=38)\/(g.st=20/\b=124)then{g with st:=10}else{g with st:=0}
def bN(g:G)(b:Nat):G:=if b=44 then{g with st:=6}else if b=93 then{g with st:=3}else if b=58/\g.st=7 then{g with st:=8}else if g.st=8 then bJ g b 9 else{g with st:=0}
def bw(a:G)(b:Nat):G:=let g:G:={a with op:=bI a.op}
 if b=38 then{g with st:=19}else if b=124 then{g with st:=20}else if b=41/\g.op≠[]then{g with st:=18,op:=iA g.op}else if g.op=[]then bN g b else{g with st:=0}
def eo(g:G)(b:Nat):G:=if b=46 then{g with st:=12}else if b=91 then{g with st:=13}else if b=61\/b=33 then{g with st:=15}else if b=60 then{g with st:=16}else bw g b
def gA(g:G)(b:Nat):G:=if b=64 then{g with st:=11}else if b≠33/\b≠40 then{g with st:=0}else if g.op.length=6 then{g with st:=1}else{g with st:=10,op:=g.op++[UInt8.ofNat b]}
def cE(g:G)(b:Nat):G:=if b=42 then{g with st:=9}else if b=39 then jg g 9 else if b=45 then iH g 9 else if b=58 then{g with st:=8}else if b=63 then{g with st:=10}else bJ g b 7
def l5(g:G)(b:Nat):G:=if b=42 then{g with st:=3}else iW g b 3
def cC(g:G)(b:Nat):G:=if g.st=2/\b=36 then{g with st:=3}else if g.st=3/\b=46 then{g with st:=4}else if(g.st=3/\b=91)\/(g.st=5/\b=91)then{g with st:=6}else if g.st=4/\b=46 then{g with st:=5}else if g.st=4\/g.st=5 then l5 g b else{g with st:=0}
def aJ(g:G)(b:Nat):G:=if g.st=2\/g.st=3\/g.st=4\/g.st=5 then cC g b else if g.st=6 then cE g b else if g.st=7\/g.st=8\/g.st=9 then bN g b else if g.st=10 then gA g b else if g.st=18 then bw g b else if g.st=11 then eo g b else if g.st=15\/g.st=16\/g.st=17 then fj g b else dh g b
def cd(g:G)(b:Nat):Bool:=if g.st=21 then isLet b&&decide (g.sz<8)else if g.st=22 then O b&&decide (g.sz<3)else if g.st=23 then aR b&&decide (g.sz<8)else false
def aU(g:G)(b:Nat):G:=if cd g b=true then{g with sz:=g.sz+1}else if g.st=23/\b=39 then{g with st:=g.bh}else if g.st=24/\b=(g.rs.headD 0).toNat then dQ g g.rs.tail g.bh else if g.st=25/\O b=true/\b≠48 then bJ g b g.bh else if g.st=21\/g.st=22 then aJ {g with st:=g.bh} b else{g with st:=0}
def dc(g:G)(b:Nat):G:=if 21<=g.st/\g.st<=25 then aU g b else aJ g b
def dR(g:G):Bool:=g.st==3||(g.st==21&&g.bh==3)
def norm(g:G):G:=⟨g.st,if 21<=g.st then g.bh else 0,if 21<=g.st/\g.st<=23 then g.sz else 0,if g.st=24 then g.rs else[],g.op⟩
def nx(m:G)(b:Nat):G:=if m.st<=1 then m else if b=256 then(if dR m=true then⟨26,0,0,[],[]⟩else⟨0,0,0,[],[]⟩)else norm (dc m b)
def g0:G:=⟨2,0,0,[],[]⟩
def M(s:List UInt8):Nat->G|0=>g0|i+1=>nx (M s i) (bt s i)
def jr(g h:G):Prop:=g.st=h.st/\g.op=h.op
theorem yD(c f i a d:Nat)(g b e:List UInt8)(h:c<=20):norm ⟨c,f,i,g,e⟩=norm ⟨c,a,d,b,e⟩:=by grind[Tr.norm]
variable{a b:G}
theorem AZ(n:jr a b)(k:Nat):norm (jg a k)=norm (jg b k):=by simp[jg,norm,n.2]
theorem A5(n:jr a b)(k:Nat):norm (iH a k)=norm (iH b k):=by simp[iH,norm,n.2]
theorem A6(n:jr a b)(l:List UInt8)(k:Nat)(c:k<=20):norm (dQ a l k)=norm (dQ b l k):=by grind(splits:=30)[jr,dQ,Tr.norm]
theorem rY(n:jr a b)(c k:Nat)(d:k<=20):norm (bJ a c k)=norm (bJ b c k):=by grind(splits:=30)[jr,bJ,O,Tr.norm]
theorem rZ(n:jr a b)(k:Nat)(c:k<=20):norm {a with st:=k}=norm {b with st:=k}:=by grind(splits:=30)[jr,Tr.norm]
theorem A7(n:jr a b)(c:Nat):norm (fj a c)=norm (fj b c):=by grind(splits:=30)[jr,fj,bJ,iH,dQ,jg,dM,O,Tr.norm]
theorem yE(n:jr a b)(c:Nat):norm (dh a c)=norm (dh b c):=by grind(splits:=30)[jr,bJ,iH,dM,dh,iW,O,isLet,Tr.norm]
theorem pZ(n:jr a b)(c:Nat):norm (bN a c)=norm (bN b c):=by grind(splits:=30)[jr,bJ,bN,O,Tr.norm]
theorem oj(n:jr a b)(c:Nat):norm (bw a c)=norm (bw b c):=by grind[pZ,rZ,yD,jr,bw,bI]
theorem vW(n:jr a b)(c:Nat):norm (eo a c)=norm (eo b c):=by grind[oj,rZ,eo]
theorem Gc(n:jr a b)(c:Nat):norm (gA a c)=norm (gA b c):=by grind(splits:=30)[jr,gA,Tr.norm]
theorem tF(n:jr a b)(c:Nat):norm (cE a c)=norm (cE b c):=by grind[rY,A5,AZ,rZ,cE]
theorem vX(n:jr a b)(c:Nat):norm (cC a c)=norm (cC b c):=by grind(splits:=30)[jr,cC,l5,iW,isLet,Tr.norm]
theorem lu(n:jr a b)(c:Nat):norm (aJ a c)=norm (aJ b c):=by unfold aJ;rw[n.1];grind[A7,Gc,oj,vX,pZ,tF,vW,yE]
theorem Qu(g:G):(norm g).st=g.st:=rfl
theorem Gd(g:G):jr g (norm g):=⟨rfl,rfl⟩
theorem Ge(g:G)(b:Nat)(c:g.bh<=20):norm (dc g b)=norm (dc (norm g) b):=by
 unfold dc;rw[Qu];split
 .rename_i h;obtain⟨a,d,i,f,e⟩:=g;simp only at h c;have k:norm ⟨a,d,i,f,e⟩=⟨a,d,if 21<=a/\a<=23 then i else 0,if a=24 then f else[],e⟩:=by simp[norm,h.1]
  rw[k];have j:a=21\/a=22\/a=23\/a=24\/a=25:=om;rcases j with rfl|rfl|rfl|rfl|rfl;iterate 2
   simp[aU,cd];split;.rfl
   exact lu (by exact⟨rfl,rfl⟩) b
  .simp[aU,cd];repeat' split
   .rfl
   .grind[yD]
   rfl
  .simp[aU,cd];split;.exact A6 (by exact⟨rfl,rfl⟩) _ _ c
   rfl
  simp[aU,cd];split;.exact rY (by exact⟨rfl,rfl⟩) _ _ c
  rfl
 exact lu (Gd g) b
structure St where
 p:Nat
 e:Nat
 n:Nat
def ar(s:List UInt8)(t:St)(b:Nat):Bool:=t.e==0&&bt s t.p==b
def aH(t:St):St:={t with p:=t.p+1}
def wrong(t:St)(e:Nat):St:=if t.e=0 then{t with e:=e}else t
def has(s:List UInt8)(t:St)(b:Nat):St:=if ar s t b=true then aH t else t
def aK(s:List UInt8)(t:St)(b:Nat):St:=if ar s t b=true then aH t else wrong t 2
def aO(s:List UInt8)(t:St)(l:List Nat):St:=l.foldl (aK s) t
def letter(s:List UInt8)(t:St):Bool:=t.e==0&&isLet (bt s t.p)
def digit(s:List UInt8)(t:St):Bool:=t.e==0&&O (bt s t.p)
def run(ok:Nat->Bool)(s:List UInt8):Nat->Nat->Nat|0,p=>p|k+1,p=>if ok (bt s p)=true then run ok s k (p+1)else p
def bH(s:List UInt8)(t:St):St:=if t.e=0 then(if run isLet s 8 t.p=t.p then{t with e:=2}else{t with p:=run isLet s 8 t.p})else t
def eF(a:Nat->Bool)(s:List UInt8)(k:Nat)(t:St):St:=if t.e=0 then{t with p:=run a s k t.p}else t
def fh(s:List UInt8)(t:St):St:=aK s (eF aR s 8 (aK s t 39)) 39
def d_(s:List UInt8)(t:St)(m:Bool):St:=if m=true then has s t 45 else t
def bu(s:List UInt8)(t:St)(a:Bool):St:=if digit s t=false\/(a=true/\ar s t 48=true)then wrong t 2 else if ar s t 48=true then aH t else eF O s 3 t
def countP(s:List UInt8)(t:St)(m:Bool):St:=bu s (d_ s t m) (m&&ar s t 45)
theorem jI(h:isLet n=true):n<256:=by simp[isLet]at h;omega
theorem eZ(h:O n=true):n<256:=by simp[O]at h;omega
theorem yF(h:aR n=true):n<256:=by simp[aR,isLet,O]at h;omega
theorem cQ{s:List UInt8}{p:Nat}(h:bt s p<256):p<s.length:=by grind(splits:=30)[bt]
theorem xI(s:List UInt8)(p:Nat):bt s p<=256:=by
 unfold bt;split;.rename_i c _;have:=c.toNat_lt;omega
 omega
theorem jC{s:List UInt8}(h:s.length<=n):bt s n=256:=by grind[bt]
theorem rk{s:List UInt8}{p:Nat}(h:p<s.length):bt s p<256:=by unfold bt;rw[fB h];exact UInt8.toNat_lt _
theorem fN(a:Nat->Bool)(s:List UInt8):∀k p,p<=run a s k p|0,p=>aP _|k+1,p=>by unfold run;split;have:=fN a s k (p+1);omega;exact aP _
theorem iD(a:Nat->Bool)(s:List UInt8):∀k p,run a s k p<=p+k|0,p=>aP _|k+1,p=>by unfold run;split;have:=iD a s k (p+1);omega;omega
theorem gL(b:Nat->Bool)(s:List UInt8):∀k p i,p<=i->i<run b s k p->b (bt s i)=true
 |0,p,i,c,a=>by unfold run at a;omega|k+1,p,i,c,a=>by
  unfold run at a;split at a
  .by_cases e:i=p;.subst e;assumption
   exact gL b s k (p+1) i om a
  omega
theorem g_(a:Nat->Bool)(s:List UInt8):∀k p,run a s k p=p+k\/a (bt s (run a s k p))=false
 |0,p=>Y rfl|k+1,p=>by
  unfold run;split
  .rcases g_ a s k (p+1)with h|h;.left;omega
   right;exact h
  grind
theorem oo{ok:Nat->Bool}{s:List UInt8}(a:∀b,ok b=true->b<256)(k p:Nat)(e:p<=s.length):run ok s k p<=s.length:=by
 by_cases h:run ok s k p=p;.omega
 have d:=fN ok s k p;have c:=gL ok s k p (run ok s k p-1) om om;have:=cQ (a _ c);omega
theorem jJ(a:Nat->Bool)(s:List UInt8):∀k p,run a s (k+1) p=if run a s k p=p+k/\a (bt s (p+k))=true then p+k+1 else run a s k p
 |0,p=>by simp[run]|k+1,p=>by
  rw[run];by_cases h:a (bt s p)=true;.have e:p+(k+1)=p+1+k:=om;rw[ae h,jJ a s k (p+1),e];grind[run]
  grind[run]
end Tr
namespace Go.RowKit
theorem Hid.o{p:Prop}(h:Hid p):p:=h
end Go.RowKit
namespace Go.Proofs.YtcbadebjpogmlaaGreatDoor
open Go.RowKit Tr Go.Proofs.Tryz
abbrev pT(g:Nat):Value:=.pointer (some ⟨g,0,none⟩)
abbrev sA(g:Nat):Option Addr:=some ⟨g,0,none⟩
abbrev aD(g i:Nat):Addr:=⟨g,i,none⟩
variable{j k:Int}
theorem dH(h:j≠k:=by omega):(j==k)=false:=iw.2 h
theorem DH(h:j=k:=by omega):(j==k)=true:=Dd.2 h
structure Fr(K:Nat->Prop)(w w':World):Prop where
 os:w'.os=w.os
 tape:w'.tape=w.tape
 output:w'.output=w.output
 size:w.heap.size<=w'.heap.size
 block:∀k,k<w.heap.size->¬K k->w'.heap[k]?=w.heap[k]?
theorem Fr.refl(K:Nat->Prop)(w:World):Fr K w w:=⟨rfl,rfl,rfl,aP _,λ_ _ _=>rfl⟩
variable{b:Nat->Prop}{w v u:World}
theorem Fr.trans(h:Fr b w v)(k:Fr b v u):Fr b w u:=⟨k.os.trans h.os,k.tape.trans h.tape,k.output.trans h.output,az h.size k.size,λi c a=>(k.block i (aI c h.size) a).trans (h.block i c a)⟩
theorem Fr.mono{L:Nat->Prop}(h:Fr b w v)(d:∀k,k<w.heap.size->b k->L k):Fr L w v:=⟨h.os,h.tape,h.output,h.size,λi a c=>h.block i a λx=>c (d i a x)⟩
theorem Fr.drewN(h:Fr b w v)(n:Nat):Fr b w (v.drewN n):=⟨h.os,h.tape,h.output,h.size,h.block⟩
theorem Fr.drew(h:Fr b w v):Fr b w v.drew:=⟨h.os,h.tape,h.output,h.size,h.block⟩
theorem Fr.alloc{a w:World}(h:Fr b a w)(o:Obj):Fr b a (w.alloc o):=h.trans ⟨rfl,rfl,rfl,si,λk c _=>Below.heap_alloc _ _ _ c⟩
theorem Fr.setCell(h:Fr b w v)(p:Addr)(f:b p.block\/w.heap.size<=p.block)(a:Value):Fr b w (v.setCell p a):=⟨h.os,h.tape,h.output,az h.size (by simp[World.setCell]),λk d c=>by rw[Below.heap_setCell _ _ _ _ λe=>by subst e;rcases f with x|x;exact c x;omega];exact h.block k d c⟩
theorem Fr.aN{K:Nat->Prop}(h:Below w.heap.size w v):Fr K w v:=⟨h.os,h.tape,h.output,h.size,λk a _=>h.block k a⟩
theorem Fr.below(h:Fr (λ_=>False) w v):Below w.heap.size w v:=⟨h.os,h.tape,h.output,h.size,λk a=>h.block k a id⟩
theorem Fr.cell{w a:World}(h:Fr b w a){p:Addr}(d:p.block<w.heap.size)(c:¬b p.block):a.cell? p=w.cell? p:=World.cell?_of_block (w:=w) (h.block p.block d c)
theorem Fr.frozen(h:Fr b w v){p:Addr}(c:p.block<w.heap.size)(a:¬b p.block):v.frozen? p=w.frozen? p:=World.frozen?_of_block (w:=w) (h.block p.block c a)
variable{n m:Nat}
theorem bo{o:Obj}(h:w.heap[n]?=some o):n<w.heap.size:=(Array.getElem?_eq_some_iff.1 h).1
def E(s:ByteArray):List UInt8:=s.data.toList
theorem ak(s:ByteArray):(E s).length=s.size:=by simp[E]
variable{q:ByteArray}
theorem dY(h:n<q.size):bt (E q) n=q[n].toNat:=by
 have:(E q)[n]?=some q[n]:=by simp[E,ByteArray.getElem_eq_getElem_data]
 simp[bt,this]
theorem iF(h:¬n<q.size):bt (E q) n=256:=jC (by rw[ak];omega)
def bB(w:World)(b:Nat)(s:ByteArray)(t:St):Prop:=w.heap[b]?=some (.cells #[.string s,.int .i64 t.p,.int .i64 t.e,.int .i64 t.n] 145)
variable{a t:St}
theorem bB.lt(h:bB w n q a):n<w.heap.size:=bo h
theorem bB.c0(h:bB w n q a):w.cell? (aD n 0)=some (.string q):=by unfold bB at h;simp[World.cell?,h]
theorem bB.c1(h:bB w n q a):w.cell? (aD n 1)=some (.int .i64 a.p):=by unfold bB at h;simp[World.cell?,h]
theorem bB.c2{w:World}(h:bB w n q a):w.cell? (aD n 2)=some (.int .i64 a.e):=by unfold bB at h;simp[World.cell?,h]
theorem bB.c3(h:bB w n q a):w.cell? (aD n 3)=some (.int .i64 a.n):=by unfold bB at h;simp[World.cell?,h]
theorem bB.fz(h:bB w n q a)(i:Nat):w.frozen? (aD n i)=false:=by unfold bB at h;simp[World.frozen?,h]
theorem bB.kI{w:World}(h:bB w n q a)(p:Nat):bB (w.setCell (aD n 1) (.int .i64 p)) n q {a with p:=p}:=by unfold bB at*;simp[World.setCell,Array.getElem?_modify,h]
theorem bB.JJ(h:bB w n q a)(e:Nat):bB (w.setCell (aD n 2) (.int .i64 e)) n q {a with e:=e}:=by unfold bB at*;simp[World.setCell,Array.getElem?_modify,h]
theorem bB.na(h:bB w n q a)(b:Nat):bB (w.setCell (aD n 3) (.int .i64 b)) n q {a with n:=b}:=by unfold bB at*;simp[World.setCell,Array.getElem?_modify,h]
theorem bB.drewN(h:bB w n q a)(b:Nat):bB (w.drewN b) n q a:=h
theorem bB.alloc{w:World}(h:bB w n q a)(o:Obj):bB (w.alloc o) n q a:=(Below.heap_alloc _ _ _ h.lt).trans h
def PB(b:Nat):Nat->Prop:=λk=>k=b
structure Rd(b:Nat)(s:ByteArray)(w:World)(t':St)(w':World):Prop where
 m:bB w' b s t'
 f:Fr (PB b) w w'
theorem Rd.same(h:bB w n q a):Rd n q w a w:=⟨h,Fr.refl _ _⟩
theorem Rd.drewN(h:Rd n q w a v)(b:Nat):Rd n q w a (v.drewN b):=⟨h.m,h.f.drewN b⟩
theorem Rd.drew(h:Rd n q w a v):Rd n q w a v.drew:=⟨h.m,h.f.drew⟩
theorem Rd.trans(h:Rd n q w a v)(k:Rd n q v t u):Rd n q w t u:=⟨k.m,h.f.trans k.f⟩
theorem Rd.kI{w b:World}(h:Rd n q w a b)(p:Nat):Rd n q w {a with p:=p} (b.setCell (aD n 1) (.int .i64 p)):=⟨h.m.kI p,h.f.setCell (aD n 1) (Y rfl) _⟩
theorem Rd.JJ(h:Rd n q w a v)(p:Nat):Rd n q w {a with e:=p} (v.setCell (aD n 2) (.int .i64 p)):=⟨h.m.JJ p,h.f.setCell (aD n 2) (Y rfl) _⟩
theorem Rd.na(h:Rd n q w a v)(p:Nat):Rd n q w {a with n:=p} (v.setCell (aD n 3) (.int .i64 p)):=⟨h.m.na p,h.f.setCell (aD n 3) (Y rfl) _⟩
theorem Rd.alloc{w b:World}(h:Rd n q w a b)(o:Obj):Rd n q w a (b.alloc o):=⟨h.m.alloc o,h.f.alloc o⟩
theorem Rd.lt(h:Rd n q w a v):n<v.heap.size:=h.m.lt
theorem qp(h:¬n=0):((n:Int)==0)=false:=dH
theorem qK(h:bB w n q a)(e:Nat)(j:Int)(i:j=e):Calls prog 91 #[pT n,.int .i64 j] w λr m=>r=.returned (.tuple #[])/\Rd n q w (wrong a e) m:=by
 subst i;obtain⟨p,d,b⟩:=a;have l:=h.c2;have s:=h.fz 2;by_cases g:d=0
 .subst g;have c:wrong ⟨p,0,b⟩ e=⟨p,e,b⟩:=by simp[wrong]
  have k:Rd n q w (wrong ⟨p,0,b⟩ e) (w.setCell (aD n 2) (.int .i64 e)):=by rw[c];exact(Rd.same h).JJ e
  clear h c;simp only[Int.natCast_zero]at l;have f:Hid _:=k;clear k;go_enter func91,ntmps91;go_wp2;go_end0;exact⟨rfl,f⟩
 have c:wrong ⟨p,d,b⟩ e=⟨p,d,b⟩:=by simp[wrong,g]
 have f:Hid (Rd n q w (wrong ⟨p,d,b⟩ e) w):=by unfold Hid;rw[c];exact Rd.same h
 have o:=qp g;clear h c;go_enter func91,ntmps91;go_wp2;go_end0;exact⟨rfl,f⟩
theorem A8(h:bB w n q a)(c:Nat)(i:Int)(f:i=c)(s:c<256):Calls prog 92 #[pT n,.int .u8 i] w λr m=>r=.returned (.bool (ar (E q) a c))/\∃b,m=w.drewN b:=by
 subst f;obtain⟨p,e,b⟩:=a;have o:=h.c0;have j:=h.c1;have k:=h.c2;clear h;simp only at j k;by_cases g:e=0
 .subst g;by_cases t:p<q.size
  .have d:ar (E q) ⟨p,0,b⟩ c=((q[p].toNat:Int)==(c:Int)):=by grind[dY,ar]
   rw[d];have l:decide ((p:Int)<(q.size:Int))=true:=by simp;omega
   clear d;go_enter func92,ntmps92;go_wp2;go_quiet(fail);go_wp2;go_ret;exact⟨rfl,_,rfl⟩
  have d:ar (E q) ⟨p,0,b⟩ c=false:=by grind[iF,ar]
  rw[d];have l:decide ((p:Int)<(q.size:Int))=false:=by simp;omega
  clear d;go_enter func92,ntmps92;go_wp2;go_quiet(fail);go_wp2;go_ret;exact⟨rfl,_,rfl⟩
 have d:ar (E q) ⟨p,e,b⟩ c=false:=by simp[ar,g]
 rw[d];have u:=qp g;clear d;go_enter func92,ntmps92;go_wp2;go_quiet(fail);go_wp2;go_ret;exact⟨rfl,_,rfl⟩
theorem kM(h:bB w n q a)(c:Nat)(k:Int)(i:k=c)(l:c<256)(t:q.size<=120):Calls prog 90 #[pT n,.int .u8 k] w λr o=>r=.returned (.bool (ar (E q) a c))/\Rd n q w (has (E q) a c) o:=by
 subst i;have s:=h.c1;have u:=h.fz 1;have f:Hid (bB w n q a):=h;clear h;by_cases d:ar (E q) a c=true
 .have m:a.p<q.size:=by simp[ar]at d;have:=cQ (s:=E q) (p:=a.p) om;rw[ak]at this;exact this
  have g:Hid (has (E q) a c=aH a):=by unfold Hid;simp[has,d]
  have e:Hid (ar (E q) a c=true):=d;clear d;go_enter func90,ntmps90;go_wp2_with fail;refine(A8 f.o c _ rfl l).mono ?_;rintro r p⟨rfl,j,rfl⟩;rw[e.o];go_wp2;go_ret;refine⟨by rw[e.o];rfl,?_⟩;rw[g.o];exact((Rd.same f.o).drewN j).kI (a.p+1)
 have b:ar (E q) a c=false:=by simpa using d
 have g:Hid (has (E q) a c=a):=by unfold Hid;simp[has,b]
 have e:Hid (ar (E q) a c=false):=b;clear d b;go_enter func90,ntmps90;go_wp2_with fail;refine(A8 f.o c _ rfl l).mono ?_;rintro r p⟨rfl,j,rfl⟩;rw[e.o];go_wp2;go_ret;refine⟨by rw[e.o];rfl,?_⟩;rw[g.o];exact(Rd.same f.o).drewN j
def nb(s:ByteArray):List Nat:=(E s).map UInt8.toNat
theorem Ap(s:ByteArray):(nb s).length=s.size:=by simp[nb,ak]
theorem DI(s:ByteArray)(k:Nat)(h:k<s.size):(nb s).take (k+1)=(nb s).take k++[s[k].toNat]:=by rw[eC (by rw[Ap];exact h)];simp[nb,E,ByteArray.getElem_eq_getElem_data]
theorem ux(s:List UInt8)(t:St)(l:List Nat)(c:Nat):aO s t (l++[c])=aK s (aO s t l) c:=by simp[aO]
theorem r7(s:List UInt8)(t:St)(l:List Nat)(h:¬t.e=0):aO s t l=t:=by induction l with|nil=>rfl|cons a r b=>grind[aO,aK,ar,wrong]
theorem A9(s:List UInt8)(t:St)(l r:List Nat):aO s t (l++r)=aO s (aO s t l) r:=by simp[aO]
theorem Gf(a:ByteArray)(s:List UInt8)(t:St)(k:Nat)(h:k<a.size)(d:ar s (aO s t ((nb a).take k)) a[k].toNat=false):aO s t (nb a)=wrong (aO s t ((nb a).take k)) 2:=by
 have e:nb a=(nb a).take (k+1)++(nb a).drop (k+1):=(iU _ _).symm;have b:aO s t (nb a)=aO s t ((nb a).take (k+1)++(nb a).drop (k+1)):=by rw[<-e]
 rw[b,A9,DI a k h,ux];have c:aK s (aO s t ((nb a).take k)) a[k].toNat=wrong (aO s t ((nb a).take k)) 2:=by simp[aK,d]
 rw[c];exact r7 s (wrong (aO s t ((nb a).take k)) 2) _ (by unfold wrong;split;simp;assumption)
theorem eH(h:bB w n q a)(b:ByteArray)(y:b.size<=120)(t:q.size<=120):Calls prog 64 #[pT n,.string b] w λr v=>r=.returned (.tuple #[])/\Rd n q w (aO (E q) a (nb b)) v:=by
 have u:Hid (bB w n q a):=h;clear h;go_enter func64,ntmps64;go_wp2;go_loopw[4]λi wr=>∃k:Nat,k<=b.size/\i=.int .i64 k/\Rd n q w (aO (E q) a ((nb b).take k)) wrλi _=>b.size-(intOf i).toNat;case atStart=>exact⟨0,aT _,rfl,Rd.same u.o⟩
 case round=>
  obtain⟨k,z,rfl,s⟩:=hrel;have g:Hid _:=s;clear s;by_cases l:k<b.size
  .by_cases o:ar (E q) (aO (E q) a ((nb b).take k)) b[k].toNat=true
   .have f:Hid _:=o;clear o;go_wp2_with fail;refine(kM g.o.m b[k].toNat _ rfl (UInt8.toNat_lt _) t).mono ?_;rintro r x⟨rfl,c⟩;rw[f.o];have d:Hid _:=c;clear c;go_wp2;go_roundw;case rel=>
     refine⟨k+1,om,by go_num,?_⟩;rw[DI b k l,ux];have:=g.o.trans d.o;have e:has (E q) (aO (E q) a ((nb b).take k)) b[k].toNat=aK (E q) (aO (E q) a ((nb b).take k)) b[k].toNat:=by simp[has,aK,f.o]
     rw[e]at this;exact this
    case measure=>simp[intOf];omega
   have j:ar (E q) (aO (E q) a ((nb b).take k)) b[k].toNat=false:=by simpa using o
   have f:Hid _:=j;clear o j;go_wp2_with fail;refine(kM g.o.m b[k].toNat _ rfl (UInt8.toNat_lt _) t).mono ?_;rintro r x⟨rfl,c⟩;rw[f.o];have d:Hid _:=c;clear c;go_wp2_with fail;refine(qK d.o.m 2 _ rfl).mono ?_;rintro r A⟨rfl,m⟩;have p:Hid _:=m;clear m;go_wp2;(try simp only[Exit.inBlock,Exit.then]);refine bodyPost_ret (results_none rfl _ _ _) rfl ?_;refine⟨rfl,?_⟩;have:=(g.o.trans d.o).trans p.o;have e:has (E q) (aO (E q) a ((nb b).take k)) b[k].toNat=aO (E q) a ((nb b).take k):=by simp[has,f.o]
   rw[e]at this;rw[Gf b (E q) a k l f.o];exact this
  go_wp2;go_end0;refine⟨rfl,?_⟩;have:=g.o;grind[Ap]
theorem r8(h:bB w n q a):Calls prog 117 #[pT n] w λr m=>r=.returned (.bool (letter (E q) a))/\∃b,m=w.drewN b:=by
 obtain⟨p,e,b⟩:=a;have o:=h.c0;have j:=h.c1;have k:=h.c2;clear h;simp only at j k;by_cases f:e=0;focus
  subst f;by_cases d:p<q.size;focus
   have l:decide ((p:Int)<(q.size:Int))=true:=by simp;omega
   by_cases g:97<=(q[p].toNat:Int);focus
    have d3:decide (97<=(q[p].toNat:Int))=true:=by simpa using g
    by_cases i:(q[p].toNat:Int)<=122;focus
     have d4:decide ((q[p].toNat:Int)<=122)=true:=by simpa using i
     have c:letter (E q) ⟨p,0,b⟩=true:=by simp[letter,dY d,isLet];omega
    rotate_left;focus
     have d4:decide ((q[p].toNat:Int)<=122)=false:=by simpa using i
     have c:letter (E q) ⟨p,0,b⟩=false:=by simp[letter,dY d,isLet];omega
   rotate_left 2;focus
    have d3:decide (97<=(q[p].toNat:Int))=false:=by simpa using g
    have c:letter (E q) ⟨p,0,b⟩=false:=by simp[letter,dY d,isLet];omega
   all_goals rw[c]
  rotate_left 3;focus
   have c:letter (E q) ⟨p,0,b⟩=false:=by simp[letter,iF d,isLet]
   rw[c];have l:decide ((p:Int)<(q.size:Int))=false:=by simp;omega
 rotate_left 4;focus
  have c:letter (E q) ⟨p,e,b⟩=false:=by simp[letter,f]
  rw[c];have s:=qp f
 all_goals clear c;go_enter func117,ntmps117;go_wp2;go_quiet(fail);go_wp2;go_ret;exact⟨rfl,_,rfl⟩
theorem Qv(h:bB w n q a):Calls prog 121 #[pT n] w λr m=>r=.returned (.bool (digit (E q) a))/\∃b,m=w.drewN b:=by
 obtain⟨p,e,b⟩:=a;have o:=h.c0;have j:=h.c1;have k:=h.c2;clear h;simp only at j k;by_cases f:e=0;focus
  subst f;by_cases d:p<q.size;focus
   have l:decide ((p:Int)<(q.size:Int))=true:=by simp;omega
   by_cases g:48<=(q[p].toNat:Int);focus
    have d3:decide (48<=(q[p].toNat:Int))=true:=by simpa using g
    by_cases i:(q[p].toNat:Int)<=57;focus
     have d4:decide ((q[p].toNat:Int)<=57)=true:=by simpa using i
     have c:digit (E q) ⟨p,0,b⟩=true:=by simp[digit,dY d,O];omega
    rotate_left;focus
     have d4:decide ((q[p].toNat:Int)<=57)=false:=by simpa using i
     have c:digit (E q) ⟨p,0,b⟩=false:=by simp[digit,dY d,O];omega
   rotate_left 2;focus
    have d3:decide (48<=(q[p].toNat:Int))=false:=by simpa using g
    have c:digit (E q) ⟨p,0,b⟩=false:=by simp[digit,dY d,O];omega
   all_goals rw[c]
  rotate_left 3;focus
   have c:digit (E q) ⟨p,0,b⟩=false:=by simp[digit,iF d,O]
   rw[c];have l:decide ((p:Int)<(q.size:Int))=false:=by simp;omega
 rotate_left 4;focus
  have c:digit (E q) ⟨p,e,b⟩=false:=by simp[digit,f]
  rw[c];have s:=qp f
 all_goals clear c;go_enter func121,ntmps121;go_wp2;go_quiet(fail);go_wp2;go_ret;exact⟨rfl,_,rfl⟩
theorem eI(h:bB w n q a)(c:Nat)(b:Int)(d:b=c)(g:c<256):Calls prog 92 #[pT n,.int .u8 b] w λr i=>r=.returned (.bool (ar (E q) a c))/\Rd n q w a i:=(A8 h c b d g).mono λ_ _⟨e,_,f⟩=>⟨e,by subst f;exact(Rd.same h).drewN _⟩
theorem yG(h:bB w n q a):Calls prog 117 #[pT n] w λr d=>r=.returned (.bool (letter (E q) a))/\Rd n q w a d:=(r8 h).mono λ_ _⟨b,_,c⟩=>⟨b,by subst c;exact(Rd.same h).drewN _⟩
theorem j4(h:bB w n q a):Calls prog 121 #[pT n] w λr d=>r=.returned (.bool (digit (E q) a))/\Rd n q w a d:=(Qv h).mono λ_ _⟨b,_,c⟩=>⟨b,by subst c;exact(Rd.same h).drewN _⟩
theorem Z{p:Prop}(h:p):Hid p:=h
variable{p:Program}{i:FuncId}{d:Array Value}{f:Ending}{r:World->Prop}{g:Ending->World->Prop}
theorem mo(h:Calls p i d w λa b=>a=f/\r b)(k:∀b,r b->g f b):Calls p i d w g:=h.mono λ_ b x=>x.1▸k b x.2
theorem mh(h:Calls p i d w λa b=>a=f/\r b)(k:∀b,Hid (r b)->g f b):Calls p i d w g:=mo h λb x=>k b (Z x)
def mP(b:Nat)(w:World):Nat:=(intOf ((w.cell? ⟨b,1,none⟩).getD (.int .i64 0))).toNat
theorem bB.mP(h:bB w n q a):mP n w=a.p:=by unfold Go.Proofs.YtcbadebjpogmlaaGreatDoor.mP;rw[h.c1];simp[intOf]
variable{l:Nat->Bool}{c:List UInt8}
theorem uy(h:run l c m n=n+m)(b:l (bt c (n+m))=false):∀K,m<=K->run l c K n=n+m:=by intro K a;induction K with|zero=>have:m=0:=om;subst this;rfl|succ K d=>grind[jJ]
theorem r_(h:run l c m n=n+m)(a:l (bt c (n+m))=true):run l c (m+1) n=n+(m+1):=by grind[jJ]
theorem sc{s:List UInt8}(d:a.e=0\/n=0)(b:n<=8)(h:run isLet s n a.p=a.p+n)(c:n=8\/letter s {a with p:=a.p+n}=false):bH s a=if n=0 then wrong a 2 else{a with p:=a.p+n}:=by grind[uy,isLet,letter,run,bH,wrong]
theorem La(h:bB w n q a)(S:q.size<=120)(R:a.p<=q.size):Calls prog 93 #[.pointer (some ⟨n,0,none⟩)] w λr N=>r=.returned (.string (q.extract a.p (bH (E q) a).p))/\Rd n q w (bH (E q) a) N:=by
 have D:=h.c1;have B:=Z h;clear h;go_enter func93,ntmps93;go_wp2;go_loopw[4]λ_ wr=>∃k:Nat,k<=8/\(a.e=0\/k=0)/\run isLet (E q) k a.p=a.p+k/\Rd n q w {a with p:=a.p+k} wrλ_ wr=>a.p+8-mP n wr;case atStart=>exact⟨0,om,I rfl,rfl,Rd.same B.o⟩
 case round=>
  obtain⟨k,z,j,e,m⟩:=hrel;have b:=Z m;have A:=m.m.c1;have K:=m.m.c0;have M:=m.m.fz 1;have H:a.p+k<=q.size:=by grind[ak,jI,oo,E,isLet]
  have u:=Z j;have t:=Z e;clear m j e D;simp only at A;by_cases J:k<8
  .by_cases d:letter (E q) {a with p:=a.p+k}=true
   .have o:=Z d;clear d;go_wp2_with fail;refine(r8 b.o.m).mono ?_;rintro r P⟨rfl,i,rfl⟩;rw[o.o];go_wp2;go_roundw;case rel=>have d:=o.o;simp only[letter,Bool.and_eq_true,beq_iff_eq]at d;exact⟨k+1,om,Y d.1,r_ t.o d.2,(b.o.drewN i).kI (a.p+k+1)⟩
    case measure=>have v:=b.o.m.mP;have x:=((b.o.drewN i).kI (a.p+k+1)).m.mP;simp only at v x;rw[v];have:mP n ((wr.drewN i).setCell ⟨n,1,none⟩ (.int .i64 (a.p+k+1:Nat)))=a.p+k+1:=x;simp at this⊢;omega
   have g:letter (E q) {a with p:=a.p+k}=false:=by simpa using d
   have p:=Z (sc (s:=E q) u.o z t.o (I g));have o:=Z g;clear d g;go_wp2_with fail;refine(r8 b.o.m).mono ?_;rintro r P⟨rfl,i,rfl⟩;rw[o.o];by_cases l:k=0
   .subst l;go_wp2_with fail;refine(qK (b.o.m.drewN i) 2 _ rfl).mono ?_;rintro r U⟨rfl,c⟩;have s:=Z ((b.o.drewN i).trans c);have L:=c.m.c1;have T:=c.m.c0;have y:(wrong {a with p:=a.p+0} 2).p=a.p:=by unfold wrong;split<;>rfl
    simp only[y]at L;clear c K A M y;go_wp2;go_quiet(fail);go_wp2;go_ret;have f:=p.o;simp only[if_true]at f;rw[f];have C:(wrong a 2).p=a.p:=by unfold wrong;split<;>rfl
    rw[C];exact⟨si,s.o.drewN _⟩
   have G:(((a.p:Int)+k)==a.p)=false:=dH;go_wp2;go_quiet(fail);go_wp2;go_ret;have f:=p.o;rw[aa l]at f;rw[f];exact⟨rfl,(b.o.drewN i).drewN _⟩
  have F:k=8:=om;subst F;have p:=Z (sc (s:=E q) u.o z t.o (Y rfl));go_wp2;go_quiet(fail);go_wp2;go_ret;have f:=p.o;rw[aa om]at f;rw[f];exact⟨rfl,b.o.drewN _⟩
theorem vY(s:List UInt8)(t:St):aO s t (nb ⟨#[39]⟩)=aK s t 39:=rfl
theorem Lb(b:n<256)(h:a.p<=c.length):(aK c a n).p<=c.length:=by grind(splits:=30)[aH,bt,aK,ar,wrong]
theorem V_(h:a.e=0):aR (bt c a.p)=(letter c a||digit c a||ar c a 32):=by simp[aR,letter,digit,ar,h]
theorem Gg(b:letter c a=false)(d:digit c a=false)(e:ar c a 32=false):¬a.e=0\/aR (bt c a.p)=false:=by grind[V_]
theorem my{ok:Nat->Bool}{s:List UInt8}{K:Nat}(b:n<=K)(e:a.e=0\/n=0)(h:run ok s n a.p=a.p+n)(c:n=K\/¬a.e=0\/ok (bt s (a.p+n))=false):eF ok s K a={a with p:=a.p+n}:=by
 unfold eF;by_cases d:a.e=0;.grind[uy]
 simp_all
theorem DJ(h:bB w n q a)(H:q.size<=120)(hp:a.p<=q.size):Calls prog 118 #[.pointer (some ⟨n,0,none⟩)] w λr w'=>r=.returned (.string (q.extract (aK (E q) a 39).p (eF aR (E q) 8 (aK (E q) a 39)).p))/\Rd n q w (fh (E q) a) w':=by
 have W:=Z h;clear h;have hp1:(aK (E q) a 39).p<=q.size:=by grind[ak,Lb,E]
 have R:fh (E q) a=aK (E q) (eF aR (E q) 8 (aK (E q) a 39)) 39:=rfl;rw[R];clear R;generalize S:aK (E q) a 39=u at*;have HX:=Z S;clear S;go_enter func118,ntmps118;go_wp2_with fail;refine(eH W.o ⟨#[39]⟩ de H).mono ?_;rintro r w1⟨rfl,c⟩;rw[vY,HX.o]at c;have D:=Z c;have u1:=c.m.c1;clear c;go_wp2;go_loopw[4,5,6]λ_ _ _ wr=>∃k:Nat,k<=8/\(u.e=0\/k=0)/\run aR (E q) k u.p=u.p+k/\Rd n q w {u with p:=u.p+k} wrλ_ _ _ wr=>u.p+8-mP n wr;case atStart=>exact⟨0,om,I rfl,rfl,D.o⟩
 case round=>
  obtain⟨k,P,x,d,y⟩:=hrel;have e:=Z y;have f:=y.m.c1;have z:=y.m.c0;have J:=y.m.fz 1;have hle:u.p+k<=q.size:=by grind[ak,yF,oo,E,aR]
  have K:=Z x;have G:=Z d;clear y x d u1;simp only at f;by_cases hlt:k<8
  .cases s:letter (E q) {u with p:=u.p+k}<;>cases t:digit (E q) {u with p:=u.p+k}<;>cases v:ar (E q) {u with p:=u.p+k} 32;case false.false.false=>have A:=Z s;have B:=Z t;have C:=Z v;have U:=Z (Gg s t v);have F:=Z (my (ok:=aR) (s:=E q) P K.o G.o (I U.o));clear s t v z J;go_wp2_with fail;refine(yG e.o.m).mono ?_;clear f;rintro r v1⟨rfl,l⟩;rw[A.o];have g:=Z (e.o.trans l);clear l;go_wp2_with fail;refine(j4 g.o.m).mono ?_;rintro r v2⟨rfl,m⟩;rw[B.o];have i:=Z (g.o.trans m);clear m;go_wp2_with fail;refine(eI i.o.m 32 32 rfl om).mono ?_;rintro r T⟨rfl,o⟩;rw[C.o];have b:=Z (i.o.trans o);have f:=b.o.m.c1;have z:=b.o.m.c0;simp only at f;clear o;go_wp2;go_quiet(fail);go_wp2_with fail;refine(eH (b.o.m.drewN _) ⟨#[39]⟩ de H).mono ?_;rintro r v4⟨rfl,p⟩;have j:=Z ((b.o.drewN _).trans p);rw[vY]at j;clear p;go_wp2;go_ret;rw[F.o];exact⟨rfl,j.o⟩
   all_goals
    have L:Hid (u.e=0/\aR (bt (E q) (u.p+k))=true):=by grind(splits:=30)[bB,aH,E,bt,digit,O,isLet,aR,letter,aK,fh,run,eF,ar,wrong]
    have A:=Z s;have B:=Z t;have C:=Z v;clear s t v z J;go_wp2_with fail;refine(yG e.o.m).mono ?_;clear f;rintro r v1⟨rfl,l⟩;rw[A.o];have g:=Z (e.o.trans l);clear l;go_wp2_with fail;refine(j4 g.o.m).mono ?_;rintro r v2⟨rfl,m⟩;rw[B.o];have i:=Z (g.o.trans m);clear m;go_wp2_with fail;refine(eI i.o.m 32 32 rfl om).mono ?_;rintro r T⟨rfl,o⟩;rw[C.o];have b:=Z (i.o.trans o);have f:=b.o.m.c1;have z:=b.o.m.c0;have J:=b.o.m.fz 1;simp only at f;clear o;go_wp2;go_roundw;case rel=>exact⟨k+1,om,Y L.o.1,r_ G.o L.o.2,b.o.kI (u.p+k+1)⟩
    case measure=>have M:=e.o.m.mP;have N:=(b.o.kI (u.p+k+1)).m.mP;simp only at M N;rw[M];have:mP n (T.setCell ⟨n,1,none⟩ (.int .i64 (u.p+k+1:Nat)))=u.p+k+1:=N;simp at this⊢;omega
  have h8:k=8:=om;subst h8;have F:=Z (my (ok:=aR) (s:=E q) P K.o G.o (Y rfl));go_wp2;go_quiet(fail);go_wp2_with fail;refine(eH (e.o.m.drewN _) ⟨#[39]⟩ de H).mono ?_;rintro r v4⟨rfl,p⟩;have j:=Z ((e.o.drewN _).trans p);rw[vY]at j;clear p;go_wp2;go_ret;rw[F.o];exact⟨rfl,j.o⟩
end Go.Proofs.YtcbadebjpogmlaaGreatDoor
namespace Tr
def cS(a:Nat)(o:List UInt8):G:=⟨a,0,0,[],o⟩
def p7(m:G):Bool:=!(m.st==2||m.st==3||m.st==4||m.st==5||(m.st==21&&m.bh==3))
def out(m:G)(b:Nat):List UInt8:=if m.st=4\/m.st=5 then(if b=46 then[46,46]else if b=42 then[91,42,93]else if b=91 then[91]else[91,39,UInt8.ofNat b])else if m.st=3 then(if b=46\/b=256 then[]else[UInt8.ofNat b])else if m.st=21/\m.bh=3 then(if cd m b=true then[UInt8.ofNat b]else if b=46\/b=256 then[39,93]else[39,93,UInt8.ofNat b])else[UInt8.ofNat b]
def T(s:List UInt8):Nat->List UInt8|0=>[]|i+1=>T s i++out (M s i) (bt s i)
def inc(m:G)(b:Nat):Nat:=if(nx m b).st=6 then 1 else if(m.st=4\/m.st=5)/\((nx m b).st=3\/(nx m b).st=21)then 1 else 0
def C(s:List UInt8):Nat->Nat|0=>0|i+1=>C s i+inc (M s i) (bt s i)
def sub(s:List UInt8)(q p:Nat):List UInt8:=(s.drop q).take (p-q)
theorem sub_self(s:List UInt8)(q:Nat):sub s q q=[]:=by simp[sub]
variable{a c f:List UInt8}{n k i j m g:Nat}
theorem iT(h:n<=k)(b:bt a k<256):sub a n (k+1)=sub a n k++[UInt8.ofNat (bt a k)]:=by
 have d:=cQ b;unfold sub;have e:k+1-n=(k-n)+1:=om;have c:k-n<(a.drop n).length:=by simp;omega
 rw[e,eC c];congr 1;have:(a.drop n)[k-n]=a[k]:=by simp[Nat.add_sub_cancel' h]
 rw[this];simp[bt,List.getElem?_eq_getElem d]
theorem mz{s:List UInt8}{a b c:Nat}(d:a<=b)(f:b<=c):sub s a c=sub s a b++sub s b c:=by unfold sub;have e:c-a=(b-a)+(c-b):=om;rw[e,List.take_add,List.drop_drop];grind
structure Ig(s:List UInt8)(e p:Nat):Prop where
 lv:2<=(M s p).st
 st:(M s (p+1)).st+2=e
 le:p<=s.length
 e3:e<=3
structure sd(s:List UInt8)(q c n:Nat)(m:G)(t:St):Prop where
 e0:t.e=0
 nn:t.n=n
 le:t.p<=s.length
 ge:q<=t.p
 tx:T s t.p=T s q++sub s q t.p
 ct:C s t.p=c
 br:p7 m=true
 lv:2<=m.st
 mm:M s t.p=m
structure Live(s:List UInt8)(q c X:Nat)(o:List UInt8)(n:Nat)(t:St):Prop where
 e0:t.e=0
 nn:t.n=n
 le:t.p<=s.length
 ge:q<=t.p
 tx:T s t.p=T s q++sub s q t.p
 ct:C s t.p=c
 br:p7 (M s t.p)=true
 lv:2<=(M s t.p).st
 ac:nx (M s t.p) (bt s t.p)=nx (cS X o) (bt s t.p)
structure yH(s:List UInt8)(n:Nat)(t:St):Prop where
 ne:¬t.e=0
 nn:t.n=n
 er:Ig s t.e t.p
def Ok(s:List UInt8)(q c a:Nat)(o:List UInt8)(n:Nat)(t:St):Prop:=Live s q c a o n t\/yH s n t
variable{d:G}
theorem vZ(h:p7 d=true):out d n=[UInt8.ofNat n]:=by grind(splits:=30)[p7,out]
theorem DK(h:p7 d=true)(a:(nx d n).st≠6):inc d n=0:=by grind[p7,inc]
variable{b:St}
theorem uz(f:b.e=0)(j:b.n=i)(o:n<=b.p)(q:T a b.p=T a n++sub a n b.p)(m:C a b.p=k)(l:p7 (M a b.p)=true)(g:bt a b.p<256)(h:nx (M a b.p) (bt a b.p)=d)(c:p7 d=true)(e:2<=d.st)(p:d.st≠6):sd a n k i d (aH b)where
 e0:=f
 nn:=j
 le:=by have:=cQ g;simp[aH];omega
 ge:=by simp[aH];omega
 tx:=by show T a (b.p+1)=_;simp only[T,aH];grind[vZ,iT]
 ct:=by show C a (b.p+1)=_;simp only[C];grind[DK]
 br:=c
 lv:=e
 mm:=by show M a (b.p+1)=_;simp only[M];exact h
theorem sd.step(h:sd a n k i d b){m':G}(g:bt a b.p<256)(j:nx d (bt a b.p)=m')(c:p7 m'=true)(e:2<=m'.st)(f:m'.st≠6):sd a n k i m' (aH b):=uz h.e0 h.nn h.ge h.tx h.ct (by rw[h.mm];exact h.br) g (by rw[h.mm];exact j) c e f
theorem Live.step(h:Live a n k j c i b){m':G}(g:bt a b.p<256)(l:nx (cS j c) (bt a b.p)=m')(d:p7 m'=true)(e:2<=m'.st)(f:m'.st≠6):sd a n k i m' (aH b):=uz h.e0 h.nn h.ge h.tx h.ct h.br g (by rw[h.ac];exact l) d e f
theorem sd.live(h:sd a n k i d b)(e:nx d (bt a b.p)=nx (cS j c) (bt a b.p)):Live a n k j c i b:=⟨h.e0,h.nn,h.le,h.ge,h.tx,h.ct,by rw[h.mm];exact h.br,by rw[h.mm];exact h.lv,by rw[h.mm];exact e⟩
theorem sd.same(h:sd a n k i (cS j c) b):Live a n k j c i b:=h.live rfl
theorem Live.go(h:Live a n k j c i b)(e d:Nat)(l:List UInt8)(p:bt a b.p=e)(m:e<256)(q:nx (cS j c) e=cS d l)(f:p7 (cS d l)=true)(g:2<=d)(o:d≠6):Live a n k d l i (aH b):=(h.step om (by rw[p];exact q) f g o).same
theorem Live.bad(h:Live a n k j c i b)(d:Nat)(f:d<=1)(e:(nx (cS j c) (bt a b.p)).st=d):yH a i {b with e:=d+2}where
 ne:=si
 nn:=h.nn
 er:=⟨h.lv,by show(M a (b.p+1)).st+2=d+2;simp only[M];rw[h.ac,e],h.le,by simp;omega⟩
theorem sd.bad(h:sd a n k i d b)(c:(nx d (bt a b.p)).st=0):yH a i {b with e:=2}where
 ne:=si
 nn:=h.nn
 er:=⟨by rw[h.mm];exact h.lv,by show(M a (b.p+1)).st+2=2;simp only[M];rw[h.mm,c],h.le,si⟩
theorem fT(h:b.e=0)(e:Nat):wrong b e={b with e:=e}:=by simp[wrong,h]
theorem py(h:yH a n b)(e:Nat):wrong b e=b:=by simp[wrong,h.ne]
theorem sj(h:yH a n b)(c:Nat):ar a b c=false:=by simp[ar,h.ne]
theorem aL(h:b.e=0)(c:Nat):ar a b c=(bt a b.p==c):=by simp[ar,h]
theorem kN(h:Ok a n k j c i b)(q:g<256)(r:nx (cS j c) g=cS m f)(d:p7 (cS m f)=true)(l:2<=m)(p:m≠6)(o:b.e=0->bt a b.p≠g->(nx (cS j c) (bt a b.p)).st=0):Ok a n k m f i (aK a b g):=by
 rcases h with h|h
 .unfold aK;rw[aL h.e0];by_cases e:bt a b.p=g;.rw[ae (by simp[e])];exact Y (h.go g m f e q r d l p)
  rw[aa (by simp[e]),fT h.e0];exact I (h.bad 0 om (o h.e0 e))
 unfold aK;rw[sj h,aa si,py h];exact I h
/-!### Words, quotes, counts -/
theorem sd.run{ty mx:Nat}{ok:Nat->Bool}(e:(ty=21/\ok=isLet/\mx=8)\/(ty=22/\ok=O/\mx=3)\/(ty=23/\ok=aR/\mx=8))(q:¬(ty=21/\j=3)):∀d t,sd a n k i ⟨ty,j,m,[],c⟩ t->(∀b,b<d->ok (bt a (t.p+b))=true)->m+d<=mx->sd a n k i ⟨ty,j,m+d,[],c⟩ {t with p:=t.p+d}
 |0,t,h,_,_=>h|d+1,t,h,o,u=>by
  have p:=sd.run e q d t h (λb s=>o b om) om;have g:=o d om;have l:bt a (t.p+d)<256:=by
   rcases e with⟨_,rfl,_⟩|⟨_,rfl,_⟩|⟨_,rfl,_⟩;.exact jI g
   .exact eZ g
   exact yF g
  have:=p.step (m':=⟨ty,j,m+d+1,[],c⟩) (by exact l) (by
   show nx ⟨ty,j,m+d,[],c⟩ (bt a (t.p+d))=_;have f:¬bt a (t.p+d)=256:=om;have r:cd ⟨ty,j,m+d,[],c⟩ (bt a (t.p+d))=true:=by rcases e with⟨rfl,rfl,rfl⟩|⟨rfl,rfl,rfl⟩|⟨rfl,rfl,rfl⟩<;>simp[cd,g]<;>omega
   unfold nx;rw[aa (by simp only;omega),aa f];unfold dc;rw[ae (by simp only;omega)];unfold aU;rw[ae r];unfold norm;simp only;rw[ae om,ae om,aa om]) (by have:=h.br;simp[p7]at this⊢;omega) (by simp only;omega) (by simp only;omega);exact this
theorem j5(m:G)(h:¬m.st<=1):nx m 256=if dR m=true then⟨26,0,0,[],[]⟩else⟨0,0,0,[],[]⟩:=by grind[nx]
theorem oq{mx:Nat}{ok:Nat->Bool}(d:(n=21/\ok=isLet/\mx=8)\/(n=22/\ok=O/\mx=3))(h:2<=k/\k<=20)(f:n=22->k≠3)(b:Nat)(e:i=mx\/ok b=false):nx ⟨n,k,i,[],a⟩ b=nx (cS k a) b:=by
 by_cases c:b=256;.grind[j5,cS,dR]
 have g:cd ⟨n,k,i,[],a⟩ b=false:=by rcases d with⟨rfl,rfl,rfl⟩|⟨rfl,rfl,rfl⟩<;>rcases e with rfl|e<;>simp[cd, *]
 unfold nx;rw[aa (by simp only;omega),aa c,aa (by simp only[cS];omega),aa c];unfold dc;rw[ae (by simp only;omega),aa (by simp only[cS];omega)];unfold aU;rw[aa (by rw[g];simp),aa (by simp only;omega),aa (by simp only;omega),aa (by simp only;omega),ae (by simp only;omega)];exact lu (by exact⟨rfl,rfl⟩) b
theorem dq(c:2<=n)(b:n<=20)(d:k≠256):nx (cS n a) k=norm (aJ (cS n a) k):=by grind(splits:=30)[cS,dc,nx]
theorem iI(c:2<=n)(_hX2:n<=20)(b:n≠3):(nx (cS n a) 256).st=0:=by grind(splits:=30)[cS,dR,nx]
theorem DM(h:d.st<=20):norm d=cS d.st d.op:=by grind[cS,Tr.norm]
theorem Z7(t:St):(aH t).p=t.p+1:=rfl
theorem Lc(h:sd a n k i ⟨21,j,1,[],c⟩ (aH b))(q:4<=j/\j<=20)(l:isLet (bt a b.p)=true)(r:b.e=0):Live a n k j c i (bH a b):=by
 have t:run isLet a 8 b.p=run isLet a 7 (b.p+1):=by rw[run,ae l]
 have g:=fN isLet a 7 (b.p+1);have m:=iD isLet a 7 (b.p+1);have e:=gL isLet a 7 (b.p+1);have o:=g_ isLet a 7 (b.p+1);have p:bH a b={aH b with p:=(aH b).p+(run isLet a 7 (b.p+1)-(b.p+1))}:=by grind(splits:=30)[aH,bH]
 have f:=sd.run (ty:=21) (mx:=8) (ok:=isLet) (Y ⟨rfl,rfl,rfl⟩) om (run isLet a 7 (b.p+1)-(b.p+1)) (aH b) h (λd s=>e _ (by simp[aH]) (by simp[aH];omega)) om;rw[p];refine f.live (oq (Y ⟨rfl,rfl,rfl⟩) om om _ ?_);grind[aH,isLet,run]
theorem yI(c:b.e=0)(d:isLet (bt a b.p)=false):bH a b={b with e:=2}:=by grind(splits:=30)[run,bH]
theorem Gh(h:yH a n b):bH a b=b:=by unfold bH;rw[aa h.ne]
theorem yJ(h:Ok a n k 12 c i b):Ok a n k 11 c i (bH a b):=by
 rcases h with h|h
 .cases d:isLet (bt a b.p)
  .rw[yI h.e0 d];refine I (h.bad 0 om ?_);by_cases e:bt a b.p=256;.grind[iI]
   rw[dq om om e];simp[aJ,dh,iW,cS,d,norm]
  refine Y (Lc (h.step (jI d) ?_ (by simp[p7]) si si) om d h.e0);rw[dq om om (by have:=jI d;omega)];simp[aJ,dh,iW,cS,d,norm]
 rw[Gh h];exact I h
theorem Gj(h:sd a n k i ⟨23,j,0,[],c⟩ b)(v:4<=j/\j<=20/\j≠6)(l:p7 (cS j c)=true):Ok a n k j c i (aK a (eF aR a 8 b) 39):=by
 have q:=fN aR a 8 b.p;have r:=iD aR a 8 b.p;have m:=gL aR a 8 b.p;have s:=g_ aR a 8 b.p;obtain⟨f,o⟩:∃f,run aR a 8 b.p=b.p+f:=⟨run aR a 8 b.p-b.p,om⟩;have p:eF aR a 8 b={b with p:=b.p+f}:=by unfold eF;rw[ae h.e0,o]
 have g:=sd.run (ty:=23) (mx:=8) (ok:=aR) (I (I ⟨rfl,rfl,rfl⟩)) om f b h (λd w=>m _ om om) om;rw[<-p]at g;have t:(eF aR a 8 b).p=run aR a 8 b.p:=by rw[p,o]
 generalize eF aR a 8 b=u at*;unfold aK;rw[aL g.e0];by_cases e:bt a u.p=39;.rw[ae (by simp[e])];left;refine(g.step (m':=cS j c) om ?_ l (by simp[cS];omega) (by simp[cS];omega)).same;grind[DM,cd,aU,dc,O,isLet,aR,nx]
 rw[aa (by simp[e]),fT g.e0];right;refine g.bad ?_;grind[bt,cd,aU,dc,dR,Tr.norm,nx]
theorem uA(c:Nat)(h:yH a n b):aK a b c=b:=by unfold aK;rw[sj h,aa si,py h]
theorem yK(h:Live a n k j c i b)(f:bt a b.p=39)(l:nx (cS j c) 39=⟨23,m,0,[],c⟩)(g:4<=m/\m<=20/\m≠6)(d:p7 (cS m c)=true):Ok a n k m c i (fh a b):=by
 unfold fh;have e:aK a b 39=aH b:=by unfold aK;rw[aL h.e0,f];rfl
 rw[e];exact Gj (h.step om (by rw[f];exact l) (by simp[p7]) si si) g d
theorem pz(h:Live a n k j c i b)(A:4<=m/\m<=20/\m≠6)(o:p7 (cS m c)=true)(s:∀d,O d=true->nx (cS j c) d=norm (bJ (cS j c) d m))(r:O (bt a b.p)=false->(nx (cS j c) (bt a b.p)).st=0):Ok a n k m c i (bu a b false):=by
 unfold bu;have t:digit a b=O (bt a b.p):=by simp[digit,h.e0]
 rw[t,aL h.e0];cases f:O (bt a b.p);.rw[ae (Y rfl),fT h.e0];exact I (h.bad 0 om (r f))
 rw[aa si];have g:=eZ f;by_cases l:bt a b.p=48;.rw[ae (by simp[l])];left;refine(h.step (m':=cS m c) g ?_ o (by simp[cS];omega) (by simp[cS];omega)).same;rw[s _ f,l];simp[bJ];exact DM (by simp only;omega)
 rw[aa (by simp[l])];have w:=h.step (m':=⟨22,m,1,[],c⟩) g (by grind[cS,bJ,Tr.norm]) (by simp[p7]) si si;have x:run O a 3 b.p=run O a 2 (b.p+1):=by rw[run,ae f]
 have u:=fN O a 2 (b.p+1);have v:=iD O a 2 (b.p+1);have p:=gL O a 2 (b.p+1);have y:=g_ O a 2 (b.p+1);have z:eF O a 3 b={aH b with p:=(aH b).p+(run O a 2 (b.p+1)-(b.p+1))}:=by unfold eF;rw[ae h.e0,x];grind[aH]
 have q:=sd.run (ty:=22) (mx:=3) (ok:=O) (I (Y ⟨rfl,rfl,rfl⟩)) om (run O a 2 (b.p+1)-(b.p+1)) (aH b) w (λe f=>p _ (by simp[aH]) (by simp[aH];omega)) om;rw[z];left;refine q.live (oq (I ⟨rfl,rfl,rfl⟩) om om _ ?_);grind[aH,O,run]
theorem uB(h:sd a n k i ⟨25,j,0,[],c⟩ b)(w:4<=j/\j<=20/\j≠6):Ok a n k j c i (bu a b true):=by
 unfold bu;have p:digit a b=O (bt a b.p):=by simp[digit,h.e0]
 rw[p,aL h.e0];by_cases f:O (bt a b.p)=true/\bt a b.p≠48
 .obtain⟨f,m⟩:=f;rw[aa (by simp[f,m]),aa (by simp[m])];have g:=eZ f;have s:=h.step (m':=⟨22,j,1,[],c⟩) g (by grind[bt,bJ,cd,aU,dc,Tr.norm,nx]) (by simp[p7]) si si;have t:run O a 3 b.p=run O a 2 (b.p+1):=by rw[run,ae f]
  have q:=fN O a 2 (b.p+1);have r:=iD O a 2 (b.p+1);have l:=gL O a 2 (b.p+1);have u:=g_ O a 2 (b.p+1);have v:eF O a 3 b={aH b with p:=(aH b).p+(run O a 2 (b.p+1)-(b.p+1))}:=by unfold eF;rw[ae h.e0,t];grind[aH]
  have o:=sd.run (ty:=22) (mx:=3) (ok:=O) (I (Y ⟨rfl,rfl,rfl⟩)) om (run O a 2 (b.p+1)-(b.p+1)) (aH b) s (λd f=>l _ (by simp[aH]) (by simp[aH];omega)) om;rw[v];left;refine o.live (oq (I ⟨rfl,rfl,rfl⟩) om om _ ?_);grind[aH,O,run]
 rw[ae (by grind),fT h.e0];right;refine h.bad ?_;by_cases e:bt a b.p=256;.rw[e];simp[nx,dR]
 unfold nx;rw[aa si,aa e];unfold dc;rw[ae si];unfold aU;rw[aa (by simp[cd]),aa si,aa si,aa λx=>f x.2,aa si];rfl
theorem A_(m:Bool)(h:yH a n b):bu a b m=b:=by unfold bu;rw[ae (Y (by simp[digit,h.ne])),py h]
theorem sq(m:Bool)(h:yH a n b):countP a b m=b:=by grind[A_,sj,countP,has,d_]
theorem uC(h:Live a n k j c i b)(g:4<=m/\m<=20/\m≠6)(o:p7 (cS m c)=true)(l:nx (cS j c) 45=⟨25,m,0,[],c⟩)(q:∀d,O d=true->nx (cS j c) d=norm (bJ (cS j c) d m))(p:bt a b.p≠45->O (bt a b.p)=false->(nx (cS j c) (bt a b.p)).st=0):Ok a n k m c i (countP a b true):=by
 unfold countP d_;simp only[if_true,Bool.true_and];rw[aL h.e0];by_cases e:bt a b.p=45
 .have f:has a b 45=aH b:=by unfold has;rw[aL h.e0,e];rfl
  rw[f,e];exact uB (h.step om (by rw[e];exact l) (by simp[p7]) si si) g
 have f:has a b 45=b:=by unfold has;rw[aL h.e0,aa (by simp[e])]
 grind[pz,bt]
theorem yL:∀(l:List UInt8)(b:UInt8)(t:St),sd a n k i ⟨24,18,0,b::l,c⟩ t->Ok a n k 18 c i (aO a t ((b::l).map UInt8.toNat))
 |l,b,t,h=>by
  have f:∀(d:List UInt8),l=d->Ok a n k 18 c i (aO a (aK a t b.toNat) (d.map UInt8.toNat)):=by
   intro d q;subst q;by_cases e:bt a t.p=b.toNat
   .have j:aK a t b.toNat=aH t:=by unfold aK;rw[aL h.e0,ae (by simp[e])]
    rw[j];have g:bt a t.p<256:=by rw[e];exact UInt8.toNat_lt b
    have m:nx ⟨24,18,0,b::l,c⟩ (bt a t.p)=norm (dQ ⟨24,18,0,b::l,c⟩ l 18):=by grind[cd,aU,dc,nx]
    cases l with
    |nil=>refine Y (h.step (m':=cS 18 c) g ?_ (by simp[p7,cS]) (by simp[cS]) (by simp[cS])).same;grind[cS,dQ,Tr.norm]|cons p d=>refine yL d p (aH t) (h.step g ?_ (by simp[p7]) si si);rw[m];simp[dQ,norm]
   have j:aK a t b.toNat={t with e:=2}:=by unfold aK;rw[aL h.e0,aa (by simp[e]),fT h.e0]
   have o:yH a i {t with e:=2}:=by refine h.bad ?_;grind[bt,cd,aU,dc,dR,Tr.norm,nx]
   rw[j];have:∀d:List Nat,aO a {t with e:=2} d={t with e:=2}:=by intro d;induction d with|nil=>rfl|cons x r s=>simp only[aO,List.foldl_cons];rw[uA _ o];exact s
   rw[this];exact I o
  exact f l rfl
theorem Ok.le(h:Ok a n k i c j b):b.p<=a.length:=by
 rcases h with h|h;.exact h.le
 exact h.er.le
theorem Ok.live(h:Ok a n k i c j b)(d:b.e=0):Live a n k i c j b:=by
 rcases h with h|h;.exact h
 exact absurd d h.ne
theorem aF(h:ar a b n=true):b.e=0/\bt a b.p=n:=by simpa[ar]using h
theorem Live.as(h:Live a n k i c m b)(e:nx (cS i c) (bt a b.p)=nx (cS j f) (bt a b.p)):Live a n k j f m b:=⟨h.e0,h.nn,h.le,h.ge,h.tx,h.ct,h.br,h.lv,h.ac.trans e⟩
theorem AU(h:Ok a n k 11 c i b)(d:ar a b 46=true):Ok a n k 11 c i (bH a (aH b)):=by obtain⟨e,d⟩:=aF d;exact yJ (Y ((h.live e).go 46 12 c d om rfl rfl om om))
theorem AR(h:Ok a n k 11 c i b)(g:ar a b 91=true):Ok a n k 11 c i (aK a (countP a (aH b) true) 93):=by
 obtain⟨r,g⟩:=aF g;have p:=(h.live r).go 91 13 c g om rfl rfl om om;have q:Ok a n k 14 c i (countP a (aH b) true):=by
  refine uC p om rfl rfl ?_ ?_
  .intro d g;rw[dq om om (by have:=eZ g;omega)];have j:¬d=45:=by intro e;subst e;simp[O]at g
   grind[cS,aJ,dM,dh]
  intro j m;by_cases f:bt a (aH b).p=256;.grind[iI]
  rw[dq om om f];have l:¬bt a (aH b).p=48:=by intro e;rw[e]at m;simp[O]at m
  simp[aJ,dh,dM,bJ,cS,j,l,m,norm]
 refine kN q om rfl rfl om om ?_;intro _ o;by_cases f:bt a (countP a (aH b) true).p=256;.grind[iI]
 rw[dq om om f];simp[aJ,dh,cS,o,norm]
theorem Ff(b:n≠256):nx (cS 17 a) n=norm (fj (cS 17 a) n):=by grind[dq,cS,aJ]
theorem oO(h:Ok a n k 17 c i b)(d:ar a b 39=true):Ok a n k 18 c i (fh a b):=by obtain⟨e,d⟩:=aF d;exact yK (h.live e) d rfl om rfl
theorem ry(x d:UInt8)(l:List UInt8)(h:Ok a n k 17 c i b)(f:ar a b x.toNat=true)(j:nx (cS 17 c) x.toNat=⟨24,18,0,d::l,c⟩):Ok a n k 18 c i (aO a b ((x::d::l).map UInt8.toNat)):=by
 have e:aO a b ((x::d::l).map UInt8.toNat)=aO a (aH b) ((d::l).map UInt8.toNat):=by grind(splits:=30)[aH,aO,aK]
 obtain⟨g,f⟩:=aF f;rw[e];exact yL l d (aH b) ((h.live g).step (by rw[f];exact UInt8.toNat_lt x) (by rw[f];exact j) rfl si si)
theorem oP(h:Ok a n k 17 c i b)(f:ar a b 39=false)(g:ar a b 116=false)(j:ar a b 102=false)(l:ar a b 110=false):Ok a n k 18 c i (countP a b true):=by
 rcases h with h|h
 .rw[aL h.e0]at f g j l;simp only[beq_eq_false_iff_ne,ne_eq]at f g j l;refine uC h om rfl rfl ?_ ?_;.grind[eZ,Ff,cS,fj,dM,O]
  intro o m;by_cases d:bt a b.p=256;.grind[iI]
  rw[Ff d];have p:¬bt a b.p=48:=by intro e;rw[e]at m;simp[O]at m
  grind[cS,fj,bJ,dM,Tr.norm]
 rw[sq _ h];exact I h
theorem ok_eq(x:Nat)(j:x=61\/x=33)(h:Ok a n k 11 c i b)(d:ar a b x=true):Ok a n k 17 c i (aO a b [x,61]):=by
 have e:aO a b [x,61]=aK a (aH b) 61:=by grind[aH,aO,aK]
 obtain⟨g,d⟩:=aF d;rw[e];have f:Live a n k 15 c i (aH b):=(h.live g).go x 15 c d om (by rcases j with rfl|rfl<;>rfl) rfl om om;refine kN (Y f) om rfl rfl om om ?_;grind[iI,dq,aH,bt,cS,aJ,fj,Tr.norm]
theorem Dw(h:Ok a n k 11 c i b)(g:ar a b 60=true):Ok a n k 17 c i (has a (aO a b [60]) 61):=by
 have e:aO a b [60]=aH b:=by simp only[aO,List.foldl_cons,List.foldl_nil];unfold aK;rw[ae g]
 obtain⟨m,g⟩:=aF g;rw[e];have j:Live a n k 16 c i (aH b):=(h.live m).go 60 16 c g om rfl rfl om om;unfold has;rw[aL j.e0];by_cases f:bt a (aH b).p=61;.rw[ae (by simp[f])];exact Y (j.go 61 17 c f om rfl rfl om om)
 rw[aa (by simp[f])];refine Y (j.as ?_);by_cases d:bt a (aH b).p=256;.rw[d,j5 _ (by simp[cS]),j5 _ (by simp[cS])];rfl
 rw[dq om om d,Ff d];have l:norm (aJ (cS 16 c) (bt a (aH b).p))=norm (fj (cS 16 c) (bt a (aH b).p)):=by simp[aJ,cS]
 rw[l];have f1:¬(16:Nat)=15:=om;have f2:¬(17:Nat)=15:=om;simp only[fj,cS,f,false_and,if_false,f1,f2];rfl
theorem Dx(h:Ok a n k 11 c i b)(p:b.e=0->bt a b.p≠46/\bt a b.p≠91)(e:ar a b 61=false)(f:ar a b 33=false)(g:ar a b 60=false):Ok a n k 18 c i b:=by
 rcases h with h|h
 .obtain⟨j,l⟩:=p h.e0;rw[aL h.e0]at e f g;simp only[beq_eq_false_iff_ne,ne_eq]at e f g;refine Y (h.as ?_);by_cases d:bt a b.p=256;.rw[d,j5 _ (by simp[cS]),j5 _ (by simp[cS])];rfl
  rw[dq om om d,dq om om d];have m:norm (aJ (cS 11 c) (bt a b.p))=norm (bw (cS 11 c) (bt a b.p)):=by simp[aJ,eo,cS,j,l,e,f,g]
  have o:norm (aJ (cS 18 c) (bt a b.p))=norm (bw (cS 18 c) (bt a b.p)):=by simp[aJ,cS]
  rw[m,o];simp only[bw,cS];grind[bN]
 exact I h
theorem Ty(h:Ok a n k 10 c i b)(d:ar a b 33=false)(e:ar a b 40=false):Ok a n k 11 c i (aO a b [64]):=by refine kN h om rfl rfl om om ?_;grind[iI,dq,bt,cS,aJ,gA,Tr.norm,ar]
