import Derived.Test.YtcbadebjpogmlaaGreatDoorProg
import Derived.WalkKit
import Derived.WalkSpells
import Derived.WalkLawsBesides
import Derived.Deep.QuietTactic
import Derived.BigQuiet
import Derived.Test.YtcbadebjpogmlaaGreatDoorPPlain
import Derived.Test.YtcbadebjpogmlaaGreatDoorPPlain7
import Derived.BigRegion
import Derived.Deep.RegionLaw
import Derived.Deep.AppendLies
namespace Go.Proofs.YtcbadebjpogmlaaGreatDoor
open Go.RowKit Tr
structure Fr (K:Nat→Prop) (w w':World):Prop where
 os:w'.os=w.os
 tape:w'.tape=w.tape
 output:w'.output=w.output
 size:w.heap.size≤w'.heap.size
 block:∀k,k<w.heap.size→¬K k→w'.heap[k]?=w.heap[k]?
theorem Fr.refl (K:Nat→Prop) (w:World):Fr K w w:=⟨rfl,rfl,rfl,Nat.le_refl _,fun _ _ _=>rfl⟩
theorem Fr.trans {K:Nat→Prop} {a b c:World} (h:Fr K a b) (k:Fr K b c):Fr K a c :=
 ⟨k.os.trans h.os,k.tape.trans h.tape,k.output.trans h.output,Nat.le_trans h.size k.size,fun i hi hK=>(k.block i (Nat.lt_of_lt_of_le hi h.size) hK).trans (h.block i hi hK)⟩
theorem Fr.mono {K L:Nat→Prop} {a b:World} (h:Fr K a b) (hl:∀k,k<a.heap.size→K k→L k):Fr L a b :=
 ⟨h.os,h.tape,h.output,h.size,fun i hi hK=>h.block i hi (fun x=>hK (hl i hi x))⟩
theorem Fr.drewN {K:Nat→Prop} {a w:World} (h:Fr K a w) (n:Nat):Fr K a (w.drewN n):=⟨h.os,h.tape,h.output,h.size,h.block⟩
theorem Fr.drew {K:Nat→Prop} {a w:World} (h:Fr K a w):Fr K a w.drew:=⟨h.os,h.tape,h.output,h.size,h.block⟩
theorem Fr.alloc {K:Nat→Prop} {a w:World} (h:Fr K a w) (o:Obj):Fr K a (w.alloc o) :=
 h.trans ⟨rfl,rfl,rfl,by simp,fun k hk _=>Below.heap_alloc _ _ _ hk⟩
theorem Fr.setCell {K:Nat→Prop} {a w:World} (h:Fr K a w) (p:Addr) (hp:K p.block∨a.heap.size≤p.block) (v:Value):Fr K a (w.setCell p v) :=
 ⟨h.os,h.tape,h.output,Nat.le_trans h.size (by simp [World.setCell]),fun k hk hK=>by
  rw [Below.heap_setCell _ _ _ _ (fun e=>by subst e; rcases hp with x | x; exact hK x; omega)]; exact h.block k hk hK⟩
theorem Fr.of_below {K:Nat→Prop} {a w:World} (h:Below a.heap.size a w):Fr K a w:=⟨h.os,h.tape,h.output,h.size,fun k hk _=>h.block k hk⟩
theorem Fr.below {a w:World} (h:Fr (fun _=>False) a w):Below a.heap.size a w:=⟨h.os,h.tape,h.output,h.size,fun k hk=>h.block k hk id⟩
theorem Fr.cell {K:Nat→Prop} {w w':World} (h:Fr K w w') {p:Addr} (hp:p.block<w.heap.size) (hK:¬K p.block):w'.cell? p=w.cell? p:=World.cell?_of_block (w:=w) (h.block p.block hp hK)
theorem Fr.frozen {K:Nat→Prop} {w w':World} (h:Fr K w w') {p:Addr} (hp:p.block<w.heap.size) (hK:¬K p.block):w'.frozen? p=w.frozen? p:=World.frozen?_of_block (w:=w) (h.block p.block hp hK)
theorem lt_of_some {w:World} {b:Nat} {o:Obj} (h:w.heap[b]?=some o):b<w.heap.size:=(Array.getElem?_eq_some_iff.1 h).1
def bs (s:ByteArray):List UInt8:=s.data.toList
theorem bs_len (s:ByteArray):(bs s).length=s.size:=by simp [bs]
theorem btB_lt {s:ByteArray} {p:Nat} (h:p<s.size):bt (bs s) p=s[p].toNat:=by
 have:(bs s)[p]?=some s[p]:=by
  simp [bs,ByteArray.getElem_eq_getElem_data]
 simp [bt,this]
theorem btB_ge {s:ByteArray} {p:Nat} (h:¬p<s.size):bt (bs s) p=256:=bt_end (by rw [bs_len]; omega)
end Go.Proofs.YtcbadebjpogmlaaGreatDoor
namespace Go.Proofs.YtcbadebjpogmlaaGreatDoor
open Go.RowKit Tr
def PB (b:Nat):Nat→Prop:=fun k=>k=b
def nb (s:ByteArray):List Nat:=(bs s).map UInt8.toNat
theorem nb_len (s:ByteArray):(nb s).length=s.size:=by simp [nb,bs_len]
end Go.Proofs.YtcbadebjpogmlaaGreatDoor
namespace Go.Proofs.YtcbadebjpogmlaaGreatDoor
open Go.RowKit Tr
theorem hide {p:Prop} (h:p):Hid p:=h
end Go.Proofs.YtcbadebjpogmlaaGreatDoor
namespace Go.Proofs.YtcbadebjpogmlaaGreatDoor
open Go.RowKit Tr
theorem own_fr {K:Nat→Prop} {w w':World} {base:Nat} {e:TypeId} {sz:Nat} {v:Value} {n:Nat} {xs:List Value} (h:w.ownsRow base e sz v n xs) (f:Fr K w w') (hK:∀g,base≤g→¬K g):w'.ownsRow base e sz v n xs:=by
 refine ⟨h.1,?_⟩
 rcases h.2 with h2 | ⟨g,cap,cur,hv,hb,hg,r⟩
 ·exact Or.inl h2
 exact Or.inr ⟨g,cap,cur,hv,hb,(f.block g (lt_of_some hg) (hK g hb)).trans hg,r⟩
theorem Fr.grown {K:Nat→Prop} {a w w':World} {row:Option Nat} (h:Fr K a w) (hg:w.grownBy w' row) (hr:∀k,row=some k→a.heap.size≤k∨K k):Fr K a w' :=
 ⟨hg.os.trans h.os,hg.tape.trans h.tape,hg.output.trans h.output,Nat.le_trans h.size hg.size,fun k hk hK=>by
  rw [hg.block k (Nat.lt_of_lt_of_le hk h.size) (fun e=>by rcases hr k e.symm with x | x; omega; exact hK x)]; exact h.block k hk hK⟩
theorem own_slice {w:World} {base:Nat} {e:TypeId} {sz:Nat} {v:Value} {n:Nat} {xs:List Value} (h:w.ownsRow base e sz v n xs):∃a c,v=.slice a n c:=by
 rcases h.2 with ⟨h1,h2⟩ | ⟨g,cap,cur,hv,_⟩
 ·subst h2; exact ⟨_,_,h1⟩
 exact ⟨_,_,hv⟩
end Go.Proofs.YtcbadebjpogmlaaGreatDoor
namespace Go.Proofs.YtcbadebjpogmlaaGreatDoor
open Go.RowKit Tr
def Blk (w:World) (g:Nat) (cs:Array Value) (T:TypeId):Prop:=w.heap[g]?=some (.cells cs T)
theorem Blk.lt {w:World} {g:Nat} {cs:Array Value} {T:TypeId} (h:Blk w g cs T):g<w.heap.size:=lt_of_some h
theorem Blk.cell {w:World} {g:Nat} {cs:Array Value} {T:TypeId} (h:Blk w g cs T) (i:Nat):w.cell? ⟨g,i,none⟩=cs[i]?:=by unfold Blk at h; simp [World.cell?,h]
theorem Blk.fz {w:World} {g:Nat} {cs:Array Value} {T:TypeId} (h:Blk w g cs T) (i:Nat):w.frozen? ⟨g,i,none⟩=false:=by unfold Blk at h; simp [World.frozen?,h]
theorem Blk.new (w:World) (cs:Array Value) (T:TypeId):Blk (w.alloc (.cells cs T)) w.heap.size cs T:=by unfold Blk; exact heap_alloc_new w _
theorem Blk.alloc {w:World} {g:Nat} {cs:Array Value} {T:TypeId} (h:Blk w g cs T) (o:Obj):Blk (w.alloc o) g cs T:=(Below.heap_alloc _ _ _ h.lt).trans h
theorem Blk.fr {K:Nat→Prop} {w w':World} {g:Nat} {cs:Array Value} {T:TypeId} (h:Blk w g cs T) (f:Fr K w w') (hK:¬K g):Blk w' g cs T:=(f.block g h.lt hK).trans h
theorem Blk.set {w:World} {g:Nat} {cs:Array Value} {T:TypeId} (h:Blk w g cs T) (i:Nat) (v:Value):Blk (w.setCell ⟨g,i,none⟩ v) g (cs.setIfInBounds i v) T:=by
 unfold Blk at *; simp [World.setCell,Array.getElem?_modify,h]
theorem Blk.other {w:World} {g g':Nat} {cs:Array Value} {T:TypeId} (h:Blk w g cs T) (hg:g≠g') (i:Nat) (v:Value):Blk (w.setCell ⟨g',i,none⟩ v) g cs T:=(Below.heap_setCell _ _ _ _ hg).trans h
end Go.Proofs.YtcbadebjpogmlaaGreatDoor
namespace Go.Proofs.YtcbadebjpogmlaaGreatDoor
open Go.RowKit Tr
theorem bs_append (a b:ByteArray):bs (a++b)=bs a++bs b:=by simp [bs]
theorem bs_extract (s:ByteArray) (i j:Nat):bs (s.extract i j)=sub (bs s) i j:=by
 simp [bs,sub,List.extract_eq_take_drop]
end Go.Proofs.YtcbadebjpogmlaaGreatDoor
namespace Go.Proofs.YtcbadebjpogmlaaGreatDoor
open Go.RowKit Tr
def Fin (s:List UInt8):Prop:=(M s (s.length+1)).st=26
theorem bnd_fin {s:List UInt8} {c:Nat} {acc:List UInt8} {t:St} (h:Bnd s c acc t) (hp:t.p=s.length):Fin s∧C s (s.length+1)=c∧T s (s.length+1)=acc:=by
 have hb:bt s s.length=256:=bt_end (Nat.le_refl _)
 have hac:=h.ac
 have hct:=h.ct
 have hty:=h.ty
 rw [hp] at hac hct hty
 rw [hb] at hac
 have hnx:nx (M s s.length) 256=⟨26,0,0,[],[]⟩:=by rw [hac]; rfl
 refine ⟨?_,?_,?_⟩
 ·show (M s (s.length+1)).st=26
  simp only [M]; rw [hb,hnx]
 ·simp only [C]
  rw [hb,hct]
  have:inc (M s s.length) 256=0:=by unfold inc; rw [hnx,if_neg (by simp),if_neg (by simp)]
  omega
 simp only [T]
 rw [hb]
 rcases hty with ⟨h1,h2⟩ | ⟨h1,h2,h3,h4⟩
 ·simp [out,h1,h2]
 rw [hb] at h3; simp [out,h1,h2,h3,h4]
theorem C_le (s:List UInt8):∀i,C s i≤i
 | 0=>Nat.le_refl _
 | i+1=>by
  have:=C_le s i
  simp only [C]
  have:inc (M s i) (bt s i)≤1:=by
   unfold inc; repeat' split
   all_goals omega
  omega
theorem begin_ok (s:List UInt8):OkB s 0 [36] (must s ⟨0,0,0⟩ [36]):=by
 show OkB s 0 [36] (must1 s ⟨0,0,0⟩ 36)
 unfold must1
 rw [sees_live rfl]
 by_cases hb:bt s 0=36
 ·rw [if_pos (by simp [hb])]
  have hp:=bt_lt (s:=s) (p:=0) (by omega)
  have hM:M s 1=cS 3 []:=by simp only [M]; rw [hb]; rfl
  refine Or.inl ⟨rfl,rfl,hp,?_,?_,?_,Or.inl ⟨?_,?_⟩⟩
  ·show 2≤(M s 1).st
   rw [hM]; simp [cS]
  ·show nx (M s 1) _=_
   rw [hM]
  ·show C s 1=0
   simp only [C]
   have:inc (M s 0) (bt s 0)=0:=by simp only [M]; rw [hb]; rfl
   omega
  ·show (M s 1).st=3
   rw [hM]; rfl
  show T s 1=[36]
  simp only [T,M]; rw [hb]; rfl
 rw [if_neg (by simp [hb]),wrong_of rfl]
 refine Or.inr ⟨by simp,rfl,⟨by simp [M,g0],?_,Nat.zero_le _,by simp⟩⟩
 show (M s 1).st+2=2
 simp only [M]
 have e:g0=cS 2 []:=rfl
 rw [e]
 by_cases h256:bt s 0=256
 ·rw [h256]
  have:=nx_end (X:=2) (o:=[]) (by omega) (by omega) (by omega)
  omega
 rw [nx_low (by omega) (by omega) h256]
 simp [gBetween,gSegment,cS,hb,norm]
theorem nrm:(∀(l:List Oper) (i:Nat) (h:i<l.length),l.toArray[i]'h=l[i])∧(∀(a:Oper) (l:List Oper) (h:0<(a::l).length),(a::l)[0]'h=a)∧(∀(a:Oper) (l:List Oper) (i:Nat) (h:i+1<(a::l).length),(a::l)[i+1]'h=l[i]'(Nat.lt_of_succ_lt_succ h))∧(∀(l:List Value) (i:Nat) (v:Value),l.toArray.setIfInBounds i v=(l.set i v).toArray)∧(∀(a v:Value) (l:List Value),(a::l).set 0 v=v::l)∧∀(a v:Value) (l:List Value) (i:Nat),(a::l).set (i+1) v=a::l.set i v:=⟨fun _ _ _=>List.getElem_toArray _,fun _ _ _=>rfl,fun _ _ _ _=>rfl,fun _ _ _=>List.setIfInBounds_toArray ..,fun _ _ _=>rfl,fun _ _ _ _=>rfl⟩
abbrev Keeps (w w':World):Prop:=Fr (fun _=>False) w w'
theorem Fr.new {K L:Nat→Prop} {a b c:World} (h:Fr K a b) (k:Fr L b c) (hL:∀i,i<a.heap.size→L i→K i):Fr K a c :=
 ⟨k.os.trans h.os,k.tape.trans h.tape,k.output.trans h.output,Nat.le_trans h.size k.size,fun i hi hK=>(k.block i (Nat.lt_of_lt_of_le hi h.size) (fun x=>hK (hL i hi x))).trans (h.block i hi hK)⟩
end Go.Proofs.YtcbadebjpogmlaaGreatDoor
namespace Tr
def isBl (b:Nat):Bool:=b == 32 || b == 10
def sk (s:List UInt8) (i:Nat):Nat:=run isBl s (s.length+1) i
def dvT (s:List UInt8) (p:Nat):Nat→Nat
 | 0=>0
 | k+1=>10 * dvT s p k+(bt s (p+k) - 48)
structure Dat where
 kind:Nat
 n:Int
 s:List UInt8
 name:List UInt8
 path:List UInt8
 frm:Nat
 to:Nat
 cl:Int
structure Tv where
 d:Dat
 ws:List Tv
def decN:Nat→Nat→List UInt8
 | 0,_=>[]
 | f+1,n=>if n<10 then [UInt8.ofNat (48+n)] else decN f (n / 10)++[UInt8.ofNat (48+n % 10)]
def dec (n:Nat):List UInt8:=decN (n+1) n
theorem decN_eq:∀f g n,n<f→n<g→decN f n=decN g n
 | 0,_,_,h,_=>absurd h (Nat.not_lt_zero _)
 | _+1,0,_,_,h=>absurd h (Nat.not_lt_zero _)
 | f+1,g+1,n,h1,h2=>by
  unfold decN
  by_cases h:n<10
  ·rw [if_pos h,if_pos h]
  rw [if_neg h,if_neg h,decN_eq f g (n / 10) (by omega) (by omega)]
theorem dec_small {n:Nat} (h:n<10):dec n=[UInt8.ofNat (48+n)]:=by unfold dec decN; rw [if_pos h]
theorem dec_great {n:Nat} (h:¬n<10):dec n=dec (n / 10)++[UInt8.ofNat (48+n % 10)]:=by
 have e:dec n=decN n (n / 10)++[UInt8.ofNat (48+n % 10)]:=by unfold dec; rw [decN,if_neg h]
 rw [e,decN_eq n (n / 10+1) (n / 10) (by omega) (by omega)]
 rfl
theorem dec_len:∀n,(dec n).length≤n+1:=by
 intro n
 induction n using Nat.strongRecOn with
 | _ n ih =>
  by_cases h:n<10
  ·rw [dec_small h]; simp
  rw [dec_great h,List.length_append]
  have:=ih (n / 10) (by omega)
  simp; omega
def esc1 (b:UInt8):List UInt8:=if b=39∨b=92 then [92,b] else [b]
def quoT (l:List UInt8):List UInt8:=[39]++l.flatMap esc1++[39]
end Tr
namespace Tr
structure StA where
 word:Bool
 name:List UInt8
 n:Int
def idx (l:List Tv) (n:Int):Option Tv:=if n<0 then none else l[n.toNat]?
def pickT (v:Tv) (st:StA) (k:Nat):Option Tv :=
 if st.word=true then (if v.d.kind=5 then (v.ws.take k).find? (fun c=>c.d.name == st.name) else none)
 else (if v.d.kind=4 then idx (v.ws.take k) (if st.n<0 then st.n+v.ws.length else st.n) else none)
def leadT:Tv→List StA→Option Tv
 | v,[]=>some v
 | v,st::l=>(pickT v st v.ws.length).bind (fun u=>leadT u l)
structure Kt where
 k:Nat
 n:Int
 t:List UInt8
def bLess:List UInt8→List UInt8→Bool
 | _,[]=>false
 | [],_::_=>true
 | a::x,b::y=>decide (a<b) || (a == b && bLess x y)
def sameT (c:Kt) (o:Option Tv):Bool:=o.any (fun v=>decide (v.d.kind<4) && v.d.kind == c.k && v.d.n == c.n && v.d.s == c.t)
def lessT (c:Kt) (o:Option Tv):Bool:=o.any (fun v=>v.d.kind == c.k && ((v.d.kind == 1 && decide (v.d.n<c.n)) || (v.d.kind == 2 && bLess v.d.s c.t)))
structure Sel where
 sort:Nat
 name:List UInt8
 n:Int
 frm:Int
 to:Int
 wh:Tv→Bool
def Sel.late (x:Sel):Bool:=x.sort == 5 || (x.sort == 3 && decide (x.n<0))
def takes1 (x:Sel) (pk L i:Nat) (w:Tv):Bool :=
 if x.sort=1 then true
 else if x.sort=2 then pk == 5 && w.d.name == x.name
 else if x.sort=3 then pk == 4 && (i:Int) == (if x.n<0 then x.n+L else x.n)
 else if x.sort=4 then pk == 4 && decide (x.frm≤i) && (decide (x.to<0) || decide ((i:Int)<x.to))
 else x.wh w
def takS (x:Sel) (v:Tv):List Tv:=(v.ws.zipIdx.filter (fun p=>takes1 x v.d.kind v.ws.length p.2 p.1)).map (·.1)
structure Sg where
 deep:Bool
 l:List Sel
def Sg.late (g:Sg):Bool:=g.l.any Sel.late
def allT:Nat→Tv→List Tv
 | 0,_=>[]
 | n+1,t=>t::t.ws.flatMap (allT n)
def dirS (l:List Sel) (v:Tv):List Tv:=l.flatMap (fun x=>takS x v)
def segS (g:Sg) (v:Tv):List Tv:=if g.deep=true then (allT 10 v).flatMap (dirS g.l) else dirS g.l v
def nodesS:List Sg→List Tv→List Tv
 | [],l=>l
 | g::r,l=>nodesS r (l.flatMap (segS g))
def cntS (xs:List Sel) (pk L i:Nat) (c:Tv):Nat:=(xs.map (fun x=>if takes1 x pk L i c=true then 1 else 0)).sum
def selN (xs:List Sg):Nat:=(xs.map (fun g=>g.l.length)).sum
def headS (l:List Sg):Nat:=l.findIdx Sg.late
end Tr
namespace Tr
def wTrue:List UInt8:=[116,114,117,101]
def wFalse:List UInt8:=[102,97,108,115,101]
def wNull:List UInt8:=[110,117,108,108]
def rEnd (ok:Nat→Bool) (s:List UInt8) (a:Nat):Nat:=run ok s (s.length+1) a
theorem rEnd_stop (ok:Nat→Bool) (s:List UInt8) (a:Nat) (h:ok 256=false):ok (bt s (rEnd ok s a))=false:=by
 rcases run_stop ok s (s.length+1) a with e | e
 ·unfold rEnd; rw [e,bt_end (by omega)]; exact h
 exact e
def cVal (s:List UInt8) (a b:Nat):Nat:=dvT s a (b - a)
structure PS (α:Type) where
 v:α
 p:Nat
def pSteps (s:List UInt8):Nat→Nat→List StA→PS (List StA)
 | 0,a,l=>⟨l,a⟩
 | n+1,a,l =>
  if bt s a=46 then pSteps s n (rEnd isLet s (a+1)) (l++[⟨true,sub s (a+1) (rEnd isLet s (a+1)),0⟩])
  else if bt s a=91 then
   (if bt s (a+1)=45 then pSteps s n (rEnd isDig s (a+2)+1) (l++[⟨false,[],-(cVal s (a+2) (rEnd isDig s (a+2)):Int)⟩])
   else pSteps s n (rEnd isDig s (a+1)+1) (l++[⟨false,[],(cVal s (a+1) (rEnd isDig s (a+1)):Int)⟩]))
  else ⟨l,a⟩
def pConst (s:List UInt8) (a:Nat):PS Kt :=
 if bt s a=116 then ⟨⟨3,0,wTrue⟩,a+4⟩
 else if bt s a=102 then ⟨⟨3,0,wFalse⟩,a+5⟩
 else if bt s a=110 then ⟨⟨3,0,wNull⟩,a+4⟩
 else if bt s a=39 then ⟨⟨2,0,sub s (a+1) (rEnd isQuo s (a+1))⟩,rEnd isQuo s (a+1)+1⟩
 else if bt s a=45 then ⟨⟨1,-(cVal s (a+1) (rEnd isDig s (a+1)):Int),[]⟩,rEnd isDig s (a+1)⟩
 else ⟨⟨1,(cVal s a (rEnd isDig s a):Int),[]⟩,rEnd isDig s a⟩
def pOp (s:List UInt8) (l:List StA) (a:Nat):PS (Tv→Bool) :=
 if bt s a=61 then ⟨fun t=>sameT (pConst s (a+2)).v (leadT t l),(pConst s (a+2)).p⟩
 else if bt s a=33 then ⟨fun t=>!(sameT (pConst s (a+2)).v (leadT t l)),(pConst s (a+2)).p⟩
 else if bt s a=60 then
  (if bt s (a+1)=61 then ⟨fun t=>sameT (pConst s (a+2)).v (leadT t l) || lessT (pConst s (a+2)).v (leadT t l),(pConst s (a+2)).p⟩
  else ⟨fun t=>lessT (pConst s (a+1)).v (leadT t l),(pConst s (a+1)).p⟩)
 else ⟨fun t=>(leadT t l).isSome,a⟩
def pTest (s:List UInt8) (a:Nat):PS (Tv→Bool):=pOp s (pSteps s (s.length+1) (a+1) []).v (pSteps s (s.length+1) (a+1) []).p
def pC (s:List UInt8):Nat→Nat→Nat→(Tv→Bool)→PS (Tv→Bool)
 | 0,_,a,φ=>⟨φ,a⟩
 | n+1,0,a,φ =>
  if bt s a=33 then ⟨fun t=>!((pC s n 0 (a+1) φ).v t),(pC s n 0 (a+1) φ).p⟩
  else if bt s a=40 then ⟨(pC s n 2 (a+1) φ).v,(pC s n 2 (a+1) φ).p+1⟩
  else pTest s a
 | n+1,1,a,φ=>pC s n 3 (pC s n 0 a φ).p (pC s n 0 a φ).v
 | n+1,2,a,φ=>pC s n 4 (pC s n 1 a φ).p (pC s n 1 a φ).v
 | n+1,3,a,φ=>if bt s a=38 then pC s n 3 (pC s n 0 (a+2) φ).p (fun t=>φ t && (pC s n 0 (a+2) φ).v t) else ⟨φ,a⟩
 | n+1,_+4,a,φ=>if bt s a=124 then pC s n 4 (pC s n 1 (a+2) φ).p (fun t=>φ t || (pC s n 1 (a+2) φ).v t) else ⟨φ,a⟩
def pSel (s:List UInt8) (a:Nat):PS Sel :=
 if bt s a=42 then ⟨⟨1,[],0,0,0,fun _=>false⟩,a+1⟩
 else if bt s a=39 then ⟨⟨2,sub s (a+1) (rEnd isQuo s (a+1)),0,0,0,fun _=>false⟩,rEnd isQuo s (a+1)+1⟩
 else if bt s a=45 then ⟨⟨3,[],-(cVal s (a+1) (rEnd isDig s (a+1)):Int),0,0,fun _=>false⟩,rEnd isDig s (a+1)⟩
 else if bt s a=63 then ⟨⟨5,[],0,0,0,(pC s (4 * s.length+9) 2 (a+1) (fun _=>false)).v⟩,(pC s (4 * s.length+9) 2 (a+1) (fun _=>false)).p⟩
 else if bt s (rEnd isDig s a)=58 then
  ⟨⟨4,[],0,(cVal s a (rEnd isDig s a):Int),(if rEnd isDig s (rEnd isDig s a+1)=rEnd isDig s a+1 then -1 else (cVal s (rEnd isDig s a+1) (rEnd isDig s (rEnd isDig s a+1)):Int)),fun _=>false⟩,rEnd isDig s (rEnd isDig s a+1)⟩
 else ⟨⟨3,[],(cVal s a (rEnd isDig s a):Int),0,0,fun _=>false⟩,rEnd isDig s a⟩
def pSels (s:List UInt8):Nat→Nat→List Sel→PS (List Sel)
 | 0,a,l=>⟨l,a⟩
 | n+1,a,l=>if bt s (pSel s a).p=44 then pSels s n ((pSel s a).p+1) (l++[(pSel s a).v]) else ⟨l++[(pSel s a).v],(pSel s a).p⟩
def pWord (s:List UInt8) (a:Nat):PS (List Sel) :=
 if bt s a=42 then ⟨[⟨1,[],0,0,0,fun _=>false⟩],a+1⟩ else ⟨[⟨2,sub s a (rEnd isLet s a),0,0,0,fun _=>false⟩],rEnd isLet s a⟩
def pBr (s:List UInt8) (a:Nat):PS (List Sel):=⟨(pSels s (s.length+1) (a+1) []).v,(pSels s (s.length+1) (a+1) []).p+1⟩
def pSeg (s:List UInt8) (a:Nat):PS Sg :=
 if bt s a=91 then ⟨⟨false,(pBr s a).v⟩,(pBr s a).p⟩
 else if bt s (a+1)=46 then (if bt s (a+2)=91 then ⟨⟨true,(pBr s (a+2)).v⟩,(pBr s (a+2)).p⟩ else ⟨⟨true,(pWord s (a+2)).v⟩,(pWord s (a+2)).p⟩)
 else ⟨⟨false,(pWord s (a+1)).v⟩,(pWord s (a+1)).p⟩
def pSegs (s:List UInt8):Nat→Nat→List Sg→List Sg
 | 0,_,l=>l
 | n+1,a,l=>if a<s.length then pSegs s n (pSeg s a).p (l++[(pSeg s a).v]) else l
def pQuery (s:List UInt8):List Sg:=pSegs s (s.length+1) 1 []
end Tr
