import Derived.Test.YtcbadebjpogmlaaGreatDoorVsRefA
import Derived.Test.YtcbadebjpogmlaaGreatDoorVsPlain7
import Derived.BigRegion
import Derived.Deep.Cut
import Derived.Deep.RegionLaw
import Derived.Deep.AppendLies
import Derived.Test.YtcbadebjpogmlaaGreatDoorVsTxA
import Derived.Test.YtcbadebjpogmlaaGreatDoorVsPrgF
set_option maxHeartbeats 2000000
set_option maxRecDepth 100000
namespace Go.Proofs.YtcbadebjpogmlaaGreatDoor
open Go.RowKit Tr
def mE (b:Nat) (w:World):Nat:=(intOf ((w.cell? ⟨b,2,none⟩).getD (.int .i64 0))).toNat
def kF (b z:Nat) (w:World):Nat:=if mE b w=0 then z+1 - mP b w else 0
theorem aZ.kF {w:World} {b:Nat} {s:ByteArray} {t:St} (h:aZ w b s t) (z:Nat):kF b z w=if t.e=0 then z+1 - t.p else 0:=by
 have e:mE b w=t.e:=by unfold mE; rw [h.c2]; simp [intOf]
 unfold Go.Proofs.YtcbadebjpogmlaaGreatDoor.kF; rw [e,h.mP]
def WT (b:Nat) (s:ByteArray) (q c:Nat) (o:List UInt8) (n:Nat) (w:World) (r:Ending) (w':World):Prop :=
 ∃g t',r=.returned (.pointer (some ⟨g,0,none⟩))/\Rd b s w t' w'/\Ok (bs s) q c 18 o n t'/\(t'.e=0->bt (bs s) t'.p≠38/\bt (bs s) t'.p≠124)
def SO (m:Nat):Prop:=∀(w:World) (b:Nat) (s:ByteArray) (t:St) (q c n:Nat) (o:List UInt8),aZ w b s t->s.size<=120->Ok (bs s) q c 10 o n t->o.length=n->n<=6->bD o=o->s.size - t.p<=m ->
 Calls Tryz.prog 119 #[.pointer (some ⟨b,0,none⟩)] w (WT b s q c o n w)
theorem Sd:nb ⟨#[38,38]⟩=[38,38]:=rfl
theorem WU:nb ⟨#[124,124]⟩=[124,124]:=rfl
theorem Jm:nb ⟨#[41]⟩=[41]:=rfl
theorem vj (s:List UInt8) (l:List Nat):∀t:St,t.p<=(aN s t l).p:=by
 induction l with
 | nil=>intro t; exact Nat.le_refl _
 | cons a r ih=>intro t; exact Nat.le_trans (yj s t a) (ih (aH s t a))
def abf (v:Value):Prop:=∃(k nn fr to:Int) (nm:ByteArray) (wh:Option Addr),v=.agg #[.int .i64 k,.string nm,.int .i64 nn,.int .i64 fr,.int .i64 to,.pointer wh]
theorem Jn:nb ⟨#[58]⟩=[58]:=rfl
theorem Rd.sj {b:Nat} {s:ByteArray} {w w':World} {t:St} (h:Rd b s w t w') (hb:b<w.heap.size) (g:Nat) (hg:w.heap.size<=g) (x0 x1 x2 x3 x4 x5:Value) :
 Rd b s w t ((((((w'.setCell ⟨g,0,none⟩ x0).setCell ⟨g,1,none⟩ x1).setCell ⟨g,2,none⟩ x2).setCell ⟨g,3,none⟩ x3).setCell ⟨g,4,none⟩ x4).setCell ⟨g,5,none⟩ x5) :=
 (((((h.cM hb g 0 hg x0).cM hb g 1 hg x1).cM hb g 2 hg x2).cM hb g 3 hg x3).cM hb g 4 hg x4).cM hb g 5 hg x5
theorem mX {R:Ending->World->Prop} {a:Act} {W:World} {g:Nat} {x0 x1 x2 x3 x4 x5:Value} (hd:a.defers=[]) (ha:a.tmps[2]?.getD undef=.pointer (some ⟨g,0,none⟩))
 (hB:ay W g #[x0,x1,x2,x3,x4,x5] 189) (hR:R (.returned (.agg #[x0,x1,x2,x3,x4,x5])) W):bodyPost Tryz.prog Tryz.f94 R .ret a W:=by
 have k0:=hB.cell 0
 have k1:=hB.cell 1
 have k2:=hB.cell 2
 have k3:=hB.cell 3
 have k4:=hB.cell 4
 have k5:=hB.cell 5
 simp at k0 k1 k2 k3 k4 k5
 refine bodyPost_ret (v:=.agg #[x0,x1,x2,x3,x4,x5]) ?_ hd hR
 simp [results,Tryz.results94,go_sem,ha,k0,k1,k2,k3,k4,k5]
theorem pV {R:Ending->World->Prop} {a:Act} {W:World} {g:Nat} {x0 x1 x2:Value} (hd:a.defers=[]) (ha:a.tmps[2]?.getD undef=.pointer (some ⟨g,0,none⟩))
 (hB:ay W g #[x0,x1,x2] 152) (hR:R (.returned (.agg #[x0,x1,x2])) W):bodyPost Tryz.prog Tryz.f65 R .ret a W:=by
 have k0:=hB.cell 0
 have k1:=hB.cell 1
 have k2:=hB.cell 2
 simp at k0 k1 k2
 refine bodyPost_ret (v:=.agg #[x0,x1,x2]) ?_ hd hR
 simp [results,Tryz.results65,go_sem,ha,k0,k1,k2]
theorem Rd.xW {b:Nat} {s:ByteArray} {w w':World} {t:St} (h:Rd b s w t w') (hb:b<w.heap.size) (g:Nat) (hg:w.heap.size<=g) (x0 x1 x2:Value) :
 Rd b s w t (((w'.setCell ⟨g,0,none⟩ x0).setCell ⟨g,1,none⟩ x1).setCell ⟨g,2,none⟩ x2) :=
 ((h.cM hb g 0 hg x0).cM hb g 1 hg x1).cM hb g 2 hg x2
theorem fS (a b:ByteArray):bs (a++b)=bs a++bs b:=by simp [bs]
theorem cP (s:ByteArray) (i j:Nat):bs (s.extract i j)=sub (bs s) i j:=by
 simp [bs,sub,List.extract_eq_take_drop]
theorem size_extract (s:ByteArray) (i j:Nat):(s.extract i j).size<=s.size:=by rw [ByteArray.size_extract]; omega
theorem Tryz.vk:(Tryz.prog.info? 189).map (λ i=>(i.zero,i.size,i.bytes))=some (some (.agg #[.int .i64 0,.string ⟨#[]⟩,.int .i64 0,.int .i64 0,.int .i64 0,.pointer none]),6,56):=by kernel_rfl
theorem MO:nb ⟨#[91]⟩=[91]:=rfl
theorem Cp:nb ⟨#[93]⟩=[93]:=rfl
theorem ay.grown {w w':World} {g:Nat} {cs:Array Value} {T:TypeId} {row:Option Nat} (h:ay w g cs T) (hg:w.grownBy w' row) (hr:∀k,row=some k->g<k):ay w' g cs T :=
 (hg.block g h.lt (λ e=>by have:=hr g e.symm; omega)).trans h
theorem Jo {s:List UInt8} {F p:Nat} (h:F+1<=p) (hb:bt s F=91):sub s F p=[91]++sub s (F+1) p:=by
 rw [lE (s:=s) (a:=F) (b:=F+1) (c:=p) (by omega) h,gZ (Nat.le_refl _) (by omega),sub_self,hb]
 rfl
theorem Se {s:List UInt8} {c F:Nat} {acc pre:List UInt8} {t':St} (hT:T s (F+1)=acc++pre++[91]) (hb:bt s F=91) (hF:F+1<=t'.p) (h:kJ s c (T s (F+1)++sub s (F+1) t'.p) t'):kJ s c (acc++(pre++sub s F t'.p)) t':=by
 rw [hT] at h
 rw [Jo hF hb]
 simpa using h
def Si (s:List UInt8) (t:St) (dot dp:Bool) (pre:List UInt8) (t':St):Prop :=
 aj s t 46=dot/\((dot=false/\dp=false/\pre=[]/\t'=t)\/(dot=true/\((dp=false/\pre=[]/\t'=aG t/\aj s (aG t) 46=false)\/(dp=true/\pre=[46,46]/\t'=aG (aG t)/\aj s (aG t) 46=true))))
theorem Si.all {s:List UInt8} {c:Nat} {acc pre:List UInt8} {t t':St} {dot dp:Bool} (h:lS s c acc t) (hp:t.p<s.length) (k:Si s t dot dp pre t'):t.p<=t'.p/\t'.p<=s.length/\2<=(M s t'.p).st /\
 ((dot && (!aj s t' 91 || !dp))=true->t.p<t'.p/\(aj s t' 42=true->kJ s (c+1) (acc++pre++[91,42,93]) (aG t'))/\(aj s t' 42=false->kJ s (c+1) (acc++pre++([91,39]++sub s t'.p (bC s t').p++[39,93])) (bC s t'))) /\
 ((dot && (!aj s t' 91 || !dp))=false->Ok s (t'.p+1) (c+1) 6 [] 0 (aN s t' [91])/\((aN s t' [91]).e=0->T s (t'.p+1)=acc++pre++[91]/\bt s t'.p=91)):=by
 obtain ⟨h1,⟨rfl,rfl,rfl,rfl⟩ | ⟨rfl,⟨rfl,rfl,rfl,h2⟩ | ⟨rfl,rfl,rfl,h2⟩⟩⟩:=k
 ·have b:=Im h hp h1
  exact ⟨Nat.le_refl _,Nat.le_of_lt hp,h.lv,λ e=>(by simp at e),λ_=>by simpa using b⟩
 ·have d:=uO h h1
  exact ⟨by simp [aG],d.le,by rw [d.mm]; simp [cS],λ_=>⟨by simp [aG],λ h4=>by simpa using mQ (Or.inl rfl) d h4,λ h4=>by simpa using mR (Or.inl ⟨rfl,h2⟩) d h4⟩,λ e=>(by simp at e)⟩
 have d:=BP (uO h h1) h2
 refine ⟨by simp [aG]; omega,d.le,by rw [d.mm]; simp [cS],λ e=>⟨by simp [aG]; omega,λ h4=>mQ (Or.inr rfl) d h4,λ h4=>mR (Or.inr ⟨rfl,by simpa using e⟩) d h4⟩,λ e=>?_⟩
 have h3:aj s (aG (aG t)) 91=true:=by simpa using e
 have b:=Il d h3
 exact ⟨b.1,λ_=>⟨b.2.1,(aE h3).2⟩⟩
def Fin (s:List UInt8):Prop:=(M s (s.length+1)).st=26
theorem BU {s:List UInt8} {c:Nat} {acc:List UInt8} {t:St} (h:lS s c acc t) (hp:t.p=s.length):Fin s/\C s (s.length+1)=c/\T s (s.length+1)=acc:=by
 have hb:bt s s.length=256:=iD (Nat.le_refl _)
 have hac:=h.ac
 have hct:=h.ct
 have hty:=h.ty
 rw [hp] at hac hct hty
 rw [hb] at hac
 have lU:nx (M s s.length) 256=⟨26,0,0,[],[]⟩:=by rw [hac]; rfl
 refine ⟨?_,?_,?_⟩
 ·show (M s (s.length+1)).st=26
  simp only [M]; rw [hb,lU]
 ·simp only [C]
  rw [hb,hct]
  have:inc (M s s.length) 256=0:=by unfold inc; rw [lU,if_neg (by simp),if_neg (by simp)]
  omega
 simp only [T]
 rw [hb]
 rcases hty with ⟨h1,h2⟩ | ⟨h1,h2,h3,h4⟩
 ·simp [out,h1,h2]
 rw [hb] at h3; simp [out,h1,h2,h3,h4]
theorem Le (s:List UInt8):∀i,C s i<=i
 | 0=>Nat.le_refl _
 | i+1=>by
  have:=Le s i
  simp only [C]
  have:inc (M s i) (bt s i)<=1:=by
   unfold inc; repeat' split
   all_goals omega
  omega
theorem xL (s:List UInt8):kJ s 0 [36] (aN s ⟨0,0,0⟩ [36]):=by
 show kJ s 0 [36] (aH s ⟨0,0,0⟩ 36)
 unfold aH
 rw [aK rfl]
 by_cases hb:bt s 0=36
 ·rw [if_pos (by simp [hb])]
  have hp:=cD (s:=s) (p:=0) (by omega)
  have hM:M s 1=cS 3 []:=by simp only [M]; rw [hb]; rfl
  refine Or.inl ⟨rfl,rfl,hp,?_,?_,?_,Or.inl ⟨?_,?_⟩⟩
  ·show 2<=(M s 1).st
   rw [hM]; simp [cS]
  ·show nx (M s 1) _=_
   rw [hM]
  ·show C s 1=0
   simp only [C]
   have:inc (M s 0) (bt s 0)=0:=by simp only [M]; rw [hb]; rfl
   omega
  ·show (M s 1).st=3
   rw [hM]; rfl
  show T s 1=[36]
  simp only [T,M]; rw [hb]; rfl
 rw [if_neg (by simp [hb]),dI rfl]
 refine Or.inr ⟨by simp,rfl,⟨by simp [M,g0],?_,Nat.zero_le _,by simp⟩⟩
 show (M s 1).st+2=2
 simp only [M]
 have e:g0=cS 2 []:=rfl
 rw [e]
 by_cases aC:bt s 0=256
 ·rw [aC]
  have:=gN (X:=2) (o:=[]) (by omega) (by omega) (by omega)
  omega
 rw [cu (by omega) (by omega) aC]
 simp [aD,cE,cS,hb,norm]
structure gW where
 d:Bool
 a:Option Addr
 k:Nat
 cp:Nat
 tx:ByteArray
def gW.cells (g:gW):List Value:=[.bool g.d,.slice g.a g.k g.cp,.string g.tx]
def cellsOf (l:List gW):List Value:=l.flatMap gW.cells
def iO (l:List gW):Nat:=(l.map gW.k).sum
def iF (l:List gW):List UInt8:=l.flatMap (λ g=>bs g.tx)
theorem vl (l:List gW) (g:gW):cellsOf (l++[g])=cellsOf l++g.cells:=by simp [cellsOf]
theorem tX (l:List gW) (g:gW):iO (l++[g])=iO l+g.k:=by simp [iO]
theorem yl (l:List gW) (g:gW):iF (l++[g])=iF l++bs g.tx:=by simp [iF]
theorem rQ:(∀(l:List Oper) (i:Nat) (h:i<l.length),l.toArray[i]'h=l[i])/\(∀(a:Oper) (l:List Oper) (h:0<(a::l).length),(a::l)[0]'h=a)/\(∀(a:Oper) (l:List Oper) (i:Nat) (h:i+1<(a::l).length),(a::l)[i+1]'h=l[i]'(Nat.lt_of_succ_lt_succ h))/\(∀(l:List Value) (i:Nat) (v:Value),l.toArray.setIfInBounds i v=(l.set i v).toArray)/\(∀(a v:Value) (l:List Value),(a::l).set 0 v=v::l)/\∀(a v:Value) (l:List Value) (i:Nat),(a::l).set (i+1) v=a::l.set i v:=⟨λ_ _ _=>List.getElem_toArray _,λ_ _ _=>rfl,λ_ _ _ _=>rfl,λ_ _ _=>List.setIfInBounds_toArray ..,λ_ _ _=>rfl,λ_ _ _ _=>rfl⟩
abbrev ak (w w':World):Prop:=Fr (λ_=>False) w w'
theorem Fr.new {K L:Nat->Prop} {a b c:World} (h:Fr K a b) (k:Fr L b c) (hL:∀i,i<a.heap.size->L i->K i):Fr K a c :=
 ⟨k.os.trans h.os,k.tape.trans h.tape,k.output.trans h.output,Nat.le_trans h.size k.size,λ i hi hK=>(k.block i (Nat.lt_of_lt_of_le hi h.size) (λ x=>hK (hL i hi x))).trans (h.block i hi hK)⟩
theorem Tryz.ym:(Tryz.prog.info? 152).map (λ i=>(i.zero,i.size,i.bytes))=some (some (.agg #[.bool false,.slice none 0 0,.string ⟨#[]⟩]),3,48):=by kernel_rfl
theorem aZ.grow {w w':World} {b:Nat} {s:ByteArray} {t:St} {row:Option Nat} (h:aZ w b s t) (hg:w.grownBy w' row) (hr:∀k,row=some k->b<k):aZ w' b s t :=
 (hg.block b h.lt (λ e=>by have:=hr b e.symm; omega)).trans h
theorem yo (l:List gW):∀(k i:Nat) (h:k<l.length),i<3->(cellsOf l)[k * 3+i]?=(l[k]).cells[i]?:=by
 induction l with
 | nil=>intro k i h; simp at h
 | cons a r ih =>
  intro k i h hi
  have e:cellsOf (a::r)=a.cells++cellsOf r:=rfl
  rw [e]
  have hl:a.cells.length=3:=rfl
  cases k with
  | zero=>rw [List.getElem?_append_left (by omega)]; simp
  | succ k =>
   rw [List.getElem?_append_right (by omega)]
   rw [show (k+1) * 3+i - a.cells.length=k * 3+i from by omega]
   exact ih k i (by simpa using h) hi
theorem DY (l:List gW) (k:Nat) (h:k<l.length):(cellsOf l)[k * 3+1]?=some (.slice (l[k]).a (l[k]).k (l[k]).cp):=(yo l k 1 h (by omega)).trans rfl
theorem DZ (l:List gW) (k:Nat) (h:k<l.length):iO (l.take (k+1))=iO (l.take k)+(l[k]).k:=by
 rw [List.take_succ_eq_append_getElem h,tX]
theorem Cq (l:List gW) (k:Nat):iO (l.take k)<=iO l:=by
 have e:iO l=iO (l.take k++l.drop k):=by rw [List.take_append_drop]
 have e2:iO (l.take k++l.drop k)=iO (l.take k)+iO (l.drop k):=by unfold iO; rw [List.map_append,List.sum_append]
 omega
theorem mc {w w':World} {row:Option Nat} (h:w.drew.grownBy w' row):w.grownBy w' row:=⟨h.os,h.tape,h.output,h.size,h.block⟩
theorem aZ.setOther {w:World} {b:Nat} {s:ByteArray} {t:St} (h:aZ w b s t) (g:Nat) (hg:b≠g) (i:Nat) (v:Value):aZ (w.setCell ⟨g,i,none⟩ v) b s t:=(Below.heap_setCell _ _ _ _ hg).trans h
theorem D7:nb ⟨#[36]⟩=[36]:=rfl
theorem mJ {w:World} {s:ByteArray} (hs:120<s.size) (hm:s.size<=maxLen) :
 Calls Tryz.prog 41 #[.string s] w λ r w'=>r=.returned (.tuple #[.pointer none,.int .i64 1,.int .i64 0])/\w'=w:=by
 unfold maxLen at hm
 have hd:(120:Int)<(s.size:Int):=by omega
 go_enter Tryz.func41,Tryz.ntmps41
 go_wp2
 go_ret3
 exact ⟨rfl,rfl⟩
end Go.Proofs.YtcbadebjpogmlaaGreatDoor
namespace Tr
structure eO where
 word:Bool
 name:List UInt8
 n:Int
def idx (l:List Tv) (n:Int):Option Tv:=if n<0 then none else l[n.toNat]?
def bE (v:Tv) (st:eO) (k:Nat):Option Tv :=
 if st.word=true then (if v.d.kind=5 then (v.ws.take k).find? (λ c=>c.d.name == st.name) else none)
 else (if v.d.kind=4 then idx (v.ws.take k) (if st.n<0 then st.n+v.ws.length else st.n) else none)
def aS:Tv->List eO->Option Tv
 | v,[]=>some v
 | v,st::l=>(bE v st v.ws.length).bind (λ u=>aS u l)
structure Kt where
 k:Nat
 n:Int
 t:List UInt8
def gG:List UInt8->List UInt8->Bool
 | _,[]=>false
 | [],_::_=>true
 | a::x,b::y=>decide (a<b) || (a == b && gG x y)
def dP (c:Kt) (o:Option Tv):Bool:=o.any (λ v=>decide (v.d.kind<4) && v.d.kind == c.k && v.d.n == c.n && v.d.s == c.t)
def fy (c:Kt) (o:Option Tv):Bool:=o.any (λ v=>v.d.kind == c.k && ((v.d.kind == 1 && decide (v.d.n<c.n)) || (v.d.kind == 2 && gG v.d.s c.t)))
structure b_ where
 sort:Nat
 name:List UInt8
 n:Int
 ai:Int
 to:Int
 wh:Tv->Bool
def b_.late (x:b_):Bool:=x.sort == 5 || (x.sort == 3 && decide (x.n<0))
def bG (x:b_) (pk L i:Nat) (w:Tv):Bool :=
 if x.sort=1 then true
 else if x.sort=2 then pk == 5 && w.d.name == x.name
 else if x.sort=3 then pk == 4 && (i:Int) == (if x.n<0 then x.n+L else x.n)
 else if x.sort=4 then pk == 4 && decide (x.ai<=i) && (decide (x.to<0) || decide ((i:Int)<x.to))
 else x.wh w
def cC (x:b_) (v:Tv):List Tv:=(v.ws.zipIdx.filter (λ p=>bG x v.d.kind v.ws.length p.2 p.1)).map (·.1)
structure Sg where
 deep:Bool
 l:List b_
def Sg.late (g:Sg):Bool:=g.l.any b_.late
def au:Nat->Tv->List Tv
 | 0,_=>[]
 | n+1,t=>t::t.ws.flatMap (au n)
def fC (l:List b_) (v:Tv):List Tv:=l.flatMap (λ x=>cC x v)
def dr (g:Sg) (v:Tv):List Tv:=if g.deep=true then (au 10 v).flatMap (fC g.l) else fC g.l v
def aI:List Sg->List Tv->List Tv
 | [],l=>l
 | g::r,l=>aI r (l.flatMap (dr g))
def gI (xs:List b_) (pk L i:Nat) (c:Tv):Nat:=(xs.map (λ x=>if bG x pk L i c=true then 1 else 0)).sum
def fJ (xs:List Sg):Nat:=(xs.map (λ g=>g.l.length)).sum
def oB (l:List Sg):Nat:=l.findIdx Sg.late
def lN:List UInt8:=[116,114,117,101]
def jq:List UInt8:=[102,97,108,115,101]
def qd:List UInt8:=[110,117,108,108]
def bT (ok:Nat->Bool) (s:List UInt8) (a:Nat):Nat:=run ok s (s.length+1) a
theorem nQ (ok:Nat->Bool) (s:List UInt8) (a:Nat) (h:ok 256=false):ok (bt s (bT ok s a))=false:=by
 rcases gr ok s (s.length+1) a with e | e
 ·unfold bT; rw [e,iD (by omega)]; exact h
 exact e
def bY (s:List UInt8) (a b:Nat):Nat:=iT s a (b - a)
structure PS (α:Type) where
 v:α
 p:Nat
def bA (s:List UInt8):Nat->Nat->List eO->PS (List eO)
 | 0,a,l=>⟨l,a⟩
 | n+1,a,l =>
  if bt s a=46 then bA s n (bT isLet s (a+1)) (l++[⟨true,sub s (a+1) (bT isLet s (a+1)),0⟩])
  else if bt s a=91 then
   (if bt s (a+1)=45 then bA s n (bT af s (a+2)+1) (l++[⟨false,[],-(bY s (a+2) (bT af s (a+2)):Int)⟩])
   else bA s n (bT af s (a+1)+1) (l++[⟨false,[],(bY s (a+1) (bT af s (a+1)):Int)⟩]))
  else ⟨l,a⟩
def a_ (s:List UInt8) (a:Nat):PS Kt :=
 if bt s a=116 then ⟨⟨3,0,lN⟩,a+4⟩
 else if bt s a=102 then ⟨⟨3,0,jq⟩,a+5⟩
 else if bt s a=110 then ⟨⟨3,0,qd⟩,a+4⟩
 else if bt s a=39 then ⟨⟨2,0,sub s (a+1) (bT aO s (a+1))⟩,bT aO s (a+1)+1⟩
 else if bt s a=45 then ⟨⟨1,-(bY s (a+1) (bT af s (a+1)):Int),[]⟩,bT af s (a+1)⟩
 else ⟨⟨1,(bY s a (bT af s a):Int),[]⟩,bT af s a⟩
def xm (s:List UInt8) (l:List eO) (a:Nat):PS (Tv->Bool) :=
 if bt s a=61 then ⟨λ t=>dP (a_ s (a+2)).v (aS t l),(a_ s (a+2)).p⟩
 else if bt s a=33 then ⟨λ t=>!(dP (a_ s (a+2)).v (aS t l)),(a_ s (a+2)).p⟩
 else if bt s a=60 then
  (if bt s (a+1)=61 then ⟨λ t=>dP (a_ s (a+2)).v (aS t l) || fy (a_ s (a+2)).v (aS t l),(a_ s (a+2)).p⟩
  else ⟨λ t=>fy (a_ s (a+1)).v (aS t l),(a_ s (a+1)).p⟩)
 else ⟨λ t=>(aS t l).isSome,a⟩
def oI (s:List UInt8) (a:Nat):PS (Tv->Bool):=xm s (bA s (s.length+1) (a+1) []).v (bA s (s.length+1) (a+1) []).p
def pC (s:List UInt8):Nat->Nat->Nat->(Tv->Bool)->PS (Tv->Bool)
 | 0,_,a,φ=>⟨φ,a⟩
 | n+1,0,a,φ =>
  if bt s a=33 then ⟨λ t=>!((pC s n 0 (a+1) φ).v t),(pC s n 0 (a+1) φ).p⟩
  else if bt s a=40 then ⟨(pC s n 2 (a+1) φ).v,(pC s n 2 (a+1) φ).p+1⟩
  else oI s a
 | n+1,1,a,φ=>pC s n 3 (pC s n 0 a φ).p (pC s n 0 a φ).v
 | n+1,2,a,φ=>pC s n 4 (pC s n 1 a φ).p (pC s n 1 a φ).v
 | n+1,3,a,φ=>if bt s a=38 then pC s n 3 (pC s n 0 (a+2) φ).p (λ t=>φ t && (pC s n 0 (a+2) φ).v t) else ⟨φ,a⟩
 | n+1,_+4,a,φ=>if bt s a=124 then pC s n 4 (pC s n 1 (a+2) φ).p (λ t=>φ t || (pC s n 1 (a+2) φ).v t) else ⟨φ,a⟩
def bU (s:List UInt8) (a:Nat):PS b_ :=
 if bt s a=42 then ⟨⟨1,[],0,0,0,λ_=>false⟩,a+1⟩
 else if bt s a=39 then ⟨⟨2,sub s (a+1) (bT aO s (a+1)),0,0,0,λ_=>false⟩,bT aO s (a+1)+1⟩
 else if bt s a=45 then ⟨⟨3,[],-(bY s (a+1) (bT af s (a+1)):Int),0,0,λ_=>false⟩,bT af s (a+1)⟩
 else if bt s a=63 then ⟨⟨5,[],0,0,0,(pC s (4 * s.length+9) 2 (a+1) (λ_=>false)).v⟩,(pC s (4 * s.length+9) 2 (a+1) (λ_=>false)).p⟩
 else if bt s (bT af s a)=58 then
  ⟨⟨4,[],0,(bY s a (bT af s a):Int),(if bT af s (bT af s a+1)=bT af s a+1 then -1 else (bY s (bT af s a+1) (bT af s (bT af s a+1)):Int)),λ_=>false⟩,bT af s (bT af s a+1)⟩
 else ⟨⟨3,[],(bY s a (bT af s a):Int),0,0,λ_=>false⟩,bT af s a⟩
def dY (s:List UInt8):Nat->Nat->List b_->PS (List b_)
 | 0,a,l=>⟨l,a⟩
 | n+1,a,l=>if bt s (bU s a).p=44 then dY s n ((bU s a).p+1) (l++[(bU s a).v]) else ⟨l++[(bU s a).v],(bU s a).p⟩
def fE (s:List UInt8) (a:Nat):PS (List b_) :=
 if bt s a=42 then ⟨[⟨1,[],0,0,0,λ_=>false⟩],a+1⟩ else ⟨[⟨2,sub s a (bT isLet s a),0,0,0,λ_=>false⟩],bT isLet s a⟩
def yS (s:List UInt8) (a:Nat):PS (List b_):=⟨(dY s (s.length+1) (a+1) []).v,(dY s (s.length+1) (a+1) []).p+1⟩
def fD (s:List UInt8) (a:Nat):PS Sg :=
 if bt s a=91 then ⟨⟨false,(yS s a).v⟩,(yS s a).p⟩
 else if bt s (a+1)=46 then (if bt s (a+2)=91 then ⟨⟨true,(yS s (a+2)).v⟩,(yS s (a+2)).p⟩ else ⟨⟨true,(fE s (a+2)).v⟩,(fE s (a+2)).p⟩)
 else ⟨⟨false,(fE s (a+1)).v⟩,(fE s (a+1)).p⟩
def i_ (s:List UInt8):Nat->Nat->List Sg->List Sg
 | 0,_,l=>l
 | n+1,a,l=>if a<s.length then i_ s n (fD s a).p (l++[(fD s a).v]) else l
def cK (s:List UInt8):List Sg:=i_ s (s.length+1) 1 []
theorem MC (s:List UInt8) (m a:Nat) (φ:Tv->Bool):pC s 0 m a φ=⟨φ,a⟩:=by simp [pC]
end Tr
namespace Go.Proofs.YtcbadebjpogmlaaGreatDoor
open Go.RowKit Tr
theorem Sj {w:World} {b:Nat} {g:G} (h:bB w b g.st g) (ok:iX g) (c:Nat) (hc:c<256) :
 Calls Tryz.prog 82 #[.pointer (some ⟨b,0,none⟩),.int .u8 (c:Int)] w (Ah b w (cR g c)):=by
 have c0:=h.c0
 have HH:=aa h
 have HK:=aa ok
 clear h
 by_cases hst:21<=g.st/\g.st<=25
 ·have e:cR g c=aQ g c:=by unfold cR; rw [if_pos hst]
  rw [e]
  have HS:=aa hst
  have hc5:g.st=21\/g.st=22\/g.st=23\/g.st=24\/g.st=25:=by omega
  clear e hst ok
  rcases hc5 with h5 | h5 | h5 | h5 | h5
  all_goals
   rw [h5] at c0
   clear h5
   go_enter Tryz.func82,Tryz.ntmps82
   go_wp2_with fail
   refine (IY HH.out HK.out c hc HS.out).mono ?_
   rintro r w1 ⟨x,rfl,hr⟩
   have HR:=aa hr
   clear hr
   generalize aQ g c=g2 at *
   go_wp2
   go_ret
   exact ⟨x,rfl,HR.out⟩
 have e:cR g c=aD g c:=by unfold cR; rw [if_neg hst]
 rw [e]
 have hop:=ok.op
 have d1:((g.st:Int) == 21)=false:=cU
 have d2:((g.st:Int) == 22)=false:=cU
 have d3:((g.st:Int) == 23)=false:=cU
 have d4:((g.st:Int) == 24)=false:=cU
 have d5:((g.st:Int) == 25)=false:=cU
 clear e hst ok
 go_enter Tryz.func82,Tryz.ntmps82
 go_wp2_with fail
 refine (tT HH.out hop c hc).mono ?_
 rintro r w1 ⟨rfl,hr⟩
 have HR:=aa hr
 clear hr
 generalize aD g c=g2 at *
 go_wp2
 go_ret
 exact ⟨_,rfl,HR.out⟩
theorem yp {w:World} {b:Nat} {g:G} (h:bB w b g.st g) :
 Calls Tryz.prog 83 #[.pointer (some ⟨b,0,none⟩)] w λ r w'=>r=.returned (.bool (cY g))/\∃n,w'=w.drewN n:=by
 have c0:=h.c0
 have c1:=h.c1
 clear h
 by_cases h3:g.st=3
 ·have e:cY g=true:=by simp [cY,h3]
  rw [e]
  have d1:((g.st:Int) == 3)=true:=zg
  clear e h3
  go_enter Tryz.func83,Tryz.ntmps83
  go_wp2
  go_ret
  exact ⟨rfl,0,rfl⟩
 have d1:((g.st:Int) == 3)=false:=cU
 by_cases Cf:g.st=21
 ·have e:cY g=((g.bh:Int) == 3):=by
   rw [Bool.eq_iff_iff]; simp [cY,Cf]; omega
  rw [e]
  have d2:((g.st:Int) == 21)=true:=zg
  clear e h3 Cf
  go_enter Tryz.func83,Tryz.ntmps83
  go_wp2
  go_ret
  exact ⟨rfl,0,rfl⟩
 have e:cY g=false:=by simp [cY,h3,Cf]
 rw [e]
 have d2:((g.st:Int) == 21)=false:=cU
 clear e h3 Cf
 go_enter Tryz.func83,Tryz.ntmps83
 go_wp2
 go_ret
 exact ⟨rfl,0,rfl⟩
theorem iX.st {g:G} (h:iX g) (k:Nat) (hk:k≠24):iX { g with st:=k }:=⟨h.bh,h.op,h.sz,λ e=>absurd e hk,h.rl⟩
theorem yq {g:G} (h:iX g) (b k:Nat) (hk:k<=20):iX (g_ g b k):=by
 unfold g_; split
 ·exact ⟨hk,h.op,by simp,λ e=>by simp at e,h.rl⟩
 exact h.st 0 (by omega)
theorem tY {g:G} (h:iX g) (k:Nat) (hk:k<=20):iX (j_ g k):=⟨hk,h.op,by simp [j_],λ e=>by simp [j_] at e,h.rl⟩
theorem tZ {g:G} (h:iX g) (k:Nat) (hk:k<=20):iX (ke g k):=⟨hk,h.op,h.sz,λ e=>by simp [ke] at e,h.rl⟩
theorem t_ {g:G} (h:iX g) (l:List UInt8) (hl:l.length<=4) (k:Nat) (hk:k<=20):iX (eH g l k):=by
 unfold eH; split
 ·exact h.st k (by omega)
 rename_i hne; exact ⟨hk,h.op,h.sz,λ_=>hne,hl⟩
theorem lH {g:G} (h:iX g) (b k:Nat) (hk:k<=20):iX (bW g b k):=by
 unfold bW; split
 ·exact h.st k (by omega)
 split
 ·exact ⟨hk,h.op,by simp,λ e=>by simp at e,h.rl⟩
 exact h.st 0 (by omega)
theorem rj {g:G} (h:iX g) (b k:Nat) (hk:k<=20):iX (dA g b k):=by
 unfold dA; split
 ·exact tZ h k hk
 exact lH h b k hk
theorem D8 {g:G} (h:iX g) (b:Nat):iX (fB g b):=by
 unfold fB; repeat' split
 all_goals first | exact h.st _ (by omega) | exact tY h _ (by omega) | exact t_ h _ (by simp) _ (by omega) | exact rj h _ _ (by omega)
theorem Av {g:G} (h:iX g) (b:Nat):iX (cT g b):=by
 unfold cT; repeat' split
 all_goals first | exact h.st _ (by omega) | exact yq h _ _ (by omega) | exact rj h _ _ (by omega)
theorem rq {g:G} (h:iX g) (b:Nat):iX (bF g b):=by
 unfold bF; repeat' split
 all_goals first | exact h.st _ (by omega) | exact lH h _ _ (by omega)
theorem D_ (l:List UInt8):(ij l).length<=l.length:=by
 unfold ij; split
 ·simp
 exact Nat.le_refl _
theorem oU {g:G} (h:iX g) (hs:g.st≠24) (b:Nat):iX (aU g b):=by
 have h1:iX { g with op:=bD g.op }:=⟨h.bh,Nat.le_trans (tO _) h.op,h.sz,λ e=>absurd e hs,h.rl⟩
 unfold aU; simp only; repeat' split
 ·exact h1.st _ (by omega)
 ·exact h1.st _ (by omega)
 ·exact ⟨h.bh,Nat.le_trans (D_ _) h1.op,h.sz,λ e=>by simp at e,h.rl⟩
 ·exact rq h1 b
 exact h1.st _ (by omega)
theorem yt {g:G} (h:iX g) (hs:g.st≠24) (b:Nat):iX (eC g b):=by
 unfold eC; repeat' split
 all_goals first | exact h.st _ (by omega) | exact oU h hs b
theorem Jp {g:G} (h:iX g) (b:Nat):iX (fT g b):=by
 unfold fT; repeat' split
 ·exact h.st _ (by omega)
 ·exact h.st _ (by omega)
 ·exact h.st _ (by omega)
 refine ⟨h.bh,?_,h.sz,λ e=>by simp at e,h.rl⟩
 have:=h.op
 simp only [List.length_append,List.length_cons,List.length_nil]
 omega
theorem vm {g:G} (h:iX g) (b:Nat):iX (cO g b):=by
 unfold cO; repeat' split
 all_goals first | exact h.st _ (by omega) | exact tY h _ (by omega) | exact tZ h _ (by omega) | exact lH h _ _ (by omega)
theorem yu {g:G} (h:iX g) (b:Nat):iX (cE g b):=by
 unfold cE ku; repeat' split
 all_goals first | exact h.st _ (by omega) | exact yq h _ _ (by omega)
theorem oV {g:G} (h:iX g) (hs:g.st≠24) (b:Nat):iX (aD g b):=by
 unfold aD; repeat' split
 ·exact yu h b
 ·exact vm h b
 ·exact rq h b
 ·exact Jp h b
 ·exact oU h hs b
 ·exact yt h hs b
 ·exact D8 h b
 exact Av h b
theorem Jq {g:G} (h:iX g) (b:Nat):iX (cR g b):=by
 unfold cR; split
 ·unfold aQ
  split
  ·rename_i hg
   refine ⟨h.bh,h.op,?_,?_,h.rl⟩
   ·unfold bR at hg
    repeat' split at hg
    all_goals first | (simp at hg; have:=hg.2; simp only; omega) | (simp at hg)
   intro e
   exact h.rs e
  split
  ·exact h.st _ (by have:=h.bh; omega)
  split
  ·refine t_ h _ ?_ _ h.bh
   have:=h.rl
   simp only [List.length_tail]; omega
  split
  ·exact lH h _ _ h.bh
  split
  ·have h1:iX { g with st:=g.bh }:=h.st _ (by have:=h.bh; omega)
   exact oV h1 (by have:=h.bh; simp only; omega) b
  exact h.st _ (by omega)
 rename_i hs
 exact oV h (by omega) b
def Gi (s:List UInt8):Nat->G
 | 0=>⟨2,0,0,[],[]⟩
 | i+1=>cR (Gi s i) (bt s i)
theorem Jr (s:List UInt8):∀i,iX (Gi s i)
 | 0=>⟨by simp [Gi],by simp [Gi],by simp [Gi],λ e=>by simp [Gi] at e,by simp [Gi]⟩
 | i+1=>Jq (Jr s i) _
theorem Sl (s:List UInt8):∀i,i<=s.length->(∀j,j<=i->2<=(M s j).st\/j=i)->norm (Gi s i)=M s i
 | 0,_,_=>rfl
 | i+1,hi,h=>by
  have ih:=Sl s i (by omega) (λ j hj=>by
   rcases h j (by omega) with x | x
   ·exact Or.inl x
   exact Or.inl (by omega))
  have h2:2<=(M s i).st:=by
   rcases h i (by omega) with x | x
   ·exact x
   omega
  have hb:bt s i≠256:=by have:=tF (s:=s) (p:=i) (by omega); omega
  show norm (cR (Gi s i) (bt s i))=nx (M s i) (bt s i)
  rw [Dx _ _ (Jr s i).bh,ih]
  unfold nx
  rw [if_neg (by omega),if_neg hb]
def So (s:ByteArray) (w:World) (r:Ending) (w':World):Prop :=
 ak w w'/\((∃e p,EX (bs s) e p/\r=.returned (.tuple #[.int .i64 (e:Nat),.int .i64 (p:Nat)]))\/(Fin (bs s)/\r=.returned (.tuple #[.int .i64 0,.int .i64 0])))
theorem Lb {w:World} {s:ByteArray} (hs:s.size<=120) :
 Calls Tryz.prog 61 #[.string s] w (So s w):=by
 have M0:Hid (bB (w.alloc (.cells #[.int .i64 2,.int .i64 0,.int .i64 0,.string ⟨#[]⟩,.string ⟨#[]⟩] 176)) w.heap.size (Gi (bs s) 0).st (Gi (bs s) 0)):=heap_alloc_new w _
 have F0:=aa ((Fr.refl (λ_=>False) w).alloc (.cells #[.int .i64 2,.int .i64 0,.int .i64 0,.string ⟨#[]⟩,.string ⟨#[]⟩] 176))
 go_enter Tryz.func61,Tryz.ntmps61
 go_wp2
 go_loopw [5,9] (λ_ i wr=>∃k:Nat,k<=s.size/\i=.int .i64 k/\bB wr w.heap.size (Gi (bs s) k).st (Gi (bs s) k)/\ak w wr/\(∀j,j<=k->2<=(M (bs s) j).st)) (λ_ i _=>s.size - (intOf i).toNat)
 case atStart =>
  refine ⟨0,Nat.zero_le _,rfl,M0.out,F0.out,λ j hj=>?_⟩
  have hj0:j=0:=by omega
  subst hj0
  simp [M,g0]
 case round =>
  obtain ⟨k,hk,rfl,hM,hF,hlv⟩:=hrel
  have MM:=aa hM
  have FF:=aa hF
  have LV:=aa hlv
  clear hM hF hlv M0 F0
  by_cases hlt:k<s.size
  ·have oo:=dR hlt
   have hEQ:norm (cR (Gi (bs s) k) (bt (bs s) k))=M (bs s) (k+1):=Sl (bs s) (k+1) (by rw [an]; omega) (λ j hj=>by
    by_cases e:j=k+1
    ·exact Or.inr e
    exact Or.inl (LV.out j (by omega)))
   have wR:Hid ((cR (Gi (bs s) k) (bt (bs s) k)).st=(M (bs s) (k+1)).st):=by unfold Hid; rw [<-hEQ]; rfl
   have Js:=aa oo
   clear hEQ oo
   go_wp2_with fail
   refine (Sj MM.out (Jr (bs s) k) s[k].toNat (UInt8.toNat_lt _)).mono ?_
   rintro r w1 ⟨x,rfl,hr⟩
   rw [<-Js.out]
   rw [<-Js.out] at hr
   have HR:=aa hr
   have z0:=hr.m.fz 0
   have q0:=hr.m.c0
   have M1:Hid (bB (w1.setCell ⟨w.heap.size,0,none⟩ (.int .i64 (cR (Gi (bs s) k) (bt (bs s) k)).st)) w.heap.size (Gi (bs s) (k+1)).st (Gi (bs s) (k+1))):=hr.m.IQ _
   have F1:=aa ((FF.out.new hr.f (λ i hi e=>by unfold PB at e; omega)).setCell ⟨w.heap.size,0,none⟩ (Or.inr (Nat.le_refl _)) (.int .i64 (cR (Gi (bs s) k) (bt (bs s) k)).st))
   have hsz:=hr.m.lt
   clear hr
   by_cases h0:(M (bs s) (k+1)).st=0
   ·have HE:Hid (EX (bs s) 2 k):=⟨LV.out k (Nat.le_refl _),by rw [h0],by rw [an]; omega,by omega⟩
    rw [wR.out,h0]
    rw [wR.out,h0] at F1
    clear h0
    go_wp2
    go_ret2
    exact ⟨F1.out,Or.inl ⟨2,k,HE.out,rfl⟩⟩
   by_cases h1:(M (bs s) (k+1)).st=1
   ·have HE:Hid (EX (bs s) 3 k):=⟨LV.out k (Nat.le_refl _),by rw [h1],by rw [an]; omega,by omega⟩
    rw [wR.out,h1]
    rw [wR.out,h1] at F1
    clear h0 h1
    go_wp2
    go_ret2
    exact ⟨F1.out,Or.inl ⟨3,k,HE.out,rfl⟩⟩
   have d0:(((cR (Gi (bs s) k) (bt (bs s) k)).st:Int) == 0)=false:=by rw [beq_eq_false_iff_ne,wR.out]; omega
   have d1:(((cR (Gi (bs s) k) (bt (bs s) k)).st:Int) == 1)=false:=by rw [beq_eq_false_iff_ne,wR.out]; omega
   have HL:Hid (∀j,j<=k+1->2<=(M (bs s) j).st):=λ j hj=>by
    by_cases e:j=k+1
    ·subst e; omega
    exact LV.out j (by omega)
   have HG:Hid (Gi (bs s) (k+1)=cR (Gi (bs s) k) (bt (bs s) k)):=rfl
   generalize (cR (Gi (bs s) k) (bt (bs s) k)).st=gst at *
   clear h0 h1
   go_wp2
   go_roundw
   case rel=>exact ⟨k+1,by omega,by go_num,M1.out,F1.out,HL.out⟩
   case measure=>simp [intOf]; omega
  have hks:k=s.size:=by omega
  subst hks
  have hN:norm (Gi (bs s) s.size)=M (bs s) s.size:=Sl (bs s) s.size (by rw [an]; exact Nat.le_refl _) (λ j hj=>Or.inl (LV.out j hj))
  have hme:cY (Gi (bs s) s.size)=cY (M (bs s) s.size):=by
   rw [<-hN]; unfold cY norm
   by_cases Cf:(Gi (bs s) s.size).st=21
   ·simp [Cf]
   have hb:((Gi (bs s) s.size).st == 21)=false:=beq_eq_false_iff_ne.2 Cf
   simp only [hb,Bool.false_and]
  have lU:M (bs s) (s.size+1)=if cY (M (bs s) s.size)=true then ⟨26,0,0,[],[]⟩ else ⟨0,0,0,[],[]⟩:=by
   show nx (M (bs s) s.size) (bt (bs s) s.size)=_
   rw [iD (by rw [an]; exact Nat.le_refl _)]
   have:=LV.out s.size (Nat.le_refl _)
   exact iM _ (by omega)
  have sr:=aa hme
  have HNX:=aa lU
  clear hN hme lU
  cases hm:cY (M (bs s) s.size)
  ·have HM:=aa hm
   clear hm
   go_wp2_with fail
   refine (yp MM.out).mono ?_
   rintro r w1 ⟨rfl,nn,rfl⟩
   rw [sr.out,HM.out]
   go_wp2
   go_ret2
   refine ⟨FF.out.drewN nn,Or.inl ⟨2,s.size,⟨LV.out _ (Nat.le_refl _),?_,by rw [an]; exact Nat.le_refl _,by omega⟩,rfl⟩⟩
   rw [HNX.out,HM.out]
   rfl
  have HM:=aa hm
  clear hm
  go_wp2_with fail
  refine (yp MM.out).mono ?_
  rintro r w1 ⟨rfl,nn,rfl⟩
  rw [sr.out,HM.out]
  go_wp2
  go_ret2
  refine ⟨FF.out.drewN nn,Or.inr ⟨?_,rfl⟩⟩
  unfold Fin
  rw [an,HNX.out,HM.out]
  rfl
end Go.Proofs.YtcbadebjpogmlaaGreatDoor
