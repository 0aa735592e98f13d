namespace Tr
def bt (s:List UInt8) (i:Nat):Nat:=match s[i]? with | some c=>c.toNat | none=>256
def isLet (b:Nat):Bool:=decide (97<=b) && decide (b<=122)
def af (b:Nat):Bool:=decide (48<=b) && decide (b<=57)
def aO (b:Nat):Bool:=isLet b || af b || b == 32
structure G where
 st:Nat
 bh:Nat
 sz:Nat
 rs:List UInt8
 op:List UInt8
def bD (l:List UInt8):List UInt8:=(l.reverse.dropWhile (· == 33)).reverse
def ij (l:List UInt8):List UInt8:=if l.getLast?=some 40 then l.dropLast else l
def g_ (g:G) (b k:Nat):G:=if isLet b then { g with st:=21,bh:=k,sz:=1 } else { g with st:=0 }
def j_ (g:G) (k:Nat):G:={ g with st:=23,bh:=k,sz:=0 }
def eH (g:G) (l:List UInt8) (k:Nat):G:=if l=[] then { g with st:=k } else { g with st:=24,bh:=k,rs:=l }
def ke (g:G) (k:Nat):G:={ g with st:=25,bh:=k }
def bW (g:G) (b k:Nat):G:=if b=48 then { g with st:=k } else if af b then { g with st:=22,bh:=k,sz:=1 } else { g with st:=0 }
def dA (g:G) (b k:Nat):G:=if b=45 then ke g k else bW g b k
def fB (g:G) (b:Nat):G :=
 if b=61/\g.st≠17 then { g with st:=17 } else if g.st=15 then { g with st:=0 }
 else if b=39 then j_ g 18 else if b=116 then eH g [114,117,101] 18 else if b=102 then eH g [97,108,115,101] 18
 else if b=110 then eH g [117,108,108] 18 else dA g b 18
def cT (g:G) (b:Nat):G :=
 if g.st=12 then g_ g b 11 else if g.st=13 then dA g b 14 else if g.st=14/\b=93 then { g with st:=11 }
 else if (g.st=19/\b=38)\/(g.st=20/\b=124) then { g with st:=10 } else { g with st:=0 }
def bF (g:G) (b:Nat):G :=
 if b=44 then { g with st:=6 } else if b=93 then { g with st:=3 } else if b=58/\g.st=7 then { g with st:=8 }
 else if g.st=8 then bW g b 9 else { g with st:=0 }
def aU (g0:G) (b:Nat):G :=
 let g:G:={ g0 with op:=bD g0.op }
 if b=38 then { g with st:=19 } else if b=124 then { g with st:=20 }
 else if b=41/\g.op≠[] then { g with st:=18,op:=ij g.op }
 else if g.op=[] then bF g b else { g with st:=0 }
def eC (g:G) (b:Nat):G :=
 if b=46 then { g with st:=12 } else if b=91 then { g with st:=13 } else if b=61\/b=33 then { g with st:=15 }
 else if b=60 then { g with st:=16 } else aU g b
def fT (g:G) (b:Nat):G :=
 if b=64 then { g with st:=11 } else if b≠33/\b≠40 then { g with st:=0 } else if g.op.length=6 then { g with st:=1 }
 else { g with st:=10,op:=g.op++[UInt8.ofNat b] }
def cO (g:G) (b:Nat):G :=
 if b=42 then { g with st:=9 } else if b=39 then j_ g 9 else if b=45 then ke g 9 else if b=58 then { g with st:=8 }
 else if b=63 then { g with st:=10 } else bW g b 7
def ku (g:G) (b:Nat):G:=if b=42 then { g with st:=3 } else g_ g b 3
def cE (g:G) (b:Nat):G :=
 if g.st=2/\b=36 then { g with st:=3 } else if g.st=3/\b=46 then { g with st:=4 }
 else if (g.st=3/\b=91)\/(g.st=5/\b=91) then { g with st:=6 } else if g.st=4/\b=46 then { g with st:=5 }
 else if g.st=4\/g.st=5 then ku g b else { g with st:=0 }
def aD (g:G) (b:Nat):G :=
 if g.st=2\/g.st=3\/g.st=4\/g.st=5 then cE g b else if g.st=6 then cO g b
 else if g.st=7\/g.st=8\/g.st=9 then bF g b else if g.st=10 then fT g b else if g.st=18 then aU g b
 else if g.st=11 then eC g b else if g.st=15\/g.st=16\/g.st=17 then fB g b else cT g b
def bR (g:G) (b:Nat):Bool :=
 if g.st=21 then isLet b && decide (g.sz<8) else if g.st=22 then af b && decide (g.sz<3)
 else if g.st=23 then aO b && decide (g.sz<8) else false
def aQ (g:G) (b:Nat):G :=
 if bR g b=true then { g with sz:=g.sz+1 } else if g.st=23/\b=39 then { g with st:=g.bh }
 else if g.st=24/\b=(g.rs.headD 0).toNat then eH g g.rs.tail g.bh
 else if g.st=25/\af b=true/\b≠48 then bW g b g.bh
 else if g.st=21\/g.st=22 then aD { g with st:=g.bh } b else { g with st:=0 }
def cR (g:G) (b:Nat):G:=if 21<=g.st/\g.st<=25 then aQ g b else aD g b
def cY (g:G):Bool:=g.st == 3 || (g.st == 21 && g.bh == 3)
def norm (g:G):G :=
 ⟨g.st,if 21<=g.st then g.bh else 0,if 21<=g.st/\g.st<=23 then g.sz else 0,if g.st=24 then g.rs else [],g.op⟩
def nx (m:G) (b:Nat):G :=
 if m.st<=1 then m else if b=256 then (if cY m=true then ⟨26,0,0,[],[]⟩ else ⟨0,0,0,[],[]⟩) else norm (cR m b)
def g0:G:=⟨2,0,0,[],[]⟩
def M (s:List UInt8):Nat->G
 | 0=>g0
 | i+1=>nx (M s i) (bt s i)
def kg (g h:G):Prop:=g.st=h.st/\g.op=h.op
theorem iJ (st bh sz bh' sz':Nat) (rs rs' op:List UInt8) (h:st<=20):norm ⟨st,bh,sz,rs,op⟩=norm ⟨st,bh',sz',rs',op⟩:=by
 have h1:¬21<=st:=by omega
 have h2:¬st=24:=by omega
 simp [norm,h1,h2]
theorem tH {g h:G} (n:kg g h) (b k:Nat):norm (g_ g b k)=norm (g_ h b k):=by
 obtain ⟨e1,e2⟩:=n
 unfold g_
 split<;>simp [norm,e2]
theorem qP {g h:G} (n:kg g h) (k:Nat):norm (j_ g k)=norm (j_ h k):=by
 simp [j_,norm,n.2]
theorem qQ {g h:G} (n:kg g h) (k:Nat):norm (ke g k)=norm (ke h k):=by
 simp [ke,norm,n.2]
theorem kj {g h:G} (n:kg g h) (l:List UInt8) (k:Nat) (hk:k<=20):norm (eH g l k)=norm (eH h l k):=by
 unfold eH
 split
 ·obtain ⟨e1,e2⟩:=n; simp only [e2]; exact iJ _ _ _ _ _ _ _ _ hk
 simp [norm,n.2]
theorem kn {g h:G} (n:kg g h) (b k:Nat) (hk:k<=20):norm (bW g b k)=norm (bW h b k):=by
 unfold bW
 obtain ⟨e1,e2⟩:=n
 simp only [e2]
 split
 ·exact iJ _ _ _ _ _ _ _ _ hk
 split
 ·simp [norm]
 exact iJ _ _ _ _ _ _ _ _ (by omega)
theorem oM {g h:G} (n:kg g h) (b k:Nat) (hk:k<=20):norm (dA g b k)=norm (dA h b k):=by
 unfold dA
 split
 ·exact qQ n k
 exact kn n b k hk
theorem eY {g h:G} (n:kg g h) (k:Nat) (hk:k<=20):norm { g with st:=k }=norm { h with st:=k }:=by
 simp only [n.2]; exact iJ _ _ _ _ _ _ _ _ hk
theorem zY {g h:G} (n:kg g h) (b:Nat):norm (fB g b)=norm (fB h b):=by
 unfold fB
 rw [n.1]
 split
 ·exact eY n _ (by omega)
 split
 ·exact eY n _ (by omega)
 split
 ·exact qP n _
 split
 ·exact kj n _ _ (by omega)
 split
 ·exact kj n _ _ (by omega)
 split
 ·exact kj n _ _ (by omega)
 exact oM n _ _ (by omega)
theorem xO {g h:G} (n:kg g h) (b:Nat):norm (cT g b)=norm (cT h b):=by
 unfold cT
 rw [n.1]
 repeat' split
 all_goals first | exact tH n _ _ | exact oM n _ _ (by omega) | exact eY n _ (by omega)
theorem oN {g h:G} (n:kg g h) (b:Nat):norm (bF g b)=norm (bF h b):=by
 unfold bF
 rw [n.1]
 repeat' split
 all_goals first | exact kn n _ _ (by omega) | exact eY n _ (by omega)
theorem mT {g h:G} (n:kg g h) (b:Nat):norm (aU g b)=norm (aU h b):=by
 unfold aU
 have n':kg { g with op:=bD g.op } { h with op:=bD h.op }:=⟨n.1,by rw [n.2]⟩
 rw [n.2] at n' ⊢
 simp only
 split
 ·exact eY n' _ (by omega)
 split
 ·exact eY n' _ (by omega)
 split
 ·exact iJ _ _ _ _ _ _ _ _ (by omega)
 split
 ·exact oN n' _
 exact eY n' _ (by omega)
theorem uT {g h:G} (n:kg g h) (b:Nat):norm (eC g b)=norm (eC h b):=by
 unfold eC
 repeat' split
 all_goals first | exact mT n _ | exact eY n _ (by omega)
theorem Du {g h:G} (n:kg g h) (b:Nat):norm (fT g b)=norm (fT h b):=by
 unfold fT
 rw [n.2]
 repeat' split
 all_goals first | (exact iJ _ _ _ _ _ _ _ _ (by omega))
theorem r8 {g h:G} (n:kg g h) (b:Nat):norm (cO g b)=norm (cO h b):=by
 unfold cO
 repeat' split
 all_goals first | exact qP n _ | exact qQ n _ | exact kn n _ _ (by omega) | exact eY n _ (by omega)
theorem Dv {g h:G} (n:kg g h) (b:Nat):norm (ku g b)=norm (ku h b):=by
 unfold ku
 split
 ·exact eY n _ (by omega)
 exact tH n _ _
theorem uU {g h:G} (n:kg g h) (b:Nat):norm (cE g b)=norm (cE h b):=by
 unfold cE
 rw [n.1]
 repeat' split
 all_goals first | exact Dv n _ | exact eY n _ (by omega)
theorem iy {g h:G} (n:kg g h) (b:Nat):norm (aD g b)=norm (aD h b):=by
 unfold aD
 rw [n.1]
 repeat' split
 ·exact uU n b
 ·exact r8 n b
 ·exact oN n b
 ·exact Du n b
 ·exact mT n b
 ·exact uT n b
 ·exact zY n b
 exact xO n b
theorem Mw (g:G):(norm g).st=g.st:=rfl
theorem Dw (g:G):kg g (norm g):=⟨rfl,rfl⟩
theorem Dx (g:G) (b:Nat) (hb:g.bh<=20):norm (cR g b)=norm (cR (norm g) b):=by
 unfold cR
 rw [Mw]
 split
 ·rename_i h
  obtain ⟨st,bh,sz,rs,op⟩:=g
  simp only at h hb
  have hn:norm ⟨st,bh,sz,rs,op⟩=⟨st,bh,if 21<=st/\st<=23 then sz else 0,if st=24 then rs else [],op⟩:=by
   simp [norm,h.1]
  rw [hn]
  have hc:st=21\/st=22\/st=23\/st=24\/st=25:=by omega
  rcases hc with rfl | rfl | rfl | rfl | rfl
  ·simp [aQ,bR]
   split
   ·rfl
   exact iy (by exact ⟨rfl,rfl⟩) b
  ·simp [aQ,bR]
   split
   ·rfl
   exact iy (by exact ⟨rfl,rfl⟩) b
  ·simp [aQ,bR]
   repeat' split
   ·rfl
   ·exact iJ _ _ _ _ _ _ _ _ hb
   rfl
  ·simp [aQ,bR]
   split
   ·exact kj (by exact ⟨rfl,rfl⟩) _ _ hb
   rfl
  simp [aQ,bR]
  split
  ·exact kn (by exact ⟨rfl,rfl⟩) _ _ hb
  rfl
 exact iy (Dw g) b
structure St where
 p:Nat
 e:Nat
 n:Nat
def aj (s:List UInt8) (t:St) (b:Nat):Bool:=t.e == 0 && bt s t.p == b
def aG (t:St):St:={ t with p:=t.p+1 }
def wrong (t:St) (e:Nat):St:=if t.e=0 then { t with e:=e } else t
def has (s:List UInt8) (t:St) (b:Nat):St:=if aj s t b=true then aG t else t
def aH (s:List UInt8) (t:St) (b:Nat):St:=if aj s t b=true then aG t else wrong t 2
def aN (s:List UInt8) (t:St) (l:List Nat):St:=l.foldl (aH s) t
def letter (s:List UInt8) (t:St):Bool:=t.e == 0 && isLet (bt s t.p)
def digit (s:List UInt8) (t:St):Bool:=t.e == 0 && af (bt s t.p)
def run (ok:Nat->Bool) (s:List UInt8):Nat->Nat->Nat
 | 0,p=>p
 | k+1,p=>if ok (bt s p)=true then run ok s k (p+1) else p
def bC (s:List UInt8) (t:St):St :=
 if t.e=0 then (if run isLet s 8 t.p=t.p then { t with e:=2 } else { t with p:=run isLet s 8 t.p }) else t
def dH (ok:Nat->Bool) (s:List UInt8) (k:Nat) (t:St):St:=if t.e=0 then { t with p:=run ok s k t.p } else t
def eU (s:List UInt8) (t:St):St:=aH s (dH aO s 8 (aH s t 39)) 39
def dx (s:List UInt8) (t:St) (m:Bool):St:=if m=true then has s t 45 else t
def aX (s:List UInt8) (t:St) (minus:Bool):St :=
 if digit s t=false\/(minus=true/\aj s t 48=true) then wrong t 2
 else if aj s t 48=true then aG t else dH af s 3 t
def countP (s:List UInt8) (t:St) (m:Bool):St:=aX s (dx s t m) (m && aj s t 45)
theorem iK {b:Nat} (h:isLet b=true):b<256:=by simp [isLet] at h; omega
theorem eo {b:Nat} (h:af b=true):b<256:=by simp [af] at h; omega
theorem xP {b:Nat} (h:aO b=true):b<256:=by simp [aO,isLet,af] at h; omega
theorem cD {s:List UInt8} {p:Nat} (h:bt s p<256):p<s.length:=by
 unfold bt at h
 split at h
 ·rename_i c hc; exact (List.getElem?_eq_some_iff.1 hc).1
 omega
theorem BW (s:List UInt8) (p:Nat):bt s p<=256:=by
 unfold bt; split
 ·rename_i c _; have:=c.toNat_lt; omega
 omega
theorem iD {s:List UInt8} {p:Nat} (h:s.length<=p):bt s p=256:=by
 unfold bt; rw [List.getElem?_eq_none h]
theorem tF {s:List UInt8} {p:Nat} (h:p<s.length):bt s p<256:=by
 unfold bt; rw [List.getElem?_eq_getElem h]; exact UInt8.toNat_lt _
theorem eG (ok:Nat->Bool) (s:List UInt8):∀k p,p<=run ok s k p
 | 0,p=>Nat.le_refl _
 | k+1,p=>by unfold run; split; have:=eG ok s k (p+1); omega; exact Nat.le_refl _
theorem gL (ok:Nat->Bool) (s:List UInt8):∀k p,run ok s k p<=p+k
 | 0,p=>Nat.le_refl _
 | k+1,p=>by unfold run; split; have:=gL ok s k (p+1); omega; omega
theorem fN (ok:Nat->Bool) (s:List UInt8):∀k p i,p<=i->i<run ok s k p->ok (bt s i)=true
 | 0,p,i,h1,h2=>by unfold run at h2; omega
 | k+1,p,i,h1,h2=>by
  unfold run at h2
  split at h2
  ·by_cases e:i=p
   ·subst e; assumption
   exact fN ok s k (p+1) i (by omega) h2
  omega
theorem gr (ok:Nat->Bool) (s:List UInt8):∀k p,run ok s k p=p+k\/ok (bt s (run ok s k p))=false
 | 0,p=>Or.inl rfl
 | k+1,p=>by
  unfold run; split
  ·rcases gr ok s k (p+1) with h | h
   ·left; omega
   right; exact h
  rename_i h; right; simpa using h
theorem mU {ok:Nat->Bool} {s:List UInt8} (hok:∀b,ok b=true->b<256) (k p:Nat) (hp:p<=s.length):run ok s k p<=s.length:=by
 by_cases h:run ok s k p=p
 ·omega
 have h1:=eG ok s k p
 have h2:=fN ok s k p (run ok s k p - 1) (by omega) (by omega)
 have:=cD (hok _ h2)
 omega
theorem iL (ok:Nat->Bool) (s:List UInt8):∀k p,run ok s (k+1) p=if run ok s k p=p+k/\ok (bt s (p+k))=true then p+k+1 else run ok s k p
 | 0,p=>by simp [run]
 | k+1,p=>by
  rw [run]
  by_cases h:ok (bt s p)=true
  ·have e:p+(k+1)=p+1+k:=by omega
   rw [if_pos h,iL ok s k (p+1),e]
   conv=>rhs; rw [run]
   simp only [h,if_true]
  rw [if_neg h]
  conv=>rhs; rw [run]
  simp only [h]
  rw [if_neg (by simp)]
  simp
def cS (X:Nat) (o:List UInt8):G:=⟨X,0,0,[],o⟩
def oO (m:G):Bool:=!(m.st == 2 || m.st == 3 || m.st == 4 || m.st == 5 || (m.st == 21 && m.bh == 3))
def out (m:G) (b:Nat):List UInt8 :=
 if m.st=4\/m.st=5 then (if b=46 then [46,46] else if b=42 then [91,42,93] else if b=91 then [91] else [91,39,UInt8.ofNat b])
 else if m.st=3 then (if b=46\/b=256 then [] else [UInt8.ofNat b])
 else if m.st=21/\m.bh=3 then (if bR m b=true then [UInt8.ofNat b] else if b=46\/b=256 then [39,93] else [39,93,UInt8.ofNat b])
 else [UInt8.ofNat b]
def T (s:List UInt8):Nat->List UInt8
 | 0=>[]
 | i+1=>T s i++out (M s i) (bt s i)
def inc (m:G) (b:Nat):Nat:=if (nx m b).st=6 then 1 else if (m.st=4\/m.st=5)/\((nx m b).st=3\/(nx m b).st=21) then 1 else 0
def C (s:List UInt8):Nat->Nat
 | 0=>0
 | i+1=>C s i+inc (M s i) (bt s i)
def sub (s:List UInt8) (q p:Nat):List UInt8:=(s.drop q).take (p - q)
theorem sub_self (s:List UInt8) (q:Nat):sub s q q=[]:=by simp [sub]
theorem gZ {s:List UInt8} {q p:Nat} (h:q<=p) (hb:bt s p<256):sub s q (p+1)=sub s q p++[UInt8.ofNat (bt s p)]:=by
 have hp:=cD hb
 unfold sub
 have e:p+1 - q=(p - q)+1:=by omega
 have hl:p - q<(s.drop q).length:=by simp; omega
 rw [e,List.take_succ_eq_append_getElem hl]
 congr 1
 have:(s.drop q)[p - q]=s[p]:=by simp [Nat.add_sub_cancel' h]
 rw [this]
 simp [bt,List.getElem?_eq_getElem hp]
theorem lE {s:List UInt8} {a b c:Nat} (h1:a<=b) (h2:b<=c):sub s a c=sub s a b++sub s b c:=by
 unfold sub
 have e:c - a=(b - a)+(c - b):=by omega
 rw [e,List.take_add,List.drop_drop]
 have:a+(b - a)=b:=by omega
 rw [this]
structure EX (s:List UInt8) (e p:Nat):Prop where
 lv:2<=(M s p).st
 st:(M s (p+1)).st+2=e
 le:p<=s.length
 e3:e<=3
structure qR (s:List UInt8) (q c n:Nat) (m:G) (t:St):Prop where
 e0:t.e=0
 nn:t.n=n
 le:t.p<=s.length
 ge:q<=t.p
 tx:T s t.p=T s q++sub s q t.p
 ct:C s t.p=c
 br:oO m=true
 lv:2<=m.st
 mm:M s t.p=m
structure Live (s:List UInt8) (q c X:Nat) (o:List UInt8) (n:Nat) (t:St):Prop where
 e0:t.e=0
 nn:t.n=n
 le:t.p<=s.length
 ge:q<=t.p
 tx:T s t.p=T s q++sub s q t.p
 ct:C s t.p=c
 br:oO (M s t.p)=true
 lv:2<=(M s t.p).st
 ac:nx (M s t.p) (bt s t.p)=nx (cS X o) (bt s t.p)
structure xQ (s:List UInt8) (n:Nat) (t:St):Prop where
 ne:¬t.e=0
 nn:t.n=n
 er:EX s t.e t.p
def Ok (s:List UInt8) (q c X:Nat) (o:List UInt8) (n:Nat) (t:St):Prop:=Live s q c X o n t\/xQ s n t
theorem uV {m:G} {b:Nat} (h:oO m=true):out m b=[UInt8.ofNat b]:=by
 simp [oO] at h
 unfold out
 rw [if_neg (by omega),if_neg (by omega),if_neg]
 intro h2; omega
theorem B_ {m:G} {b:Nat} (h:oO m=true) (h6:(nx m b).st≠6):inc m b=0:=by
 simp [oO] at h
 unfold inc
 rw [if_neg h6,if_neg (by omega)]
theorem tI {s:List UInt8} {q c n:Nat} {t:St} {m':G} (e0:t.e=0) (nn:t.n=n) (ge:q<=t.p) (tx:T s t.p=T s q++sub s q t.p) (ct:C s t.p=c)
 (br:oO (M s t.p)=true) (hb:bt s t.p<256) (hm:nx (M s t.p) (bt s t.p)=m') (zk:oO m'=true) (hlv:2<=m'.st) (h6:m'.st≠6):qR s q c n m' (aG t) where
 e0:=e0
 nn:=nn
 le:=by have:=cD hb; simp [aG]; omega
 ge:=by simp [aG]; omega
 tx:=by
  show T s (t.p+1)=_
  simp only [T,aG]
  rw [tx,uV br,gZ ge hb,List.append_assoc]
 ct:=by
  show C s (t.p+1)=_
  simp only [C]
  rw [ct,B_ br (by rw [hm]; exact h6)]
  rfl
 br:=zk
 lv:=hlv
 mm:=by show M s (t.p+1)=_; simp only [M]; exact hm
theorem qR.step {s:List UInt8} {q c n:Nat} {m:G} {t:St} (h:qR s q c n m t) {m':G} (hb:bt s t.p<256) (hm:nx m (bt s t.p)=m') (zk:oO m'=true) (hlv:2<=m'.st) (h6:m'.st≠6):qR s q c n m' (aG t) :=
 tI h.e0 h.nn h.ge h.tx h.ct (by rw [h.mm]; exact h.br) hb (by rw [h.mm]; exact hm) zk hlv h6
theorem Live.step {s:List UInt8} {q c n X:Nat} {o:List UInt8} {t:St} (h:Live s q c X o n t) {m':G} (hb:bt s t.p<256) (hm:nx (cS X o) (bt s t.p)=m') (zk:oO m'=true) (hlv:2<=m'.st) (h6:m'.st≠6):qR s q c n m' (aG t) :=
 tI h.e0 h.nn h.ge h.tx h.ct h.br hb (by rw [h.ac]; exact hm) zk hlv h6
theorem qR.live {s:List UInt8} {q c n X:Nat} {m:G} {o:List UInt8} {t:St} (h:qR s q c n m t) (hm:nx m (bt s t.p)=nx (cS X o) (bt s t.p)):Live s q c X o n t :=
 ⟨h.e0,h.nn,h.le,h.ge,h.tx,h.ct,by rw [h.mm]; exact h.br,by rw [h.mm]; exact h.lv,by rw [h.mm]; exact hm⟩
theorem qR.same {s:List UInt8} {q c n X:Nat} {o:List UInt8} {t:St} (h:qR s q c n (cS X o) t):Live s q c X o n t:=h.live rfl
theorem Live.go {s:List UInt8} {q c n X:Nat} {o:List UInt8} {t:St} (h:Live s q c X o n t) (b Y:Nat) (o':List UInt8) (hb:bt s t.p=b) (aC:b<256) (hm:nx (cS X o) b=cS Y o') (zk:oO (cS Y o')=true) (hlv:2<=Y) (h6:Y≠6):Live s q c Y o' n (aG t) :=
 (h.step (by omega) (by rw [hb]; exact hm) zk hlv h6).same
theorem Live.bad {s:List UInt8} {q c n X:Nat} {o:List UInt8} {t:St} (h:Live s q c X o n t) (k:Nat) (hk:k<=1) (hm:(nx (cS X o) (bt s t.p)).st=k):xQ s n { t with e:=k+2 } where
 ne:=by simp
 nn:=h.nn
 er:=⟨h.lv,by show (M s (t.p+1)).st+2=k+2; simp only [M]; rw [h.ac,hm],h.le,by simp; omega⟩
theorem qR.bad {s:List UInt8} {q c n:Nat} {m:G} {t:St} (h:qR s q c n m t) (hm:(nx m (bt s t.p)).st=0):xQ s n { t with e:=2 } where
 ne:=by simp
 nn:=h.nn
 er:=⟨by rw [h.mm]; exact h.lv,by show (M s (t.p+1)).st+2=2; simp only [M]; rw [h.mm,hm],h.le,by simp⟩
theorem dI {t:St} (h:t.e=0) (e:Nat):wrong t e={ t with e:=e }:=by simp [wrong,h]
theorem og {s:List UInt8} {n:Nat} {t:St} (h:xQ s n t) (e:Nat):wrong t e=t:=by simp [wrong,h.ne]
theorem qS {s:List UInt8} {n:Nat} {t:St} (h:xQ s n t) (b:Nat):aj s t b=false:=by simp [aj,h.ne]
theorem aK {s:List UInt8} {t:St} (h:t.e=0) (b:Nat):aj s t b=(bt s t.p == b):=by simp [aj,h]
theorem jM {s:List UInt8} {q c n X Y:Nat} {o o':List UInt8} {t:St} {b:Nat} (h:Ok s q c X o n t) (hb:b<256) (hm:nx (cS X o) b=cS Y o') (zk:oO (cS Y o')=true) (hlv:2<=Y) (h6:Y≠6)
 (hno:t.e=0->bt s t.p≠b->(nx (cS X o) (bt s t.p)).st=0):Ok s q c Y o' n (aH s t b):=by
 rcases h with h | h
 ·unfold aH
  rw [aK h.e0]
  by_cases e:bt s t.p=b
  ·rw [if_pos (by simp [e])]; exact Or.inl (h.go b Y o' e hb hm zk hlv h6)
  rw [if_neg (by simp [e]),dI h.e0]; exact Or.inr (h.bad 0 (by omega) (hno h.e0 e))
 unfold aH
 rw [qS h,if_neg (by simp),og h]; exact Or.inr h
/-! ### Words, quotes, counts -/
theorem qR.run {s:List UInt8} {q c n ty K z mx:Nat} {o:List UInt8} {ok:Nat->Bool} (hty:(ty=21/\ok=isLet/\mx=8)\/(ty=22/\ok=af/\mx=3)\/(ty=23/\ok=aO/\mx=8)) (hK:¬(ty=21/\K=3)) :
 ∀j t,qR s q c n ⟨ty,K,z,[],o⟩ t->(∀i,i<j->ok (bt s (t.p+i))=true)->z+j<=mx->qR s q c n ⟨ty,K,z+j,[],o⟩ { t with p:=t.p+j }
 | 0,t,h,_,_=>h
 | j+1,t,h,hj,hz=>by
  have h1:=qR.run hty hK j t h (λ i hi=>hj i (by omega)) (by omega)
  have hb:=hj j (by omega)
  have hlt:bt s (t.p+j)<256:=by
   rcases hty with ⟨_,rfl,_⟩ | ⟨_,rfl,_⟩ | ⟨_,rfl,_⟩
   ·exact iK hb
   ·exact eo hb
   exact xP hb
  have:=h1.step (m':=⟨ty,K,z+j+1,[],o⟩) (by exact hlt) (by
   show nx ⟨ty,K,z+j,[],o⟩ (bt s (t.p+j))=_
   have aC:¬bt s (t.p+j)=256:=by omega
   have hg:bR ⟨ty,K,z+j,[],o⟩ (bt s (t.p+j))=true:=by
    rcases hty with ⟨rfl,rfl,rfl⟩ | ⟨rfl,rfl,rfl⟩ | ⟨rfl,rfl,rfl⟩<;>simp [bR,hb]<;>omega
   unfold nx
   rw [if_neg (by simp only; omega),if_neg aC]
   unfold cR
   rw [if_pos (by simp only; omega)]
   unfold aQ
   rw [if_pos hg]
   unfold norm
   simp only
   rw [if_pos (by omega),if_pos (by omega),if_neg (by omega)]) (by
    have:=h.br; simp [oO] at this ⊢; omega) (by simp only; omega) (by simp only; omega)
  exact this
theorem iM (m:G) (h:¬m.st<=1):nx m 256=if cY m=true then ⟨26,0,0,[],[]⟩ else ⟨0,0,0,[],[]⟩:=by
 unfold nx; rw [if_neg h,if_pos rfl]
theorem mV {ty K z mx:Nat} {o:List UInt8} {ok:Nat->Bool} (hty:(ty=21/\ok=isLet/\mx=8)\/(ty=22/\ok=af/\mx=3)) (hK:2<=K/\K<=20) (hK3:ty=22->K≠3) (b:Nat) (hb:z=mx\/ok b=false) :
 nx ⟨ty,K,z,[],o⟩ b=nx (cS K o) b:=by
 by_cases aC:b=256
 ·subst aC
  have e1:cY ⟨ty,K,z,[],o⟩=cY (cS K o):=by
   rcases hty with ⟨rfl,_,_⟩ | ⟨rfl,_,_⟩
   ·simp [cY,cS]
   have h1:=hK3 rfl
   simp [cY,cS,h1]
  have h1:¬ty<=1:=by omega
  have h2:¬K<=1:=by omega
  rw [iM _ h1,iM (cS K o) h2,e1]
 have hg:bR ⟨ty,K,z,[],o⟩ b=false:=by
  rcases hty with ⟨rfl,rfl,rfl⟩ | ⟨rfl,rfl,rfl⟩<;>rcases hb with rfl | hb<;>simp [bR, *]
 unfold nx
 rw [if_neg (by simp only; omega),if_neg aC,if_neg (by simp only [cS]; omega),if_neg aC]
 unfold cR
 rw [if_pos (by simp only; omega),if_neg (by simp only [cS]; omega)]
 unfold aQ
 rw [if_neg (by rw [hg]; simp),if_neg (by simp only; omega),if_neg (by simp only; omega),if_neg (by simp only; omega),if_pos (by simp only; omega)]
 exact iy (by exact ⟨rfl,rfl⟩) b
theorem cu {X:Nat} {o:List UInt8} {b:Nat} (hX:2<=X) (hX2:X<=20) (hb:b≠256):nx (cS X o) b=norm (aD (cS X o) b):=by
 have h1:¬X<=1:=by omega
 have h2:¬(21<=X/\X<=25):=by omega
 simp only [nx,cS,h1,hb,if_false,cR,h2]
theorem gN {X:Nat} {o:List UInt8} (hX:2<=X) (ah9:X<=20) (h3:X≠3):(nx (cS X o) 256).st=0:=by
 have h1:¬X<=1:=by omega
 simp [nx,cS,h1,cY,h3]
theorem Ca {g:G} (h:g.st<=20):norm g=cS g.st g.op:=by
 have h1:¬21<=g.st:=by omega
 have h2:¬g.st=24:=by omega
 simp [norm,cS,h1,h2]
theorem Wu (t:St):(aG t).p=t.p+1:=rfl
theorem IG {s:List UInt8} {q c n K:Nat} {o:List UInt8} {t:St} (h:qR s q c n ⟨21,K,1,[],o⟩ (aG t)) (hK:4<=K/\K<=20) (hl:isLet (bt s t.p)=true) (he:t.e=0):Live s q c K o n (bC s t):=by
 have hr:run isLet s 8 t.p=run isLet s 7 (t.p+1):=by rw [run,if_pos hl]
 have hge:=eG isLet s 7 (t.p+1)
 have hle:=gL isLet s 7 (t.p+1)
 have hok:=fN isLet s 7 (t.p+1)
 have hst:=gr isLet s 7 (t.p+1)
 have hw:bC s t={ aG t with p:=(aG t).p+(run isLet s 7 (t.p+1) - (t.p+1)) }:=by
  unfold bC
  rw [if_pos he,hr,if_neg (by omega)]
  simp only [aG]
  congr 1; omega
 have h2:=qR.run (ty:=21) (mx:=8) (ok:=isLet) (Or.inl ⟨rfl,rfl,rfl⟩) (by omega) (run isLet s 7 (t.p+1) - (t.p+1)) (aG t) h (λ i hi=>hok _ (by simp [aG]) (by simp [aG]; omega)) (by omega)
 rw [hw]
 refine h2.live (mV (Or.inl ⟨rfl,rfl,rfl⟩) (by omega) (by omega) _ ?_)
 rcases hst with h3 | h3
 ·left; omega
 right
 have:(aG t).p+(run isLet s 7 (t.p+1) - (t.p+1))=run isLet s 7 (t.p+1):=by simp [aG]; omega
 simp only [this]; exact h3
theorem xR {s:List UInt8} {t:St} (he:t.e=0) (hl:isLet (bt s t.p)=false):bC s t={ t with e:=2 }:=by
 unfold bC
 rw [if_pos he,if_pos]
 rw [run,if_neg (by simp [hl])]
theorem Dy {s:List UInt8} {n:Nat} {t:St} (h:xQ s n t):bC s t=t:=by unfold bC; rw [if_neg h.ne]
theorem xS {s:List UInt8} {q c n:Nat} {o:List UInt8} {t:St} (h:Ok s q c 12 o n t):Ok s q c 11 o n (bC s t):=by
 rcases h with h | h
 ·cases hl:isLet (bt s t.p)
  ·rw [xR h.e0 hl]
   refine Or.inr (h.bad 0 (by omega) ?_)
   by_cases aC:bt s t.p=256
   ·rw [aC]; exact gN (by omega) (by omega) (by omega)
   rw [cu (by omega) (by omega) aC]
   simp [aD,cT,g_,cS,hl,norm]
  refine Or.inl (IG (h.step (iK hl) ?_ (by simp [oO]) (by simp) (by simp)) (by omega) hl h.e0)
  rw [cu (by omega) (by omega) (by have:=iK hl; omega)]
  simp [aD,cT,g_,cS,hl,norm]
 rw [Dy h]; exact Or.inr h
theorem Dz {s:List UInt8} {q c n K:Nat} {o:List UInt8} {t:St} (h:qR s q c n ⟨23,K,0,[],o⟩ t) (hK:4<=K/\K<=20/\K≠6) (hin:oO (cS K o)=true):Ok s q c K o n (aH s (dH aO s 8 t) 39):=by
 have hge:=eG aO s 8 t.p
 have hle:=gL aO s 8 t.p
 have hok:=fN aO s 8 t.p
 have hst:=gr aO s 8 t.p
 obtain ⟨j,hj⟩:∃j,run aO s 8 t.p=t.p+j:=⟨run aO s 8 t.p - t.p,by omega⟩
 have hp:dH aO s 8 t={ t with p:=t.p+j }:=by
  unfold dH; rw [if_pos h.e0,hj]
 have h2:=qR.run (ty:=23) (mx:=8) (ok:=aO) (Or.inr (Or.inr ⟨rfl,rfl,rfl⟩)) (by omega) j t h (λ i hi=>hok _ (by omega) (by omega)) (by omega)
 rw [<-hp] at h2
 have hup:(dH aO s 8 t).p=run aO s 8 t.p:=by rw [hp,hj]
 generalize dH aO s 8 t=u at *
 unfold aH
 rw [aK h2.e0]
 by_cases e:bt s u.p=39
 ·rw [if_pos (by simp [e])]
  left
  refine (h2.step (m':=cS K o) (by omega) ?_ hin (by simp [cS]; omega) (by simp [cS]; omega)).same
  rw [e]
  simp [nx,cR,aQ,bR,aO,isLet,af]
  exact Ca (by simp only; omega)
 rw [if_neg (by simp [e]),dI h2.e0]
 right
 refine h2.bad ?_
 by_cases aC:bt s u.p=256
 ·rw [aC]; simp [nx,cY]
 have hg:bR ⟨23,K,0+j,[],o⟩ (bt s u.p)=false:=by
  rcases hst with h3 | h3
  ·have:j=8:=by omega
   subst this; simp [bR]
  rw [<-hup] at h3; simp [bR,h3]
 simp only [nx,aC,cR,aQ,hg,e]
 simp [norm]
theorem tJ {s:List UInt8} {n:Nat} {t:St} (b:Nat) (h:xQ s n t):aH s t b=t:=by unfold aH; rw [qS h,if_neg (by simp),og h]
theorem xT {s:List UInt8} {q c n X K:Nat} {o:List UInt8} {t:St} (h:Live s q c X o n t) (hb:bt s t.p=39) (hX:nx (cS X o) 39=⟨23,K,0,[],o⟩) (hK:4<=K/\K<=20/\K≠6) (hin:oO (cS K o)=true):Ok s q c K o n (eU s t):=by
 unfold eU
 have e:aH s t 39=aG t:=by unfold aH; rw [aK h.e0,hb]; rfl
 rw [e]
 exact Dz (h.step (by omega) (by rw [hb]; exact hX) (by simp [oO]) (by simp) (by simp)) hK hin
theorem oh {s:List UInt8} {q c n X K:Nat} {o:List UInt8} {t:St} (h:Live s q c X o n t) (hK:4<=K/\K<=20/\K≠6) (hin:oO (cS K o)=true)
 (hX:∀b,af b=true->nx (cS X o) b=norm (bW (cS X o) b K)) (hN:af (bt s t.p)=false->(nx (cS X o) (bt s t.p)).st=0):Ok s q c K o n (aX s t false):=by
 unfold aX
 have hd:digit s t=af (bt s t.p):=by simp [digit,h.e0]
 rw [hd,aK h.e0]
 cases hi:af (bt s t.p)
 ·rw [if_pos (Or.inl rfl),dI h.e0]
  exact Or.inr (h.bad 0 (by omega) (hN hi))
 rw [if_neg (by simp)]
 have hlt:=eo hi
 by_cases h0:bt s t.p=48
 ·rw [if_pos (by simp [h0])]
  left
  refine (h.step (m':=cS K o) hlt ?_ hin (by simp [cS]; omega) (by simp [cS]; omega)).same
  rw [hX _ hi,h0]
  simp [bW]
  exact Ca (by simp only; omega)
 rw [if_neg (by simp [h0])]
 have hm:=h.step (m':=⟨22,K,1,[],o⟩) hlt (by
  rw [hX _ hi]
  simp [bW,h0,hi,norm,cS]) (by simp [oO]) (by simp) (by simp)
 have hr:run af s 3 t.p=run af s 2 (t.p+1):=by rw [run,if_pos hi]
 have hge:=eG af s 2 (t.p+1)
 have hle:=gL af s 2 (t.p+1)
 have hok:=fN af s 2 (t.p+1)
 have hst:=gr af s 2 (t.p+1)
 have hw:dH af s 3 t={ aG t with p:=(aG t).p+(run af s 2 (t.p+1) - (t.p+1)) }:=by
  unfold dH
  rw [if_pos h.e0,hr]
  simp only [aG]
  congr 1; omega
 have h2:=qR.run (ty:=22) (mx:=3) (ok:=af) (Or.inr (Or.inl ⟨rfl,rfl,rfl⟩)) (by omega) (run af s 2 (t.p+1) - (t.p+1)) (aG t) hm (λ i hi=>hok _ (by simp [aG]) (by simp [aG]; omega)) (by omega)
 rw [hw]
 left
 refine h2.live (mV (Or.inr ⟨rfl,rfl,rfl⟩) (by omega) (by omega) _ ?_)
 rcases hst with h3 | h3
 ·left; omega
 right
 have:(aG t).p+(run af s 2 (t.p+1) - (t.p+1))=run af s 2 (t.p+1):=by simp [aG]; omega
 simp only [this]; exact h3
theorem tK {s:List UInt8} {q c n K:Nat} {o:List UInt8} {t:St} (h:qR s q c n ⟨25,K,0,[],o⟩ t) (hK:4<=K/\K<=20/\K≠6):Ok s q c K o n (aX s t true):=by
 unfold aX
 have hd:digit s t=af (bt s t.p):=by simp [digit,h.e0]
 rw [hd,aK h.e0]
 by_cases hi:af (bt s t.p)=true/\bt s t.p≠48
 ·obtain ⟨hi,h0⟩:=hi
  rw [if_neg (by simp [hi,h0]),if_neg (by simp [h0])]
  have hlt:=eo hi
  have hm:=h.step (m':=⟨22,K,1,[],o⟩) hlt (by
   have aC:¬bt s t.p=256:=by omega
   simp [nx,aC,cR,aQ,bR,hi,h0,bW,norm]) (by simp [oO]) (by simp) (by simp)
  have hr:run af s 3 t.p=run af s 2 (t.p+1):=by rw [run,if_pos hi]
  have hge:=eG af s 2 (t.p+1)
  have hle:=gL af s 2 (t.p+1)
  have hok:=fN af s 2 (t.p+1)
  have hst:=gr af s 2 (t.p+1)
  have hw:dH af s 3 t={ aG t with p:=(aG t).p+(run af s 2 (t.p+1) - (t.p+1)) }:=by
   unfold dH
   rw [if_pos h.e0,hr]
   simp only [aG]
   congr 1; omega
  have h2:=qR.run (ty:=22) (mx:=3) (ok:=af) (Or.inr (Or.inl ⟨rfl,rfl,rfl⟩)) (by omega) (run af s 2 (t.p+1) - (t.p+1)) (aG t) hm (λ i hi=>hok _ (by simp [aG]) (by simp [aG]; omega)) (by omega)
  rw [hw]
  left
  refine h2.live (mV (Or.inr ⟨rfl,rfl,rfl⟩) (by omega) (by omega) _ ?_)
  rcases hst with h3 | h3
  ·left; omega
  right
  have:(aG t).p+(run af s 2 (t.p+1) - (t.p+1))=run af s 2 (t.p+1):=by simp [aG]; omega
  simp only [this]; exact h3
 rw [if_pos (by
  cases hj:af (bt s t.p)
  ·exact Or.inl rfl
  right; refine ⟨rfl,?_⟩
  have:bt s t.p=48:=by
   by_cases e:bt s t.p=48
   ·exact e
   exact absurd ⟨hj,e⟩ hi
  simp [this]),dI h.e0]
 right
 refine h.bad ?_
 by_cases aC:bt s t.p=256
 ·rw [aC]; simp [nx,cY]
 unfold nx
 rw [if_neg (by simp),if_neg aC]
 unfold cR
 rw [if_pos (by simp)]
 unfold aQ
 rw [if_neg (by simp [bR]),if_neg (by simp),if_neg (by simp),if_neg (λ x=>hi x.2),if_neg (by simp)]
 rfl
theorem zZ {s:List UInt8} {n:Nat} {t:St} (m:Bool) (h:xQ s n t):aX s t m=t:=by
 unfold aX; rw [if_pos (Or.inl (by simp [digit,h.ne])),og h]
theorem qT {s:List UInt8} {n:Nat} {t:St} (m:Bool) (h:xQ s n t):countP s t m=t:=by
 have e:dx s t m=t:=by unfold dx has; rw [qS h]; simp
 unfold countP; rw [e,zZ _ h]
theorem tL {s:List UInt8} {q c n X K:Nat} {o:List UInt8} {t:St} (h:Live s q c X o n t) (hK:4<=K/\K<=20/\K≠6) (hin:oO (cS K o)=true)
 (hM:nx (cS X o) 45=⟨25,K,0,[],o⟩)
 (hX:∀b,af b=true->nx (cS X o) b=norm (bW (cS X o) b K)) (hN:bt s t.p≠45->af (bt s t.p)=false->(nx (cS X o) (bt s t.p)).st=0):Ok s q c K o n (countP s t true):=by
 unfold countP dx
 simp only [if_true,Bool.true_and]
 rw [aK h.e0]
 by_cases e:bt s t.p=45
 ·have e1:has s t 45=aG t:=by unfold has; rw [aK h.e0,e]; rfl
  rw [e1,e]
  exact tK (h.step (by omega) (by rw [e]; exact hM) (by simp [oO]) (by simp) (by simp)) hK
 have e1:has s t 45=t:=by unfold has; rw [aK h.e0,if_neg (by simp [e])]
 rw [e1,show (bt s t.p == 45)=false by simp [e]]
 exact oh h hK hin hX (hN e)
theorem xU {s:List UInt8} {q c n:Nat} {o:List UInt8}:∀(l:List UInt8) (a:UInt8) (t:St),qR s q c n ⟨24,18,0,a::l,o⟩ t->Ok s q c 18 o n (aN s t ((a::l).map UInt8.toNat))
 | l,a,t,h=>by
  have hstep:∀(l':List UInt8),l=l'->Ok s q c 18 o n (aN s (aH s t a.toNat) (l'.map UInt8.toNat)):=by
   intro l' hl
   subst hl
   by_cases e:bt s t.p=a.toNat
   ·have e1:aH s t a.toNat=aG t:=by unfold aH; rw [aK h.e0,if_pos (by simp [e])]
    rw [e1]
    have hlt:bt s t.p<256:=by rw [e]; exact UInt8.toNat_lt a
    have lU:nx ⟨24,18,0,a::l,o⟩ (bt s t.p)=norm (eH ⟨24,18,0,a::l,o⟩ l 18):=by
     simp [nx,cR,aQ,bR,e]
     intro h3; have:=UInt8.toNat_lt a; omega
    cases l with
    | nil =>
     refine Or.inl (h.step (m':=cS 18 o) hlt ?_ (by simp [oO,cS]) (by simp [cS]) (by simp [cS])).same
     rw [lU]; simp [eH,norm,cS]
    | cons a' l' =>
     refine xU l' a' (aG t) (h.step hlt ?_ (by simp [oO]) (by simp) (by simp))
     rw [lU]; simp [eH,norm]
   have e1:aH s t a.toNat={ t with e:=2 }:=by unfold aH; rw [aK h.e0,if_neg (by simp [e]),dI h.e0]
   have hb:xQ s n { t with e:=2 }:=by
    refine h.bad ?_
    by_cases aC:bt s t.p=256
    ·rw [aC]; simp [nx,cY]
    simp [nx,aC,cR,aQ,bR,e,norm]
   rw [e1]
   have:∀l':List Nat,aN s { t with e:=2 } l'={ t with e:=2 }:=by
    intro l'
    induction l' with
    | nil=>rfl
    | cons x r ih=>simp only [aN,List.foldl_cons]; rw [tJ _ hb]; exact ih
   rw [this]; exact Or.inr hb
  exact hstep l rfl
theorem Ok.le {s:List UInt8} {q c X n:Nat} {o:List UInt8} {t:St} (h:Ok s q c X o n t):t.p<=s.length:=by
 rcases h with h | h
 ·exact h.le
 exact h.er.le
theorem Ok.live {s:List UInt8} {q c X n:Nat} {o:List UInt8} {t:St} (h:Ok s q c X o n t) (he:t.e=0):Live s q c X o n t:=by
 rcases h with h | h
 ·exact h
 exact absurd he h.ne
theorem aE {s:List UInt8} {t:St} {b:Nat} (h:aj s t b=true):t.e=0/\bt s t.p=b:=by simpa [aj] using h
theorem Live.as {s:List UInt8} {q c X Y n:Nat} {o o':List UInt8} {t:St} (h:Live s q c X o n t) (e:nx (cS X o) (bt s t.p)=nx (cS Y o') (bt s t.p)):Live s q c Y o' n t :=
 ⟨h.e0,h.nn,h.le,h.ge,h.tx,h.ct,h.br,h.lv,h.ac.trans e⟩
theorem zQ {s:List UInt8} {q c n:Nat} {o:List UInt8} {t:St} (h:Ok s q c 11 o n t) (hb:aj s t 46=true):Ok s q c 11 o n (bC s (aG t)):=by
 obtain ⟨he,hb⟩:=aE hb
 exact xS (Or.inl ((h.live he).go 46 12 o hb (by omega) rfl rfl (by omega) (by omega)))
theorem zN {s:List UInt8} {q c n:Nat} {o:List UInt8} {t:St} (h:Ok s q c 11 o n t) (hb:aj s t 91=true):Ok s q c 11 o n (aH s (countP s (aG t) true) 93):=by
 obtain ⟨he,hb⟩:=aE hb
 have h1:=(h.live he).go 91 13 o hb (by omega) rfl rfl (by omega) (by omega)
 have h2:Ok s q c 14 o n (countP s (aG t) true):=by
  refine tL h1 (by omega) rfl rfl ?_ ?_
  ·intro b hb
   rw [cu (by omega) (by omega) (by have:=eo hb; omega)]
   have ji:¬b=45:=by intro e; subst e; simp [af] at hb
   simp [aD,cT,dA,cS,ji]
  intro ji hd
  by_cases aC:bt s (aG t).p=256
  ·rw [aC]; exact gN (by omega) (by omega) (by omega)
  rw [cu (by omega) (by omega) aC]
  have h48:¬bt s (aG t).p=48:=by intro e; rw [e] at hd; simp [af] at hd
  simp [aD,cT,dA,bW,cS,ji,h48,hd,norm]
 refine jM h2 (by omega) rfl rfl (by omega) (by omega) ?_
 intro _ hne
 by_cases aC:bt s (countP s (aG t) true).p=256
 ·rw [aC]; exact gN (by omega) (by omega) (by omega)
 rw [cu (by omega) (by omega) aC]
 simp [aD,cT,cS,hne,norm]
theorem Dj {o:List UInt8} {b:Nat} (hb:b≠256):nx (cS 17 o) b=norm (fB (cS 17 o) b):=by
 rw [cu (by omega) (by omega) hb]; simp [aD,cS]
theorem nS {s:List UInt8} {q c n:Nat} {o:List UInt8} {t:St} (h:Ok s q c 17 o n t) (hb:aj s t 39=true):Ok s q c 18 o n (eU s t):=by
 obtain ⟨he,hb⟩:=aE hb
 exact xT (h.live he) hb rfl (by omega) rfl
theorem qD {s:List UInt8} {q c n:Nat} {o:List UInt8} {t:St} (x a:UInt8) (l:List UInt8) (h:Ok s q c 17 o n t) (hb:aj s t x.toNat=true) (hx:nx (cS 17 o) x.toNat=⟨24,18,0,a::l,o⟩):Ok s q c 18 o n (aN s t ((x::a::l).map UInt8.toNat)):=by
 have e:aN s t ((x::a::l).map UInt8.toNat)=aN s (aG t) ((a::l).map UInt8.toNat):=by
  simp only [aN,List.map_cons,List.foldl_cons]
  have:aH s t x.toNat=aG t:=by unfold aH; rw [if_pos hb]
  rw [this]
 obtain ⟨he,hb⟩:=aE hb
 rw [e]
 exact xU l a (aG t) ((h.live he).step (by rw [hb]; exact UInt8.toNat_lt x) (by rw [hb]; exact hx) rfl (by simp) (by simp))
theorem nT {s:List UInt8} {q c n:Nat} {o:List UInt8} {t:St} (h:Ok s q c 17 o n t) (h1:aj s t 39=false) (h2:aj s t 116=false) (h3:aj s t 102=false) (h4:aj s t 110=false):Ok s q c 18 o n (countP s t true):=by
 rcases h with h | h
 ·rw [aK h.e0] at h1 h2 h3 h4
  simp only [beq_eq_false_iff_ne,ne_eq] at h1 h2 h3 h4
  refine tL h (by omega) rfl rfl ?_ ?_
  ·intro b hb
   have hlt:=eo hb
   rw [Dj (by omega)]
   simp [af] at hb
   have a1:¬b=61:=by omega
   have a2:¬b=39:=by omega
   have a3:¬b=116:=by omega
   have a4:¬b=102:=by omega
   have a5:¬b=110:=by omega
   have a6:¬b=45:=by omega
   simp [fB,dA,cS,a2,a3,a4,a5,a6]
  intro ji hd
  by_cases aC:bt s t.p=256
  ·rw [aC]; exact gN (by omega) (by omega) (by omega)
  rw [Dj aC]
  have h48:¬bt s t.p=48:=by intro e; rw [e] at hd; simp [af] at hd
  simp [fB,dA,bW,cS,h1,h2,h3,h4,ji,h48,hd,norm]
 rw [qT _ h]; exact Or.inr h
theorem ok_eq {s:List UInt8} {q c n:Nat} {o:List UInt8} {t:St} (x:Nat) (hx:x=61\/x=33) (h:Ok s q c 11 o n t) (hb:aj s t x=true):Ok s q c 17 o n (aN s t [x,61]):=by
 have e:aN s t [x,61]=aH s (aG t) 61:=by
  simp only [aN,List.foldl_cons,List.foldl_nil]
  have:aH s t x=aG t:=by unfold aH; rw [if_pos hb]
  rw [this]
 obtain ⟨he,hb⟩:=aE hb
 rw [e]
 have h1:Live s q c 15 o n (aG t):=(h.live he).go x 15 o hb (by omega) (by rcases hx with rfl | rfl<;>rfl) rfl (by omega) (by omega)
 refine jM (Or.inl h1) (by omega) rfl rfl (by omega) (by omega) ?_
 intro _ hne
 by_cases aC:bt s (aG t).p=256
 ·rw [aC]; exact gN (by omega) (by omega) (by omega)
 rw [cu (by omega) (by omega) aC]
 simp [aD,fB,cS,hne,norm]
theorem BI {s:List UInt8} {q c n:Nat} {o:List UInt8} {t:St} (h:Ok s q c 11 o n t) (hb:aj s t 60=true):Ok s q c 17 o n (has s (aN s t [60]) 61):=by
 have e:aN s t [60]=aG t:=by simp only [aN,List.foldl_cons,List.foldl_nil]; unfold aH; rw [if_pos hb]
 obtain ⟨he,hb⟩:=aE hb
 rw [e]
 have h1:Live s q c 16 o n (aG t):=(h.live he).go 60 16 o hb (by omega) rfl rfl (by omega) (by omega)
 unfold has
 rw [aK h1.e0]
 by_cases e2:bt s (aG t).p=61
 ·rw [if_pos (by simp [e2])]
  exact Or.inl (h1.go 61 17 o e2 (by omega) rfl rfl (by omega) (by omega))
 rw [if_neg (by simp [e2])]
 refine Or.inl (h1.as ?_)
 by_cases aC:bt s (aG t).p=256
 ·rw [aC,iM _ (by simp [cS]),iM _ (by simp [cS])]; rfl
 rw [cu (by omega) (by omega) aC,Dj aC]
 have e3:norm (aD (cS 16 o) (bt s (aG t).p))=norm (fB (cS 16 o) (bt s (aG t).p)):=by simp [aD,cS]
 rw [e3]
 have f1:¬(16:Nat)=15:=by omega
 have f2:¬(17:Nat)=15:=by omega
 simp only [fB,cS,e2,false_and,if_false,f1,f2]
 rfl
theorem BJ {s:List UInt8} {q c n:Nat} {o:List UInt8} {t:St} (h:Ok s q c 11 o n t) (h1:t.e=0->bt s t.p≠46/\bt s t.p≠91) (h2:aj s t 61=false) (h3:aj s t 33=false) (h4:aj s t 60=false):Ok s q c 18 o n t:=by
 rcases h with h | h
 ·obtain ⟨a1,a2⟩:=h1 h.e0
  rw [aK h.e0] at h2 h3 h4
  simp only [beq_eq_false_iff_ne,ne_eq] at h2 h3 h4
  refine Or.inl (h.as ?_)
  by_cases aC:bt s t.p=256
  ·rw [aC,iM _ (by simp [cS]),iM _ (by simp [cS])]; rfl
  rw [cu (by omega) (by omega) aC,cu (by omega) (by omega) aC]
  have e1:norm (aD (cS 11 o) (bt s t.p))=norm (aU (cS 11 o) (bt s t.p)):=by simp [aD,eC,cS,a1,a2,h2,h3,h4]
  have e2:norm (aD (cS 18 o) (bt s t.p))=norm (aU (cS 18 o) (bt s t.p)):=by simp [aD,cS]
  rw [e1,e2]
  simp only [aU,cS]
  repeat' split
  all_goals first | rfl | (simp only [bF]; repeat' split) | skip
  all_goals first | rfl | (exfalso; omega)
 exact Or.inr h
theorem Pb {s:List UInt8} {q c n:Nat} {o:List UInt8} {t:St} (h:Ok s q c 10 o n t) (h1:aj s t 33=false) (h2:aj s t 40=false):Ok s q c 11 o n (aN s t [64]):=by
 refine jM h (by omega) rfl rfl (by omega) (by omega) ?_
 intro he hne
 simp only [aj,he,BEq.rfl,Bool.true_and,beq_eq_false_iff_ne,ne_eq] at h1 h2
 by_cases aC:bt s t.p=256
 ·rw [aC]; exact gN (by omega) (by omega) (by omega)
 rw [cu (by omega) (by omega) aC]
 simp [aD,fT,cS,hne,h1,h2,norm]
end Tr
