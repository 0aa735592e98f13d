namespace Tr
def bt (s:List UInt8) (i:Nat):Nat:=match s[i]? with | some c=>c.toNat | none=>256
def isLet (b:Nat):Bool:=decide (97≤b) && decide (b≤122)
def isDig (b:Nat):Bool:=decide (48≤b) && decide (b≤57)
def isQuo (b:Nat):Bool:=isLet b || isDig b || b == 32
structure G where
 st:Nat
 bh:Nat
 sz:Nat
 rs:List UInt8
 op:List UInt8
def trimR (l:List UInt8):List UInt8:=(l.reverse.dropWhile (· == 33)).reverse
def trimS (l:List UInt8):List UInt8:=if l.getLast?=some 40 then l.dropLast else l
def gWord (g:G) (b k:Nat):G:=if isLet b then { g with st:=21,bh:=k,sz:=1 } else { g with st:=0 }
def gQuote (g:G) (k:Nat):G:={ g with st:=23,bh:=k,sz:=0 }
def gNamed (g:G) (l:List UInt8) (k:Nat):G:=if l=[] then { g with st:=k } else { g with st:=24,bh:=k,rs:=l }
def gMinus (g:G) (k:Nat):G:={ g with st:=25,bh:=k }
def gCount (g:G) (b k:Nat):G:=if b=48 then { g with st:=k } else if isDig b then { g with st:=22,bh:=k,sz:=1 } else { g with st:=0 }
def gSigned (g:G) (b k:Nat):G:=if b=45 then gMinus g k else gCount g b k
def gConst (g:G) (b:Nat):G :=
 if b=61∧g.st≠17 then { g with st:=17 } else if g.st=15 then { g with st:=0 }
 else if b=39 then gQuote g 18 else if b=116 then gNamed g [114,117,101] 18 else if b=102 then gNamed g [97,108,115,101] 18
 else if b=110 then gNamed g [117,108,108] 18 else gSigned g b 18
def gWithin (g:G) (b:Nat):G :=
 if g.st=12 then gWord g b 11 else if g.st=13 then gSigned g b 14 else if g.st=14∧b=93 then { g with st:=11 }
 else if (g.st=19∧b=38)∨(g.st=20∧b=124) then { g with st:=10 } else { g with st:=0 }
def gSelEnd (g:G) (b:Nat):G :=
 if b=44 then { g with st:=6 } else if b=93 then { g with st:=3 } else if b=58∧g.st=7 then { g with st:=8 }
 else if g.st=8 then gCount g b 9 else { g with st:=0 }
def gPartEnd (g0:G) (b:Nat):G :=
 let g:G:={ g0 with op:=trimR g0.op }
 if b=38 then { g with st:=19 } else if b=124 then { g with st:=20 }
 else if b=41∧g.op≠[] then { g with st:=18,op:=trimS g.op }
 else if g.op=[] then gSelEnd g b else { g with st:=0 }
def gStepEnd (g:G) (b:Nat):G :=
 if b=46 then { g with st:=12 } else if b=91 then { g with st:=13 } else if b=61∨b=33 then { g with st:=15 }
 else if b=60 then { g with st:=16 } else gPartEnd g b
def gPart (g:G) (b:Nat):G :=
 if b=64 then { g with st:=11 } else if b≠33∧b≠40 then { g with st:=0 } else if g.op.length=6 then { g with st:=1 }
 else { g with st:=10,op:=g.op++[UInt8.ofNat b] }
def gSelector (g:G) (b:Nat):G :=
 if b=42 then { g with st:=9 } else if b=39 then gQuote g 9 else if b=45 then gMinus g 9 else if b=58 then { g with st:=8 }
 else if b=63 then { g with st:=10 } else gCount g b 7
def gStar (g:G) (b:Nat):G:=if b=42 then { g with st:=3 } else gWord g b 3
def gSegment (g:G) (b:Nat):G :=
 if g.st=2∧b=36 then { g with st:=3 } else if g.st=3∧b=46 then { g with st:=4 }
 else if (g.st=3∧b=91)∨(g.st=5∧b=91) then { g with st:=6 } else if g.st=4∧b=46 then { g with st:=5 }
 else if g.st=4∨g.st=5 then gStar g b else { g with st:=0 }
def gBetween (g:G) (b:Nat):G :=
 if g.st=2∨g.st=3∨g.st=4∨g.st=5 then gSegment g b else if g.st=6 then gSelector g b
 else if g.st=7∨g.st=8∨g.st=9 then gSelEnd g b else if g.st=10 then gPart g b else if g.st=18 then gPartEnd g b
 else if g.st=11 then gStepEnd g b else if g.st=15∨g.st=16∨g.st=17 then gConst g b else gWithin g b
def gGoes (g:G) (b:Nat):Bool :=
 if g.st=21 then isLet b && decide (g.sz<8) else if g.st=22 then isDig b && decide (g.sz<3)
 else if g.st=23 then isQuo b && decide (g.sz<8) else false
def gInside (g:G) (b:Nat):G :=
 if gGoes g b=true then { g with sz:=g.sz+1 } else if g.st=23∧b=39 then { g with st:=g.bh }
 else if g.st=24∧b=(g.rs.headD 0).toNat then gNamed g g.rs.tail g.bh
 else if g.st=25∧isDig b=true∧b≠48 then gCount g b g.bh
 else if g.st=21∨g.st=22 then gBetween { g with st:=g.bh } b else { g with st:=0 }
def gNext (g:G) (b:Nat):G:=if 21≤g.st∧g.st≤25 then gInside g b else gBetween g b
def mayEnd (g:G):Bool:=g.st == 3 || (g.st == 21 && g.bh == 3)
def norm (g:G):G :=
 ⟨g.st,if 21≤g.st then g.bh else 0,if 21≤g.st∧g.st≤23 then g.sz else 0,if g.st=24 then g.rs else [],g.op⟩
def nx (m:G) (b:Nat):G :=
 if m.st≤1 then m else if b=256 then (if mayEnd m=true then ⟨26,0,0,[],[]⟩ else ⟨0,0,0,[],[]⟩) else norm (gNext m b)
def g0:G:=⟨2,0,0,[],[]⟩
def M (s:List UInt8):Nat→G
 | 0=>g0
 | i+1=>nx (M s i) (bt s i)
end Tr
namespace Tr
def Near (g h:G):Prop:=g.st=h.st∧g.op=h.op
theorem norm_low (st bh sz bh' sz':Nat) (rs rs' op:List UInt8) (h:st≤20):norm ⟨st,bh,sz,rs,op⟩=norm ⟨st,bh',sz',rs',op⟩:=by
 have h1:¬21≤st:=by omega
 have h2:¬st=24:=by omega
 simp [norm,h1,h2]
theorem near_word {g h:G} (n:Near g h) (b k:Nat):norm (gWord g b k)=norm (gWord h b k):=by
 obtain ⟨e1,e2⟩:=n
 unfold gWord
 split<;>simp [norm,e2]
theorem near_quote {g h:G} (n:Near g h) (k:Nat):norm (gQuote g k)=norm (gQuote h k):=by
 simp [gQuote,norm,n.2]
theorem near_minus {g h:G} (n:Near g h) (k:Nat):norm (gMinus g k)=norm (gMinus h k):=by
 simp [gMinus,norm,n.2]
theorem near_named {g h:G} (n:Near g h) (l:List UInt8) (k:Nat) (hk:k≤20):norm (gNamed g l k)=norm (gNamed h l k):=by
 unfold gNamed
 split
 ·obtain ⟨e1,e2⟩:=n; simp only [e2]; exact norm_low _ _ _ _ _ _ _ _ hk
 simp [norm,n.2]
theorem near_count {g h:G} (n:Near g h) (b k:Nat) (hk:k≤20):norm (gCount g b k)=norm (gCount h b k):=by
 unfold gCount
 obtain ⟨e1,e2⟩:=n
 simp only [e2]
 split
 ·exact norm_low _ _ _ _ _ _ _ _ hk
 split
 ·simp [norm]
 exact norm_low _ _ _ _ _ _ _ _ (by omega)
theorem near_signed {g h:G} (n:Near g h) (b k:Nat) (hk:k≤20):norm (gSigned g b k)=norm (gSigned h b k):=by
 unfold gSigned
 split
 ·exact near_minus n k
 exact near_count n b k hk
theorem near_set {g h:G} (n:Near g h) (k:Nat) (hk:k≤20):norm { g with st:=k }=norm { h with st:=k }:=by
 simp only [n.2]; exact norm_low _ _ _ _ _ _ _ _ hk
theorem near_const {g h:G} (n:Near g h) (b:Nat):norm (gConst g b)=norm (gConst h b):=by
 unfold gConst
 rw [n.1]
 split
 ·exact near_set n _ (by omega)
 split
 ·exact near_set n _ (by omega)
 split
 ·exact near_quote n _
 split
 ·exact near_named n _ _ (by omega)
 split
 ·exact near_named n _ _ (by omega)
 split
 ·exact near_named n _ _ (by omega)
 exact near_signed n _ _ (by omega)
theorem near_within {g h:G} (n:Near g h) (b:Nat):norm (gWithin g b)=norm (gWithin h b):=by
 unfold gWithin
 rw [n.1]
 repeat' split
 all_goals first | exact near_word n _ _ | exact near_signed n _ _ (by omega) | exact near_set n _ (by omega)
theorem near_selEnd {g h:G} (n:Near g h) (b:Nat):norm (gSelEnd g b)=norm (gSelEnd h b):=by
 unfold gSelEnd
 rw [n.1]
 repeat' split
 all_goals first | exact near_count n _ _ (by omega) | exact near_set n _ (by omega)
theorem near_partEnd {g h:G} (n:Near g h) (b:Nat):norm (gPartEnd g b)=norm (gPartEnd h b):=by
 unfold gPartEnd
 have n':Near { g with op:=trimR g.op } { h with op:=trimR h.op }:=⟨n.1,by rw [n.2]⟩
 rw [n.2] at n' ⊢
 simp only
 split
 ·exact near_set n' _ (by omega)
 split
 ·exact near_set n' _ (by omega)
 split
 ·exact norm_low _ _ _ _ _ _ _ _ (by omega)
 split
 ·exact near_selEnd n' _
 exact near_set n' _ (by omega)
theorem near_stepEnd {g h:G} (n:Near g h) (b:Nat):norm (gStepEnd g b)=norm (gStepEnd h b):=by
 unfold gStepEnd
 repeat' split
 all_goals first | exact near_partEnd n _ | exact near_set n _ (by omega)
theorem near_part {g h:G} (n:Near g h) (b:Nat):norm (gPart g b)=norm (gPart h b):=by
 unfold gPart
 rw [n.2]
 repeat' split
 all_goals first | (exact norm_low _ _ _ _ _ _ _ _ (by omega))
theorem near_selector {g h:G} (n:Near g h) (b:Nat):norm (gSelector g b)=norm (gSelector h b):=by
 unfold gSelector
 repeat' split
 all_goals first | exact near_quote n _ | exact near_minus n _ | exact near_count n _ _ (by omega) | exact near_set n _ (by omega)
theorem near_star {g h:G} (n:Near g h) (b:Nat):norm (gStar g b)=norm (gStar h b):=by
 unfold gStar
 split
 ·exact near_set n _ (by omega)
 exact near_word n _ _
theorem near_segment {g h:G} (n:Near g h) (b:Nat):norm (gSegment g b)=norm (gSegment h b):=by
 unfold gSegment
 rw [n.1]
 repeat' split
 all_goals first | exact near_star n _ | exact near_set n _ (by omega)
theorem near_between {g h:G} (n:Near g h) (b:Nat):norm (gBetween g b)=norm (gBetween h b):=by
 unfold gBetween
 rw [n.1]
 repeat' split
 ·exact near_segment n b
 ·exact near_selector n b
 ·exact near_selEnd n b
 ·exact near_part n b
 ·exact near_partEnd n b
 ·exact near_stepEnd n b
 ·exact near_const n b
 exact near_within n b
theorem norm_st (g:G):(norm g).st=g.st:=rfl
theorem near_norm (g:G):Near g (norm g):=⟨rfl,rfl⟩
theorem norm_next (g:G) (b:Nat) (hb:g.bh≤20):norm (gNext g b)=norm (gNext (norm g) b):=by
 unfold gNext
 rw [norm_st]
 split
 ·rename_i h
  obtain ⟨st,bh,sz,rs,op⟩:=g
  simp only at h hb
  have hn:norm ⟨st,bh,sz,rs,op⟩=⟨st,bh,if 21≤st∧st≤23 then sz else 0,if st=24 then rs else [],op⟩:=by
   simp [norm,h.1]
  rw [hn]
  have hc:st=21∨st=22∨st=23∨st=24∨st=25:=by omega
  rcases hc with rfl | rfl | rfl | rfl | rfl
  ·simp [gInside,gGoes]
   split
   ·rfl
   exact near_between (by exact ⟨rfl,rfl⟩) b
  ·simp [gInside,gGoes]
   split
   ·rfl
   exact near_between (by exact ⟨rfl,rfl⟩) b
  ·simp [gInside,gGoes]
   repeat' split
   ·rfl
   ·exact norm_low _ _ _ _ _ _ _ _ hb
   rfl
  ·simp [gInside,gGoes]
   split
   ·exact near_named (by exact ⟨rfl,rfl⟩) _ _ hb
   rfl
  simp [gInside,gGoes]
  split
  ·exact near_count (by exact ⟨rfl,rfl⟩) _ _ hb
  rfl
 exact near_between (near_norm g) b
end Tr
namespace Tr
structure St where
 p:Nat
 e:Nat
 n:Nat
def sees (s:List UInt8) (t:St) (b:Nat):Bool:=t.e == 0 && bt s t.p == b
def adv (t:St):St:={ t with p:=t.p+1 }
def wrong (t:St) (e:Nat):St:=if t.e=0 then { t with e:=e } else t
def has (s:List UInt8) (t:St) (b:Nat):St:=if sees s t b=true then adv t else t
def must1 (s:List UInt8) (t:St) (b:Nat):St:=if sees s t b=true then adv t else wrong t 2
def must (s:List UInt8) (t:St) (l:List Nat):St:=l.foldl (must1 s) t
def digit (s:List UInt8) (t:St):Bool:=t.e == 0 && isDig (bt s t.p)
def run (ok:Nat→Bool) (s:List UInt8):Nat→Nat→Nat
 | 0,p=>p
 | k+1,p=>if ok (bt s p)=true then run ok s k (p+1) else p
def wordP (s:List UInt8) (t:St):St :=
 if t.e=0 then (if run isLet s 8 t.p=t.p then { t with e:=2 } else { t with p:=run isLet s 8 t.p }) else t
def runP (ok:Nat→Bool) (s:List UInt8) (k:Nat) (t:St):St:=if t.e=0 then { t with p:=run ok s k t.p } else t
def quoteP (s:List UInt8) (t:St):St:=must1 s (runP isQuo s 8 (must1 s t 39)) 39
def minusP (s:List UInt8) (t:St) (m:Bool):St:=if m=true then has s t 45 else t
def countQ (s:List UInt8) (t:St) (minus:Bool):St :=
 if digit s t=false∨(minus=true∧sees s t 48=true) then wrong t 2
 else if sees s t 48=true then adv t else runP isDig s 3 t
def countP (s:List UInt8) (t:St) (m:Bool):St:=countQ s (minusP s t m) (m && sees s t 45)
theorem isLet_lt {b:Nat} (h:isLet b=true):b<256:=by simp [isLet] at h; omega
theorem isDig_lt {b:Nat} (h:isDig b=true):b<256:=by simp [isDig] at h; omega
theorem isQuo_lt {b:Nat} (h:isQuo b=true):b<256:=by simp [isQuo,isLet,isDig] at h; omega
theorem bt_lt {s:List UInt8} {p:Nat} (h:bt s p<256):p<s.length:=by
 unfold bt at h
 split at h
 ·rename_i c hc; exact (List.getElem?_eq_some_iff.1 hc).1
 omega
theorem bt_end {s:List UInt8} {p:Nat} (h:s.length≤p):bt s p=256:=by
 unfold bt; rw [List.getElem?_eq_none h]
theorem bt_in {s:List UInt8} {p:Nat} (h:p<s.length):bt s p<256:=by
 unfold bt; rw [List.getElem?_eq_getElem h]; exact UInt8.toNat_lt _
theorem run_ge (ok:Nat→Bool) (s:List UInt8):∀k p,p≤run ok s k p
 | 0,p=>Nat.le_refl _
 | k+1,p=>by unfold run; split; have:=run_ge ok s k (p+1); omega; exact Nat.le_refl _
theorem run_le (ok:Nat→Bool) (s:List UInt8):∀k p,run ok s k p≤p+k
 | 0,p=>Nat.le_refl _
 | k+1,p=>by unfold run; split; have:=run_le ok s k (p+1); omega; omega
theorem run_ok (ok:Nat→Bool) (s:List UInt8):∀k p i,p≤i→i<run ok s k p→ok (bt s i)=true
 | 0,p,i,h1,h2=>by unfold run at h2; omega
 | k+1,p,i,h1,h2=>by
  unfold run at h2
  split at h2
  ·by_cases e:i=p
   ·subst e; assumption
   exact run_ok ok s k (p+1) i (by omega) h2
  omega
theorem run_stop (ok:Nat→Bool) (s:List UInt8):∀k p,run ok s k p=p+k∨ok (bt s (run ok s k p))=false
 | 0,p=>Or.inl rfl
 | k+1,p=>by
  unfold run; split
  ·rcases run_stop ok s k (p+1) with h | h
   ·left; omega
   right; exact h
  rename_i h; right; simpa using h
theorem run_len {ok:Nat→Bool} {s:List UInt8} (hok:∀b,ok b=true→b<256) (k p:Nat) (hp:p≤s.length):run ok s k p≤s.length:=by
 by_cases h:run ok s k p=p
 ·omega
 have h1:=run_ge ok s k p
 have h2:=run_ok ok s k p (run ok s k p - 1) (by omega) (by omega)
 have:=bt_lt (hok _ h2)
 omega
end Tr
namespace Tr
def cS (X:Nat) (o:List UInt8):G:=⟨X,0,0,[],o⟩
def inB (m:G):Bool:=!(m.st == 2 || m.st == 3 || m.st == 4 || m.st == 5 || (m.st == 21 && m.bh == 3))
def out (m:G) (b:Nat):List UInt8 :=
 if m.st=4∨m.st=5 then (if b=46 then [46,46] else if b=42 then [91,42,93] else if b=91 then [91] else [91,39,UInt8.ofNat b])
 else if m.st=3 then (if b=46∨b=256 then [] else [UInt8.ofNat b])
 else if m.st=21∧m.bh=3 then (if gGoes m b=true then [UInt8.ofNat b] else if b=46∨b=256 then [39,93] else [39,93,UInt8.ofNat b])
 else [UInt8.ofNat b]
def T (s:List UInt8):Nat→List UInt8
 | 0=>[]
 | i+1=>T s i++out (M s i) (bt s i)
def inc (m:G) (b:Nat):Nat:=if (nx m b).st=6 then 1 else if (m.st=4∨m.st=5)∧((nx m b).st=3∨(nx m b).st=21) then 1 else 0
def C (s:List UInt8):Nat→Nat
 | 0=>0
 | i+1=>C s i+inc (M s i) (bt s i)
def sub (s:List UInt8) (q p:Nat):List UInt8:=(s.drop q).take (p - q)
theorem sub_self (s:List UInt8) (q:Nat):sub s q q=[]:=by simp [sub]
theorem sub_snoc {s:List UInt8} {q p:Nat} (h:q≤p) (hb:bt s p<256):sub s q (p+1)=sub s q p++[UInt8.ofNat (bt s p)]:=by
 have hp:=bt_lt hb
 unfold sub
 have e:p+1 - q=(p - q)+1:=by omega
 have hl:p - q<(s.drop q).length:=by simp; omega
 rw [e,List.take_succ_eq_append_getElem hl]
 congr 1
 have:(s.drop q)[p - q]=s[p]:=by simp [Nat.add_sub_cancel' h]
 rw [this]
 simp [bt,List.getElem?_eq_getElem hp]
theorem sub_trans {s:List UInt8} {a b c:Nat} (h1:a≤b) (h2:b≤c):sub s a c=sub s a b++sub s b c:=by
 unfold sub
 have e:c - a=(b - a)+(c - b):=by omega
 rw [e,List.take_add,List.drop_drop]
 have:a+(b - a)=b:=by omega
 rw [this]
structure Err (s:List UInt8) (e p:Nat):Prop where
 lv:2≤(M s p).st
 st:(M s (p+1)).st+2=e
 le:p≤s.length
 e3:e≤3
structure Mid (s:List UInt8) (q c n:Nat) (m:G) (t:St):Prop where
 e0:t.e=0
 nn:t.n=n
 le:t.p≤s.length
 ge:q≤t.p
 tx:T s t.p=T s q++sub s q t.p
 ct:C s t.p=c
 br:inB m=true
 lv:2≤m.st
 mm:M s t.p=m
structure Live (s:List UInt8) (q c X:Nat) (o:List UInt8) (n:Nat) (t:St):Prop where
 e0:t.e=0
 nn:t.n=n
 le:t.p≤s.length
 ge:q≤t.p
 tx:T s t.p=T s q++sub s q t.p
 ct:C s t.p=c
 br:inB (M s t.p)=true
 lv:2≤(M s t.p).st
 ac:nx (M s t.p) (bt s t.p)=nx (cS X o) (bt s t.p)
structure Bad (s:List UInt8) (n:Nat) (t:St):Prop where
 ne:¬t.e=0
 nn:t.n=n
 er:Err s t.e t.p
def Ok (s:List UInt8) (q c X:Nat) (o:List UInt8) (n:Nat) (t:St):Prop:=Live s q c X o n t∨Bad s n t
theorem out_inB {m:G} {b:Nat} (h:inB m=true):out m b=[UInt8.ofNat b]:=by
 simp [inB] at h
 unfold out
 rw [if_neg (by omega),if_neg (by omega),if_neg]
 intro h2; omega
theorem inc_inB {m:G} {b:Nat} (h:inB m=true) (h6:(nx m b).st≠6):inc m b=0:=by
 simp [inB] at h
 unfold inc
 rw [if_neg h6,if_neg (by omega)]
theorem byte_step {s:List UInt8} {q c n:Nat} {t:St} {m':G} (e0:t.e=0) (nn:t.n=n) (ge:q≤t.p) (tx:T s t.p=T s q++sub s q t.p) (ct:C s t.p=c)
 (br:inB (M s t.p)=true) (hb:bt s t.p<256) (hm:nx (M s t.p) (bt s t.p)=m') (hbr:inB m'=true) (hlv:2≤m'.st) (h6:m'.st≠6):Mid s q c n m' (adv t) where
 e0:=e0
 nn:=nn
 le:=by have:=bt_lt hb; simp [adv]; omega
 ge:=by simp [adv]; omega
 tx:=by
  show T s (t.p+1)=_
  simp only [T,adv]
  rw [tx,out_inB br,sub_snoc ge hb,List.append_assoc]
 ct:=by
  show C s (t.p+1)=_
  simp only [C]
  rw [ct,inc_inB br (by rw [hm]; exact h6)]
  rfl
 br:=hbr
 lv:=hlv
 mm:=by show M s (t.p+1)=_; simp only [M]; exact hm
theorem Mid.step {s:List UInt8} {q c n:Nat} {m:G} {t:St} (h:Mid s q c n m t) {m':G} (hb:bt s t.p<256) (hm:nx m (bt s t.p)=m') (hbr:inB m'=true) (hlv:2≤m'.st) (h6:m'.st≠6):Mid s q c n m' (adv t) :=
 byte_step h.e0 h.nn h.ge h.tx h.ct (by rw [h.mm]; exact h.br) hb (by rw [h.mm]; exact hm) hbr hlv h6
theorem Live.step {s:List UInt8} {q c n X:Nat} {o:List UInt8} {t:St} (h:Live s q c X o n t) {m':G} (hb:bt s t.p<256) (hm:nx (cS X o) (bt s t.p)=m') (hbr:inB m'=true) (hlv:2≤m'.st) (h6:m'.st≠6):Mid s q c n m' (adv t) :=
 byte_step h.e0 h.nn h.ge h.tx h.ct h.br hb (by rw [h.ac]; exact hm) hbr hlv h6
theorem Mid.live {s:List UInt8} {q c n X:Nat} {m:G} {o:List UInt8} {t:St} (h:Mid s q c n m t) (hm:nx m (bt s t.p)=nx (cS X o) (bt s t.p)):Live s q c X o n t :=
 ⟨h.e0,h.nn,h.le,h.ge,h.tx,h.ct,by rw [h.mm]; exact h.br,by rw [h.mm]; exact h.lv,by rw [h.mm]; exact hm⟩
theorem Mid.same {s:List UInt8} {q c n X:Nat} {o:List UInt8} {t:St} (h:Mid s q c n (cS X o) t):Live s q c X o n t:=h.live rfl
theorem Live.go {s:List UInt8} {q c n X:Nat} {o:List UInt8} {t:St} (h:Live s q c X o n t) (b Y:Nat) (o':List UInt8) (hb:bt s t.p=b) (h256:b<256) (hm:nx (cS X o) b=cS Y o') (hbr:inB (cS Y o')=true) (hlv:2≤Y) (h6:Y≠6):Live s q c Y o' n (adv t) :=
 (h.step (by omega) (by rw [hb]; exact hm) hbr hlv h6).same
theorem Live.bad {s:List UInt8} {q c n X:Nat} {o:List UInt8} {t:St} (h:Live s q c X o n t) (k:Nat) (hk:k≤1) (hm:(nx (cS X o) (bt s t.p)).st=k):Bad s n { t with e:=k+2 } where
 ne:=by simp
 nn:=h.nn
 er:=⟨h.lv,by show (M s (t.p+1)).st+2=k+2; simp only [M]; rw [h.ac,hm],h.le,by simp; omega⟩
theorem Mid.bad {s:List UInt8} {q c n:Nat} {m:G} {t:St} (h:Mid s q c n m t) (hm:(nx m (bt s t.p)).st=0):Bad s n { t with e:=2 } where
 ne:=by simp
 nn:=h.nn
 er:=⟨by rw [h.mm]; exact h.lv,by show (M s (t.p+1)).st+2=2; simp only [M]; rw [h.mm,hm],h.le,by simp⟩
theorem wrong_of {t:St} (h:t.e=0) (e:Nat):wrong t e={ t with e:=e }:=by simp [wrong,h]
theorem wrong_bad {s:List UInt8} {n:Nat} {t:St} (h:Bad s n t) (e:Nat):wrong t e=t:=by simp [wrong,h.ne]
theorem sees_bad {s:List UInt8} {n:Nat} {t:St} (h:Bad s n t) (b:Nat):sees s t b=false:=by simp [sees,h.ne]
theorem sees_live {s:List UInt8} {t:St} (h:t.e=0) (b:Nat):sees s t b=(bt s t.p == b):=by simp [sees,h]
theorem ok_must1 {s:List UInt8} {q c n X Y:Nat} {o o':List UInt8} {t:St} {b:Nat} (h:Ok s q c X o n t) (hb:b<256) (hm:nx (cS X o) b=cS Y o') (hbr:inB (cS Y o')=true) (hlv:2≤Y) (h6:Y≠6)
 (hno:t.e=0→bt s t.p≠b→(nx (cS X o) (bt s t.p)).st=0):Ok s q c Y o' n (must1 s t b):=by
 rcases h with h | h
 ·unfold must1
  rw [sees_live h.e0]
  by_cases e:bt s t.p=b
  ·rw [if_pos (by simp [e])]; exact Or.inl (h.go b Y o' e hb hm hbr hlv h6)
  rw [if_neg (by simp [e]),wrong_of h.e0]; exact Or.inr (h.bad 0 (by omega) (hno h.e0 e))
 unfold must1
 rw [sees_bad h,if_neg (by simp),wrong_bad h]; exact Or.inr h
/-! ### Words, quotes, counts -/
theorem Mid.run {s:List UInt8} {q c n ty K z mx:Nat} {o:List UInt8} {ok:Nat→Bool} (hty:(ty=21∧ok=isLet∧mx=8)∨(ty=22∧ok=isDig∧mx=3)∨(ty=23∧ok=isQuo∧mx=8)) (hK:¬(ty=21∧K=3)) :
 ∀j t,Mid s q c n ⟨ty,K,z,[],o⟩ t→(∀i,i<j→ok (bt s (t.p+i))=true)→z+j≤mx→Mid s q c n ⟨ty,K,z+j,[],o⟩ { t with p:=t.p+j }
 | 0,t,h,_,_=>h
 | j+1,t,h,hj,hz=>by
  have h1:=Mid.run hty hK j t h (fun i hi=>hj i (by omega)) (by omega)
  have hb:=hj j (by omega)
  have hlt:bt s (t.p+j)<256:=by
   rcases hty with ⟨_,rfl,_⟩ | ⟨_,rfl,_⟩ | ⟨_,rfl,_⟩
   ·exact isLet_lt hb
   ·exact isDig_lt hb
   exact isQuo_lt hb
  have:=h1.step (m':=⟨ty,K,z+j+1,[],o⟩) (by exact hlt) (by
   show nx ⟨ty,K,z+j,[],o⟩ (bt s (t.p+j))=_
   have h256:¬bt s (t.p+j)=256:=by omega
   have hg:gGoes ⟨ty,K,z+j,[],o⟩ (bt s (t.p+j))=true:=by
    rcases hty with ⟨rfl,rfl,rfl⟩ | ⟨rfl,rfl,rfl⟩ | ⟨rfl,rfl,rfl⟩<;>simp [gGoes,hb]<;>omega
   unfold nx
   rw [if_neg (by simp only; omega),if_neg h256]
   unfold gNext
   rw [if_pos (by simp only; omega)]
   unfold gInside
   rw [if_pos hg]
   unfold norm
   simp only
   rw [if_pos (by omega),if_pos (by omega),if_neg (by omega)]) (by
    have:=h.br; simp [inB] at this ⊢; omega) (by simp only; omega) (by simp only; omega)
  exact this
theorem nx256 (m:G) (h:¬m.st≤1):nx m 256=if mayEnd m=true then ⟨26,0,0,[],[]⟩ else ⟨0,0,0,[],[]⟩:=by
 unfold nx; rw [if_neg h,if_pos rfl]
theorem acts_end {ty K z mx:Nat} {o:List UInt8} {ok:Nat→Bool} (hty:(ty=21∧ok=isLet∧mx=8)∨(ty=22∧ok=isDig∧mx=3)) (hK:2≤K∧K≤20) (hK3:ty=22→K≠3) (b:Nat) (hb:z=mx∨ok b=false) :
 nx ⟨ty,K,z,[],o⟩ b=nx (cS K o) b:=by
 by_cases h256:b=256
 ·subst h256
  have e1:mayEnd ⟨ty,K,z,[],o⟩=mayEnd (cS K o):=by
   rcases hty with ⟨rfl,_,_⟩ | ⟨rfl,_,_⟩
   ·simp [mayEnd,cS]
   have h1:=hK3 rfl
   simp [mayEnd,cS,h1]
  have h1:¬ty≤1:=by omega
  have h2:¬K≤1:=by omega
  rw [nx256 _ h1,nx256 (cS K o) h2,e1]
 have hg:gGoes ⟨ty,K,z,[],o⟩ b=false:=by
  rcases hty with ⟨rfl,rfl,rfl⟩ | ⟨rfl,rfl,rfl⟩<;>rcases hb with rfl | hb<;>simp [gGoes, *]
 unfold nx
 rw [if_neg (by simp only; omega),if_neg h256,if_neg (by simp only [cS]; omega),if_neg h256]
 unfold gNext
 rw [if_pos (by simp only; omega),if_neg (by simp only [cS]; omega)]
 unfold gInside
 rw [if_neg (by rw [hg]; simp),if_neg (by simp only; omega),if_neg (by simp only; omega),if_neg (by simp only; omega),if_pos (by simp only; omega)]
 exact near_between (by exact ⟨rfl,rfl⟩) b
end Tr
namespace Tr
theorem nx_low {X:Nat} {o:List UInt8} {b:Nat} (hX:2≤X) (hX2:X≤20) (hb:b≠256):nx (cS X o) b=norm (gBetween (cS X o) b):=by
 have h1:¬X≤1:=by omega
 have h2:¬(21≤X∧X≤25):=by omega
 simp only [nx,cS,h1,hb,if_false,gNext,h2]
theorem nx_end {X:Nat} {o:List UInt8} (hX:2≤X) (_hX2:X≤20) (h3:X≠3):(nx (cS X o) 256).st=0:=by
 have h1:¬X≤1:=by omega
 simp [nx,cS,h1,mayEnd,h3]
theorem norm_cS {g:G} (h:g.st≤20):norm g=cS g.st g.op:=by
 have h1:¬21≤g.st:=by omega
 have h2:¬g.st=24:=by omega
 simp [norm,cS,h1,h2]
theorem adv_p (t:St):(adv t).p=t.p+1:=rfl
theorem mid_word {s:List UInt8} {q c n K:Nat} {o:List UInt8} {t:St} (h:Mid s q c n ⟨21,K,1,[],o⟩ (adv t)) (hK:4≤K∧K≤20) (hl:isLet (bt s t.p)=true) (he:t.e=0):Live s q c K o n (wordP s t):=by
 have hr:run isLet s 8 t.p=run isLet s 7 (t.p+1):=by rw [run,if_pos hl]
 have hge:=run_ge isLet s 7 (t.p+1)
 have hle:=run_le isLet s 7 (t.p+1)
 have hok:=run_ok isLet s 7 (t.p+1)
 have hst:=run_stop isLet s 7 (t.p+1)
 have hw:wordP s t={ adv t with p:=(adv t).p+(run isLet s 7 (t.p+1) - (t.p+1)) }:=by
  unfold wordP
  rw [if_pos he,hr,if_neg (by omega)]
  simp only [adv]
  congr 1; omega
 have h2:=Mid.run (ty:=21) (mx:=8) (ok:=isLet) (Or.inl ⟨rfl,rfl,rfl⟩) (by omega) (run isLet s 7 (t.p+1) - (t.p+1)) (adv t) h (fun i hi=>hok _ (by simp [adv]) (by simp [adv]; omega)) (by omega)
 rw [hw]
 refine h2.live (acts_end (Or.inl ⟨rfl,rfl,rfl⟩) (by omega) (by omega) _ ?_)
 rcases hst with h3 | h3
 ·left; omega
 right
 have:(adv t).p+(run isLet s 7 (t.p+1) - (t.p+1))=run isLet s 7 (t.p+1):=by simp [adv]; omega
 simp only [this]; exact h3
theorem wordP_no {s:List UInt8} {t:St} (he:t.e=0) (hl:isLet (bt s t.p)=false):wordP s t={ t with e:=2 }:=by
 unfold wordP
 rw [if_pos he,if_pos]
 rw [run,if_neg (by simp [hl])]
theorem wordP_bad {s:List UInt8} {n:Nat} {t:St} (h:Bad s n t):wordP s t=t:=by unfold wordP; rw [if_neg h.ne]
theorem ok_stepWord {s:List UInt8} {q c n:Nat} {o:List UInt8} {t:St} (h:Ok s q c 12 o n t):Ok s q c 11 o n (wordP s t):=by
 rcases h with h | h
 ·cases hl:isLet (bt s t.p)
  ·rw [wordP_no h.e0 hl]
   refine Or.inr (h.bad 0 (by omega) ?_)
   by_cases h256:bt s t.p=256
   ·rw [h256]; exact nx_end (by omega) (by omega) (by omega)
   rw [nx_low (by omega) (by omega) h256]
   simp [gBetween,gWithin,gWord,cS,hl,norm]
  refine Or.inl (mid_word (h.step (isLet_lt hl) ?_ (by simp [inB]) (by simp) (by simp)) (by omega) hl h.e0)
  rw [nx_low (by omega) (by omega) (by have:=isLet_lt hl; omega)]
  simp [gBetween,gWithin,gWord,cS,hl,norm]
 rw [wordP_bad h]; exact Or.inr h
theorem mid_quote {s:List UInt8} {q c n K:Nat} {o:List UInt8} {t:St} (h:Mid s q c n ⟨23,K,0,[],o⟩ t) (hK:4≤K∧K≤20∧K≠6) (hin:inB (cS K o)=true):Ok s q c K o n (must1 s (runP isQuo s 8 t) 39):=by
 have hge:=run_ge isQuo s 8 t.p
 have hle:=run_le isQuo s 8 t.p
 have hok:=run_ok isQuo s 8 t.p
 have hst:=run_stop isQuo s 8 t.p
 obtain ⟨j,hj⟩:∃j,run isQuo s 8 t.p=t.p+j:=⟨run isQuo s 8 t.p - t.p,by omega⟩
 have hp:runP isQuo s 8 t={ t with p:=t.p+j }:=by
  unfold runP; rw [if_pos h.e0,hj]
 have h2:=Mid.run (ty:=23) (mx:=8) (ok:=isQuo) (Or.inr (Or.inr ⟨rfl,rfl,rfl⟩)) (by omega) j t h (fun i hi=>hok _ (by omega) (by omega)) (by omega)
 rw [← hp] at h2
 have hup:(runP isQuo s 8 t).p=run isQuo s 8 t.p:=by rw [hp,hj]
 generalize runP isQuo s 8 t=u at *
 unfold must1
 rw [sees_live h2.e0]
 by_cases e:bt s u.p=39
 ·rw [if_pos (by simp [e])]
  left
  refine (h2.step (m':=cS K o) (by omega) ?_ hin (by simp [cS]; omega) (by simp [cS]; omega)).same
  rw [e]
  simp [nx,gNext,gInside,gGoes,isQuo,isLet,isDig]
  exact norm_cS (by simp only; omega)
 rw [if_neg (by simp [e]),wrong_of h2.e0]
 right
 refine h2.bad ?_
 by_cases h256:bt s u.p=256
 ·rw [h256]; simp [nx,mayEnd]
 have hg:gGoes ⟨23,K,0+j,[],o⟩ (bt s u.p)=false:=by
  rcases hst with h3 | h3
  ·have:j=8:=by omega
   subst this; simp [gGoes]
  rw [← hup] at h3; simp [gGoes,h3]
 simp only [nx,h256,gNext,gInside,hg,e]
 simp [norm]
theorem must1_bad {s:List UInt8} {n:Nat} {t:St} (b:Nat) (h:Bad s n t):must1 s t b=t:=by unfold must1; rw [sees_bad h,if_neg (by simp),wrong_bad h]
theorem ok_quote {s:List UInt8} {q c n X K:Nat} {o:List UInt8} {t:St} (h:Live s q c X o n t) (hb:bt s t.p=39) (hX:nx (cS X o) 39=⟨23,K,0,[],o⟩) (hK:4≤K∧K≤20∧K≠6) (hin:inB (cS K o)=true):Ok s q c K o n (quoteP s t):=by
 unfold quoteP
 have e:must1 s t 39=adv t:=by unfold must1; rw [sees_live h.e0,hb]; rfl
 rw [e]
 exact mid_quote (h.step (by omega) (by rw [hb]; exact hX) (by simp [inB]) (by simp) (by simp)) hK hin
theorem ok_countQ {s:List UInt8} {q c n X K:Nat} {o:List UInt8} {t:St} (h:Live s q c X o n t) (hK:4≤K∧K≤20∧K≠6) (hin:inB (cS K o)=true)
 (hX:∀b,isDig b=true→nx (cS X o) b=norm (gCount (cS X o) b K)) (hN:isDig (bt s t.p)=false→(nx (cS X o) (bt s t.p)).st=0):Ok s q c K o n (countQ s t false):=by
 unfold countQ
 have hd:digit s t=isDig (bt s t.p):=by simp [digit,h.e0]
 rw [hd,sees_live h.e0]
 cases hi:isDig (bt s t.p)
 ·rw [if_pos (Or.inl rfl),wrong_of h.e0]
  exact Or.inr (h.bad 0 (by omega) (hN hi))
 rw [if_neg (by simp)]
 have hlt:=isDig_lt hi
 by_cases h0:bt s t.p=48
 ·rw [if_pos (by simp [h0])]
  left
  refine (h.step (m':=cS K o) hlt ?_ hin (by simp [cS]; omega) (by simp [cS]; omega)).same
  rw [hX _ hi,h0]
  simp [gCount]
  exact norm_cS (by simp only; omega)
 rw [if_neg (by simp [h0])]
 have hm:=h.step (m':=⟨22,K,1,[],o⟩) hlt (by
  rw [hX _ hi]
  simp [gCount,h0,hi,norm,cS]) (by simp [inB]) (by simp) (by simp)
 have hr:run isDig s 3 t.p=run isDig s 2 (t.p+1):=by rw [run,if_pos hi]
 have hge:=run_ge isDig s 2 (t.p+1)
 have hle:=run_le isDig s 2 (t.p+1)
 have hok:=run_ok isDig s 2 (t.p+1)
 have hst:=run_stop isDig s 2 (t.p+1)
 have hw:runP isDig s 3 t={ adv t with p:=(adv t).p+(run isDig s 2 (t.p+1) - (t.p+1)) }:=by
  unfold runP
  rw [if_pos h.e0,hr]
  simp only [adv]
  congr 1; omega
 have h2:=Mid.run (ty:=22) (mx:=3) (ok:=isDig) (Or.inr (Or.inl ⟨rfl,rfl,rfl⟩)) (by omega) (run isDig s 2 (t.p+1) - (t.p+1)) (adv t) hm (fun i hi=>hok _ (by simp [adv]) (by simp [adv]; omega)) (by omega)
 rw [hw]
 left
 refine h2.live (acts_end (Or.inr ⟨rfl,rfl,rfl⟩) (by omega) (by omega) _ ?_)
 rcases hst with h3 | h3
 ·left; omega
 right
 have:(adv t).p+(run isDig s 2 (t.p+1) - (t.p+1))=run isDig s 2 (t.p+1):=by simp [adv]; omega
 simp only [this]; exact h3
theorem ok_countM {s:List UInt8} {q c n K:Nat} {o:List UInt8} {t:St} (h:Mid s q c n ⟨25,K,0,[],o⟩ t) (hK:4≤K∧K≤20∧K≠6):Ok s q c K o n (countQ s t true):=by
 unfold countQ
 have hd:digit s t=isDig (bt s t.p):=by simp [digit,h.e0]
 rw [hd,sees_live h.e0]
 by_cases hi:isDig (bt s t.p)=true∧bt s t.p≠48
 ·obtain ⟨hi,h0⟩:=hi
  rw [if_neg (by simp [hi,h0]),if_neg (by simp [h0])]
  have hlt:=isDig_lt hi
  have hm:=h.step (m':=⟨22,K,1,[],o⟩) hlt (by
   have h256:¬bt s t.p=256:=by omega
   simp [nx,h256,gNext,gInside,gGoes,hi,h0,gCount,norm]) (by simp [inB]) (by simp) (by simp)
  have hr:run isDig s 3 t.p=run isDig s 2 (t.p+1):=by rw [run,if_pos hi]
  have hge:=run_ge isDig s 2 (t.p+1)
  have hle:=run_le isDig s 2 (t.p+1)
  have hok:=run_ok isDig s 2 (t.p+1)
  have hst:=run_stop isDig s 2 (t.p+1)
  have hw:runP isDig s 3 t={ adv t with p:=(adv t).p+(run isDig s 2 (t.p+1) - (t.p+1)) }:=by
   unfold runP
   rw [if_pos h.e0,hr]
   simp only [adv]
   congr 1; omega
  have h2:=Mid.run (ty:=22) (mx:=3) (ok:=isDig) (Or.inr (Or.inl ⟨rfl,rfl,rfl⟩)) (by omega) (run isDig s 2 (t.p+1) - (t.p+1)) (adv t) hm (fun i hi=>hok _ (by simp [adv]) (by simp [adv]; omega)) (by omega)
  rw [hw]
  left
  refine h2.live (acts_end (Or.inr ⟨rfl,rfl,rfl⟩) (by omega) (by omega) _ ?_)
  rcases hst with h3 | h3
  ·left; omega
  right
  have:(adv t).p+(run isDig s 2 (t.p+1) - (t.p+1))=run isDig s 2 (t.p+1):=by simp [adv]; omega
  simp only [this]; exact h3
 rw [if_pos (by
  cases hj:isDig (bt s t.p)
  ·exact Or.inl rfl
  right; refine ⟨rfl,?_⟩
  have:bt s t.p=48:=by
   by_cases e:bt s t.p=48
   ·exact e
   exact absurd ⟨hj,e⟩ hi
  simp [this]),wrong_of h.e0]
 right
 refine h.bad ?_
 by_cases h256:bt s t.p=256
 ·rw [h256]; simp [nx,mayEnd]
 unfold nx
 rw [if_neg (by simp),if_neg h256]
 unfold gNext
 rw [if_pos (by simp)]
 unfold gInside
 rw [if_neg (by simp [gGoes]),if_neg (by simp),if_neg (by simp),if_neg (fun x=>hi x.2),if_neg (by simp)]
 rfl
theorem countQ_bad {s:List UInt8} {n:Nat} {t:St} (m:Bool) (h:Bad s n t):countQ s t m=t:=by
 unfold countQ; rw [if_pos (Or.inl (by simp [digit,h.ne])),wrong_bad h]
theorem countP_bad {s:List UInt8} {n:Nat} {t:St} (m:Bool) (h:Bad s n t):countP s t m=t:=by
 have e:minusP s t m=t:=by unfold minusP has; rw [sees_bad h]; simp
 unfold countP; rw [e,countQ_bad _ h]
theorem ok_signed {s:List UInt8} {q c n X K:Nat} {o:List UInt8} {t:St} (h:Live s q c X o n t) (hK:4≤K∧K≤20∧K≠6) (hin:inB (cS K o)=true)
 (hM:nx (cS X o) 45=⟨25,K,0,[],o⟩)
 (hX:∀b,isDig b=true→nx (cS X o) b=norm (gCount (cS X o) b K)) (hN:bt s t.p≠45→isDig (bt s t.p)=false→(nx (cS X o) (bt s t.p)).st=0):Ok s q c K o n (countP s t true):=by
 unfold countP minusP
 simp only [if_true,Bool.true_and]
 rw [sees_live h.e0]
 by_cases e:bt s t.p=45
 ·have e1:has s t 45=adv t:=by unfold has; rw [sees_live h.e0,e]; rfl
  rw [e1,e]
  exact ok_countM (h.step (by omega) (by rw [e]; exact hM) (by simp [inB]) (by simp) (by simp)) hK
 have e1:has s t 45=t:=by unfold has; rw [sees_live h.e0,if_neg (by simp [e])]
 rw [e1,show (bt s t.p == 45)=false by simp [e]]
 exact ok_countQ h hK hin hX (hN e)
theorem ok_named {s:List UInt8} {q c n:Nat} {o:List UInt8}:∀(l:List UInt8) (a:UInt8) (t:St),Mid s q c n ⟨24,18,0,a::l,o⟩ t→Ok s q c 18 o n (must s t ((a::l).map UInt8.toNat))
 | l,a,t,h=>by
  have hstep:∀(l':List UInt8),l=l'→Ok s q c 18 o n (must s (must1 s t a.toNat) (l'.map UInt8.toNat)):=by
   intro l' hl
   subst hl
   by_cases e:bt s t.p=a.toNat
   ·have e1:must1 s t a.toNat=adv t:=by unfold must1; rw [sees_live h.e0,if_pos (by simp [e])]
    rw [e1]
    have hlt:bt s t.p<256:=by rw [e]; exact UInt8.toNat_lt a
    have hnx:nx ⟨24,18,0,a::l,o⟩ (bt s t.p)=norm (gNamed ⟨24,18,0,a::l,o⟩ l 18):=by
     simp [nx,gNext,gInside,gGoes,e]
     intro h3; have:=UInt8.toNat_lt a; omega
    cases l with
    | nil =>
     refine Or.inl (h.step (m':=cS 18 o) hlt ?_ (by simp [inB,cS]) (by simp [cS]) (by simp [cS])).same
     rw [hnx]; simp [gNamed,norm,cS]
    | cons a' l' =>
     refine ok_named l' a' (adv t) (h.step hlt ?_ (by simp [inB]) (by simp) (by simp))
     rw [hnx]; simp [gNamed,norm]
   have e1:must1 s t a.toNat={ t with e:=2 }:=by unfold must1; rw [sees_live h.e0,if_neg (by simp [e]),wrong_of h.e0]
   have hb:Bad s n { t with e:=2 }:=by
    refine h.bad ?_
    by_cases h256:bt s t.p=256
    ·rw [h256]; simp [nx,mayEnd]
    simp [nx,h256,gNext,gInside,gGoes,e,norm]
   rw [e1]
   have:∀l':List Nat,must s { t with e:=2 } l'={ t with e:=2 }:=by
    intro l'
    induction l' with
    | nil=>rfl
    | cons x r ih=>simp only [must,List.foldl_cons]; rw [must1_bad _ hb]; exact ih
   rw [this]; exact Or.inr hb
  exact hstep l rfl
end Tr
namespace Tr
theorem Ok.live {s:List UInt8} {q c X n:Nat} {o:List UInt8} {t:St} (h:Ok s q c X o n t) (he:t.e=0):Live s q c X o n t:=by
 rcases h with h | h
 ·exact h
 exact absurd he h.ne
theorem sees_e {s:List UInt8} {t:St} {b:Nat} (h:sees s t b=true):t.e=0∧bt s t.p=b:=by simpa [sees] using h
theorem Live.as {s:List UInt8} {q c X Y n:Nat} {o o':List UInt8} {t:St} (h:Live s q c X o n t) (e:nx (cS X o) (bt s t.p)=nx (cS Y o') (bt s t.p)):Live s q c Y o' n t :=
 ⟨h.e0,h.nn,h.le,h.ge,h.tx,h.ct,h.br,h.lv,h.ac.trans e⟩
theorem ok_dot {s:List UInt8} {q c n:Nat} {o:List UInt8} {t:St} (h:Ok s q c 11 o n t) (hb:sees s t 46=true):Ok s q c 11 o n (wordP s (adv t)):=by
 obtain ⟨he,hb⟩:=sees_e hb
 exact ok_stepWord (Or.inl ((h.live he).go 46 12 o hb (by omega) rfl rfl (by omega) (by omega)))
theorem ok_idx {s:List UInt8} {q c n:Nat} {o:List UInt8} {t:St} (h:Ok s q c 11 o n t) (hb:sees s t 91=true):Ok s q c 11 o n (must1 s (countP s (adv t) true) 93):=by
 obtain ⟨he,hb⟩:=sees_e hb
 have h1:=(h.live he).go 91 13 o hb (by omega) rfl rfl (by omega) (by omega)
 have h2:Ok s q c 14 o n (countP s (adv t) true):=by
  refine ok_signed h1 (by omega) rfl rfl ?_ ?_
  ·intro b hb
   rw [nx_low (by omega) (by omega) (by have:=isDig_lt hb; omega)]
   have h45:¬b=45:=by intro e; subst e; simp [isDig] at hb
   simp [gBetween,gWithin,gSigned,cS,h45]
  intro h45 hd
  by_cases h256:bt s (adv t).p=256
  ·rw [h256]; exact nx_end (by omega) (by omega) (by omega)
  rw [nx_low (by omega) (by omega) h256]
  have h48:¬bt s (adv t).p=48:=by intro e; rw [e] at hd; simp [isDig] at hd
  simp [gBetween,gWithin,gSigned,gCount,cS,h45,h48,hd,norm]
 refine ok_must1 h2 (by omega) rfl rfl (by omega) (by omega) ?_
 intro _ hne
 by_cases h256:bt s (countP s (adv t) true).p=256
 ·rw [h256]; exact nx_end (by omega) (by omega) (by omega)
 rw [nx_low (by omega) (by omega) h256]
 simp [gBetween,gWithin,cS,hne,norm]
theorem nx17 {o:List UInt8} {b:Nat} (hb:b≠256):nx (cS 17 o) b=norm (gConst (cS 17 o) b):=by
 rw [nx_low (by omega) (by omega) hb]; simp [gBetween,cS]
theorem ok_cquote {s:List UInt8} {q c n:Nat} {o:List UInt8} {t:St} (h:Ok s q c 17 o n t) (hb:sees s t 39=true):Ok s q c 18 o n (quoteP s t):=by
 obtain ⟨he,hb⟩:=sees_e hb
 exact ok_quote (h.live he) hb rfl (by omega) rfl
theorem ok_cword {s:List UInt8} {q c n:Nat} {o:List UInt8} {t:St} (x a:UInt8) (l:List UInt8) (h:Ok s q c 17 o n t) (hb:sees s t x.toNat=true) (hx:nx (cS 17 o) x.toNat=⟨24,18,0,a::l,o⟩):Ok s q c 18 o n (must s t ((x::a::l).map UInt8.toNat)):=by
 have e:must s t ((x::a::l).map UInt8.toNat)=must s (adv t) ((a::l).map UInt8.toNat):=by
  simp only [must,List.map_cons,List.foldl_cons]
  have:must1 s t x.toNat=adv t:=by unfold must1; rw [if_pos hb]
  rw [this]
 obtain ⟨he,hb⟩:=sees_e hb
 rw [e]
 exact ok_named l a (adv t) ((h.live he).step (by rw [hb]; exact UInt8.toNat_lt x) (by rw [hb]; exact hx) rfl (by simp) (by simp))
theorem ok_ccount {s:List UInt8} {q c n:Nat} {o:List UInt8} {t:St} (h:Ok s q c 17 o n t) (h1:sees s t 39=false) (h2:sees s t 116=false) (h3:sees s t 102=false) (h4:sees s t 110=false):Ok s q c 18 o n (countP s t true):=by
 rcases h with h | h
 ·rw [sees_live h.e0] at h1 h2 h3 h4
  simp only [beq_eq_false_iff_ne,ne_eq] at h1 h2 h3 h4
  refine ok_signed h (by omega) rfl rfl ?_ ?_
  ·intro b hb
   have hlt:=isDig_lt hb
   rw [nx17 (by omega)]
   simp [isDig] at hb
   have a1:¬b=61:=by omega
   have a2:¬b=39:=by omega
   have a3:¬b=116:=by omega
   have a4:¬b=102:=by omega
   have a5:¬b=110:=by omega
   have a6:¬b=45:=by omega
   simp [gConst,gSigned,cS,a2,a3,a4,a5,a6]
  intro h45 hd
  by_cases h256:bt s t.p=256
  ·rw [h256]; exact nx_end (by omega) (by omega) (by omega)
  rw [nx17 h256]
  have h48:¬bt s t.p=48:=by intro e; rw [e] at hd; simp [isDig] at hd
  simp [gConst,gSigned,gCount,cS,h1,h2,h3,h4,h45,h48,hd,norm]
 rw [countP_bad _ h]; exact Or.inr h
theorem ok_eq {s:List UInt8} {q c n:Nat} {o:List UInt8} {t:St} (x:Nat) (hx:x=61∨x=33) (h:Ok s q c 11 o n t) (hb:sees s t x=true):Ok s q c 17 o n (must s t [x,61]):=by
 have e:must s t [x,61]=must1 s (adv t) 61:=by
  simp only [must,List.foldl_cons,List.foldl_nil]
  have:must1 s t x=adv t:=by unfold must1; rw [if_pos hb]
  rw [this]
 obtain ⟨he,hb⟩:=sees_e hb
 rw [e]
 have h1:Live s q c 15 o n (adv t):=(h.live he).go x 15 o hb (by omega) (by rcases hx with rfl | rfl<;>rfl) rfl (by omega) (by omega)
 refine ok_must1 (Or.inl h1) (by omega) rfl rfl (by omega) (by omega) ?_
 intro _ hne
 by_cases h256:bt s (adv t).p=256
 ·rw [h256]; exact nx_end (by omega) (by omega) (by omega)
 rw [nx_low (by omega) (by omega) h256]
 simp [gBetween,gConst,cS,hne,norm]
theorem ok_less {s:List UInt8} {q c n:Nat} {o:List UInt8} {t:St} (h:Ok s q c 11 o n t) (hb:sees s t 60=true):Ok s q c 17 o n (has s (must s t [60]) 61):=by
 have e:must s t [60]=adv t:=by simp only [must,List.foldl_cons,List.foldl_nil]; unfold must1; rw [if_pos hb]
 obtain ⟨he,hb⟩:=sees_e hb
 rw [e]
 have h1:Live s q c 16 o n (adv t):=(h.live he).go 60 16 o hb (by omega) rfl rfl (by omega) (by omega)
 unfold has
 rw [sees_live h1.e0]
 by_cases e2:bt s (adv t).p=61
 ·rw [if_pos (by simp [e2])]
  exact Or.inl (h1.go 61 17 o e2 (by omega) rfl rfl (by omega) (by omega))
 rw [if_neg (by simp [e2])]
 refine Or.inl (h1.as ?_)
 by_cases h256:bt s (adv t).p=256
 ·rw [h256,nx256 _ (by simp [cS]),nx256 _ (by simp [cS])]; rfl
 rw [nx_low (by omega) (by omega) h256,nx17 h256]
 have e3:norm (gBetween (cS 16 o) (bt s (adv t).p))=norm (gConst (cS 16 o) (bt s (adv t).p)):=by simp [gBetween,cS]
 rw [e3]
 have f1:¬(16:Nat)=15:=by omega
 have f2:¬(17:Nat)=15:=by omega
 simp only [gConst,cS,e2,false_and,if_false,f1,f2]
 rfl
theorem ok_bare {s:List UInt8} {q c n:Nat} {o:List UInt8} {t:St} (h:Ok s q c 11 o n t) (h1:t.e=0→bt s t.p≠46∧bt s t.p≠91) (h2:sees s t 61=false) (h3:sees s t 33=false) (h4:sees s t 60=false):Ok s q c 18 o n t:=by
 rcases h with h | h
 ·obtain ⟨a1,a2⟩:=h1 h.e0
  rw [sees_live h.e0] at h2 h3 h4
  simp only [beq_eq_false_iff_ne,ne_eq] at h2 h3 h4
  refine Or.inl (h.as ?_)
  by_cases h256:bt s t.p=256
  ·rw [h256,nx256 _ (by simp [cS]),nx256 _ (by simp [cS])]; rfl
  rw [nx_low (by omega) (by omega) h256,nx_low (by omega) (by omega) h256]
  have e1:norm (gBetween (cS 11 o) (bt s t.p))=norm (gPartEnd (cS 11 o) (bt s t.p)):=by simp [gBetween,gStepEnd,cS,a1,a2,h2,h3,h4]
  have e2:norm (gBetween (cS 18 o) (bt s t.p))=norm (gPartEnd (cS 18 o) (bt s t.p)):=by simp [gBetween,cS]
  rw [e1,e2]
  simp only [gPartEnd,cS]
  repeat' split
  all_goals first | rfl | (simp only [gSelEnd]; repeat' split) | skip
  all_goals first | rfl | (exfalso; omega)
 exact Or.inr h
theorem ok_at {s:List UInt8} {q c n:Nat} {o:List UInt8} {t:St} (h:Ok s q c 10 o n t) (h1:sees s t 33=false) (h2:sees s t 40=false):Ok s q c 11 o n (must s t [64]):=by
 refine ok_must1 h (by omega) rfl rfl (by omega) (by omega) ?_
 intro he hne
 simp only [sees,he,BEq.rfl,Bool.true_and,beq_eq_false_iff_ne,ne_eq] at h1 h2
 by_cases h256:bt s t.p=256
 ·rw [h256]; exact nx_end (by omega) (by omega) (by omega)
 rw [nx_low (by omega) (by omega) h256]
 simp [gBetween,gPart,cS,hne,h1,h2,norm]
end Tr
