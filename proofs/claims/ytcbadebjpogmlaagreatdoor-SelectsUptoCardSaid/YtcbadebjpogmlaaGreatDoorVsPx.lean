import Derived.Test.YtcbadebjpogmlaaGreatDoorVsPi
namespace Tr
def yX (f:Fm) (us:List Tv):Fm:={ f with ws:=f.ws++us }
theorem u_ (f:Fm) (r:List Fm) (u:Tv):nw (f::r) true u=yX f [u]::r:=rfl
theorem Cg {s:List UInt8} {j st ix:Nat} {kW:List Nat} {kc:Nat} {f:Fm} {r:List Fm} {nm:List UInt8} (h:At s j st (kW++[kc]) (f::r) ix nm) (hk:f.kp=true) (aC:bt s j≠256) (hx:aq (Zi s j) (bt s j)=bS (Zi s j)):At s (j+1) 5 kW (nw r true (f.tv (j+1))) (f.ix+1) nm/\(Gi s (j+1)).last=some (f.tv (j+1)):=by
 obtain ⟨a,b,c⟩:=h.o.step aC hx (by simp [bS])
 have at':=h.o.at'
 have c2:Gi s (j+1)=aR (Gi s j) ⟨1,0,0,j+1,0,[]⟩ true:=by
  rw [c]
  show aR (Gi s j) ⟨1,0,0,(Zi s j).at'+1,0,[]⟩ true=_
  rw [at']
 have c3:aR (Gi s j) ⟨1,0,0,j+1,0,[]⟩ true=dQ (Gi s j) f r (j+1):=by
  unfold aR
  rw [if_neg (by simp),if_pos rfl,h.fs]
 rw [c3] at c2
 refine ⟨⟨a,by rw [b]; rfl,?_,?_,?_,?_⟩,?_⟩
 ·rw [b]
  show (Zi s j).op.dropLast=kW
  rw [h.op]; simp
 ·rw [c2]
  show nw r f.kp (f.tv (j+1))=_
  rw [hk]
 ·rw [c2]; rfl
 ·rw [c2]; exact h.nm
 rw [c2]; rfl
theorem IZ (kW:List Nat) {kc:Nat} (hk:kc=5\/kc=6) (b:Nat) (hb:cJ b=false):gF (kW++[kc]) b=(b == 44 || b == (if kc=5 then 93 else 125)):=by
 unfold gF
 rw [hb,mH]
 rcases hk with rfl | rfl<;>simp
theorem aa4 {s:List UInt8} {j ix:Nat} {kW:List Nat} {kc:Nat} {f:Fm} {r:List Fm} (h:At s j 5 (kW++[kc]) (f::r) ix []) (hkc:kc=5\/kc=6) (hk:f.kp=true) (hb:cJ (bt s j)=false) :
 (bt s j=44/\At s (j+1) (if kc=6 then 3 else 0) (kW++[kc]) (f::r) ix [])\/(bt s j≠44/\bt s j=(if kc=5 then 93 else 125)/\At s (j+1) 5 kW (nw r true (f.tv (j+1))) (f.ix+1) []/\(Gi s (j+1)).last=some (f.tv (j+1)))\/(bt s j≠44/\bt s j≠(if kc=5 then 93 else 125)/\Bd s 2 j):=by
 have st:=h.st
 have e0:aq (Zi s j) (bt s j)=aF (Zi s j) (bt s j):=by
  unfold aq
  rw [if_neg (by omega),if_neg (by omega),if_neg (by omega),if_neg (by omega),if_neg (by rw [hb]; simp)]
  unfold bV
  rw [if_pos st]
 by_cases aC:bt s j=256
 ·right; right
  refine ⟨by omega,by rw [aC]; rcases hkc with rfl | rfl<;>simp,Bd.ends h.o aC (j9 (Or.inr (by rw [h.op]; simp)))⟩
 have em:=IZ kW hkc (bt s j) hb
 by_cases lW:bt s j=44
 ·left
  have e1:aF (Zi s j) (bt s j)=(Zi s j).to (if kc=6 then 3 else 0):=by
   unfold aF
   rw [h.op,em,if_neg (by simp [lW]),if_neg (by rw [hb]; simp),if_neg (by omega),mH]
   rcases hkc with rfl | rfl<;>simp
  obtain ⟨a,b,c⟩:=h.o.step aC (e0.trans e1) (by simp [Sn.to]; split<;>omega)
  exact ⟨lW,⟨a,by rw [b]; rfl,by rw [b]; exact h.op,by rw [c]; exact h.fs,by rw [c]; exact h.ix,by rw [c]; exact h.nm⟩⟩
 by_cases he:bt s j=(if kc=5 then 93 else 125)
 ·right; left
  have e1:aF (Zi s j) (bt s j)=bS (Zi s j):=by
   unfold aF
   rw [h.op,em,if_neg (by simp [he]),if_neg (by rw [hb]; simp),if_pos lW]
  obtain ⟨x,y⟩:=Cg h hk aC (e0.trans e1)
  exact ⟨lW,he,x,y⟩
 right; right
 refine ⟨lW,he,Bd.wrong h.o aC ?_⟩
 rw [e0]
 unfold aF
 rw [h.op,em,if_pos (by simp [lW,he])]
 rfl
theorem I0 {s:List UInt8} {p:Nat} (hb:cJ (bt s p)=true):sk s p=sk s (p+1):=by
 refine (Sk.eq ⟨?_,?_,jk s (p+1)⟩)
 ·have:=fV s (p+1); omega
 intro k h1 h2
 by_cases e:k=p
 ·rw [e]; exact hb
 exact I5 s (p+1) k (by omega) h2
theorem Ch {s:List UInt8} {p:Nat} (hb:cJ (bt s p)=false):sk s p=p:=Sk.eq ⟨Nat.le_refl _,λ k h1 h2=>by omega,hb⟩
theorem vf {s:List UInt8} {p f:Nat} {n:Int} {op:List Nat} {fs:List Fm} {ix:Nat} {nm:List UInt8} (P:Pn s p f n op fs ix nm) (hm:gF op (bt s p)=true):aq (Zi s p) (bt s p)=⟨(aF (Zi s p) (bt s p)).z,⟨3,3,f,p,n,[]⟩::(aF (Zi s p) (bt s p)).ts⟩:=by
 have st:=P.w.st
 unfold aq
 rw [if_neg (by omega),if_neg (by omega),if_pos (Or.inr st)]
 unfold gC
 rw [if_neg (by omega),if_neg (λ y=>P.full y.1 y.2),P.w.op,if_neg (by rw [hm]; simp),P.t]
theorem I6 {m f p:Nat} {n:Int} {nm pt:List UInt8} (hm:0<m):Al m ⟨{ (sv 3 n [] nm pt f p).d with cl:=(p:Int) },[]⟩ (sv 3 n [] nm pt f p):=by
 obtain ⟨m,rfl⟩:∃m',m=m'+1:=⟨m - 1,by omega⟩
 exact ⟨rfl,rfl,λ i h=>by cases h⟩
def Aft (s:List UInt8) (p m:Nat) (v u:Tv) (kW:List Nat) (kc:Nat) (f:Fm) (r:List Fm) (ix k:Nat):Prop :=
 (bt s (sk s p)=44/\At s (sk s p+1) (if kc=6 then 3 else 0) (kW++[kc]) (yX f [u]::r) (ix+1) []/\Al m v u) \/
 (bt s (sk s p)≠44/\bt s (sk s p)=b8 k/\At s (sk s p+1) 5 kW (nw r true ((yX f [u]).tv (sk s p+1))) (f.ix+1) []/\(Gi s (sk s p+1)).last=some ((yX f [u]).tv (sk s p+1))/\Al m v u) \/
 (bt s (sk s p)≠44/\bt s (sk s p)≠b8 k/\Bd s 2 (sk s p)/\∃us,(Gi s (sk s p)).st=yX f us::r/\l8 m [v] (us++jL s (sk s p)))
theorem aft {s:List UInt8} {p m:Nat} {v u:Tv} {kW:List Nat} {kc:Nat} {f:Fm} {r:List Fm} {ix:Nat} {nm:List UInt8} {k:Nat} (V:VP s p m v u (kW++[kc]) (f::r) ix nm k) (hkc:(kc=5/\k=4)\/(kc=6/\k=5)) (hk:f.kp=true) (hm:0<m):Aft s p m v u kW kc f r ix k:=by
 have ee:(if kc=5 then 93 else 125)=b8 k:=by rcases hkc with ⟨rfl,rfl⟩ | ⟨rfl,rfl⟩<;>rfl
 have RO:kc=5\/kc=6:=by omega
 have closed:∀q,sk s q=sk s p->At s q 5 (kW++[kc]) (yX f [u]::r) (ix+1) []->Al m v u->Aft s p m v u kW kc f r ix k:=λ q eq A hA=>by
  have A2:=A.sk (by omega)
  rw [eq] at A2
  have R:=aa4 A2 RO (show (yX f [u]).kp=true from hk) (jk s p)
  rw [ee] at R
  rcases R with ⟨a,b⟩ | ⟨a,b,c,d⟩ | ⟨a,b,c⟩
  ·exact Or.inl ⟨a,b,hA⟩
  ·exact Or.inr (Or.inl ⟨a,b,c,d,hA⟩)
  refine Or.inr (Or.inr ⟨a,b,c,[u],A2.fs,?_⟩)
  rw [lD (by rw [A2.st]; omega),List.append_nil]
  exact l8.one hA
 rcases V with ⟨A,_,hA⟩ | ⟨ff,n,P,hu,hv⟩
 ·exact closed p rfl A hA
 have at':=P.w.o.at'
 have alT:fH k (bt s p)=true->Al m v u:=λ y=>by
  rw [if_pos y] at hv
  rw [hv,hu]
  exact I6 hm
 by_cases hb:cJ (bt s p)=true
 ·have RQ:gF (kW++[kc]) (bt s p)=true:=by unfold gF; rw [hb]; rfl
  have aC:bt s p≠256:=λ y=>by rw [y] at hb; cases hb
  have e1:=vf P RQ
  have e2:aF (Zi s p) (bt s p)=(Zi s p).to 5:=by
   unfold aF
   rw [P.w.op,if_neg (by rw [RQ]; simp),if_pos hb]
  rw [e2] at e1
  obtain ⟨a,b,c⟩:=P.w.o.step aC e1 (by simp [Sn.to])
  have c2:Gi s (p+1)=aR (Gi s p) ⟨3,3,ff,p,n,[]⟩ true:=c
  rw [jh,P.w.fs,P.w.ix,P.w.nm,<-hu,u_] at c2
  have fo:fH k (bt s p)=true:=by
   unfold cJ at hb
   unfold fH
   simp only [Bool.or_eq_true,beq_iff_eq] at hb ⊢
   omega
  exact closed (p+1) (I0 hb).symm ⟨a,by rw [b]; rfl,by rw [b]; exact P.w.op,by rw [c2],by rw [c2],by rw [c2]⟩ (alT fo)
 have I7:cJ (bt s p)=false:=by simpa using hb
 have ej:=Ch I7
 unfold Aft
 rw [ej]
 have em:=IZ kW RO (bt s p) I7
 rw [ee] at em
 have WE:bt s p≠44->bt s p≠b8 k->fH k (bt s p)=false:=λ y1 y2=>by
  unfold fH
  unfold cJ at I7
  rw [I7]
  rcases hkc with ⟨_,rfl⟩ | ⟨_,rfl⟩<;>simp [b8] at y1 y2 ⊢<;>omega
 have okf:bt s p=44\/bt s p=b8 k->fH k (bt s p)=true:=λ y=>by
  unfold fH
  rcases hkc with ⟨_,rfl⟩ | ⟨_,rfl⟩<;>rcases y with y | y<;>rw [y]<;>rfl
 have last:bt s p≠44->bt s p≠b8 k->l8 m [v] ([]++jL s p):=λ y1 y2=>by
  unfold jL
  rw [if_pos P.w.st,P.t,P.w.fs,P.w.ix,P.w.nm]
  rw [WE y1 y2,if_neg (by simp)] at hv
  refine l8.one ?_
  obtain ⟨m,rfl⟩:∃m',m=m'+1:=⟨m - 1,by omega⟩
  rw [hv,hu]
  exact ⟨rfl,rfl,λ i h=>by cases h⟩
 have kp0:(Gi s p).st=yX f []::r:=by
  rw [P.w.fs]
  show _=({ f with ws:=f.ws++[] }:Fm)::r
  rw [List.append_nil]
 by_cases aC:bt s p=256
 ·have n1:bt s p≠44:=by omega
  have n2:bt s p≠b8 k:=by rw [aC,<-ee]; split<;>omega
  exact Or.inr (Or.inr ⟨n1,n2,Bd.ends P.w.o aC (j9 (Or.inr (by rw [P.w.op]; simp))),[],kp0,last n1 n2⟩)
 by_cases lW:bt s p=44
 ·left
  have e1:=vf P (by rw [em,lW]; rfl)
  have e2:aF (Zi s p) (bt s p)=(Zi s p).to (if kc=6 then 3 else 0):=by
   unfold aF
   rw [P.w.op,em,if_neg (by simp [lW]),if_neg (by rw [I7]; simp),if_neg (by omega),mH]
   rcases RO with rfl | rfl<;>simp
  rw [e2] at e1
  obtain ⟨a,b,c⟩:=P.w.o.step aC e1 (by simp [Sn.to]; split<;>omega)
  have c2:Gi s (p+1)=aR (Gi s p) ⟨3,3,ff,p,n,[]⟩ true:=c
  rw [jh,P.w.fs,P.w.ix,P.w.nm,<-hu,u_] at c2
  exact ⟨lW,⟨a,by rw [b]; rfl,by rw [b]; exact P.w.op,by rw [c2],by rw [c2],by rw [c2]⟩,alT (okf (Or.inl lW))⟩
 by_cases he:bt s p=b8 k
 ·right; left
  have e1:=vf P (by rw [em,he]; simp)
  have e2:aF (Zi s p) (bt s p)=bS (Zi s p):=by
   unfold aF
   rw [P.w.op,em,if_neg (by simp [he]),if_neg (by rw [I7]; simp),if_pos lW]
  rw [e2] at e1
  obtain ⟨a,b,c⟩:=P.w.o.step aC e1 (by simp [bS])
  have c2:Gi s (p+1)=aR (aR (Gi s p) ⟨3,3,ff,p,n,[]⟩ true) ⟨1,0,0,p+1,0,[]⟩ true:=by
   rw [c]
   show aR (aR (Gi s p) ⟨3,3,ff,p,n,[]⟩ true) ⟨1,0,0,(Zi s p).at'+1,0,[]⟩ true=_
   rw [at']
  have c3:aR (aR (Gi s p) ⟨3,3,ff,p,n,[]⟩ true) ⟨1,0,0,p+1,0,[]⟩ true=dQ (aR (Gi s p) ⟨3,3,ff,p,n,[]⟩ true) (yX f [u]) r (p+1):=by
   have es:(aR (Gi s p) ⟨3,3,ff,p,n,[]⟩ true).st=yX f [u]::r:=by rw [jh,P.w.fs,P.w.ix,P.w.nm,<-hu,u_]
   generalize aR (Gi s p) ⟨3,3,ff,p,n,[]⟩ true=g at *
   unfold aR
   rw [if_neg (by simp),if_pos rfl,es]
  rw [c3] at c2
  refine ⟨lW,he,⟨a,by rw [b]; rfl,?_,?_,by rw [c2]; rfl,by rw [c2,jh]; rfl⟩,by rw [c2]; rfl,alT (okf (Or.inr he))⟩
  ·rw [b]
   show (Zi s p).op.dropLast=kW
   rw [P.w.op]; simp
  rw [c2]
  show nw r (yX f [u]).kp ((yX f [u]).tv (p+1))=_
  rw [show (yX f [u]).kp=true from hk]
 refine Or.inr (Or.inr ⟨lW,he,Bd.wrong P.w.o aC ?_,[],kp0,last lW he⟩)
 have st:=P.w.st
 unfold aq
 rw [if_neg (by omega),if_neg (by omega),if_pos (Or.inr st)]
 unfold gC
 rw [if_neg (by omega),if_neg (λ y=>P.full y.1 y.2),P.w.op,if_pos (by rw [em]; simp [lW,he])]
 rfl
def WG:List Fm->List Tv->List Tv
 | [],inner=>inner
 | f::r,inner=>WG r [⟨{ f.d with cl:=-1 },f.ws++inner⟩]
theorem x8:∀(gs:List Fm) (f:Fm) (inner:List Tv),WG (gs++[f]) inner=[⟨{ f.d with cl:=-1 },f.ws++WG gs inner⟩]
 | [],_,_=>rfl
 | _::gs,f,_=>x8 gs f _
def RV (s:List UInt8) (dp:Nat) (nm:List UInt8) (k i:Nat) (op:List Nat) (fs:List Fm) (ix:Nat) (R:Rs):Prop :=
 (R.e=0/\i<R.p/\∃v u,R.ws=[v]/\VP s R.p (10 - dp) v u op fs ix nm k)\/(R.e≠0/\Bd s R.e R.p/\∃gs,(Gi s R.p).st=gs++fs/\l8 (10 - dp) R.ws (WG gs (jL s R.p)))
def RP' (s:List UInt8) (dp i:Nat) (kW:List Nat) (f:Fm) (r:List Fm) (R:Rs):Prop :=
 (R.e=0/\i<R.p/\∃us,l8 (9 - dp) R.ws us/\At s R.p 5 kW (nw r true ⟨{ f.d with to:=R.p },us⟩) (f.ix+1) []/\(Gi s R.p).last=some ⟨{ f.d with to:=R.p },us⟩)\/(R.e≠0/\Bd s R.e R.p/\∃gs us,(Gi s R.p).st=gs++({ f with ws:=us }::r)/\l8 (9 - dp) R.ws (us++WG gs (jL s R.p)))
theorem aa7 (s:List UInt8) (n dp:Nat) (nm pt:List UInt8) (k i:Nat) (ws:List Tv):rd s (n+1) false dp nm pt k i ws=(if bt s (sk s i)=256 then ⟨[],2,sk s i⟩
 else if bt s (sk s i)=91\/bt s (sk s i)=123 then
  (if 8<dp then ⟨[],3,sk s i⟩
  else held (if bt s (sk s i)=91 then 4 else 5) nm pt (sk s i)
   (if bt s (sk s (sk s i+1))=b8 (if bt s (sk s i)=91 then 4 else 5) then ⟨[],0,sk s (sk s i+1)+1⟩
   else rd s n true dp [] pt (if bt s (sk s i)=91 then 4 else 5) (sk s (sk s i+1)) []))
 else iW s nm pt k (sk s i)):=by rw [rd]
def An (s:List UInt8) (n dp:Nat) (pt:List UInt8) (k i len:Nat):Rs:=if k=4 then rd s n false (dp+1) [] (pt++[91]++dec len++[93]) 4 i []
 else if (aP s (sk s i)).e≠0 then ⟨[],(aP s (sk s i)).e,(aP s (sk s i)).p⟩
 else if bt s (sk s (aP s (sk s i)).p)=58 then rd s n false (dp+1) (aP s (sk s i)).t (pt++[91]++iV (aP s (sk s i)).t++[93]) 5 (sk s (aP s (sk s i)).p+1) []
 else ⟨[],2,sk s (aP s (sk s i)).p⟩
theorem aa8 (s:List UInt8) (n dp:Nat) (nm pt:List UInt8) (k i:Nat) (ws:List Tv):rd s (n+1) true dp nm pt k i ws=(if (An s n dp pt k i ws.length).e≠0 then ⟨ws++(An s n dp pt k i ws.length).ws,(An s n dp pt k i ws.length).e,(An s n dp pt k i ws.length).p⟩
 else if bt s (sk s (An s n dp pt k i ws.length).p)=44 then rd s n true dp [] pt k (sk s (An s n dp pt k i ws.length).p+1) (ws++(An s n dp pt k i ws.length).ws)
 else if bt s (sk s (An s n dp pt k i ws.length).p)=b8 k then ⟨ws++(An s n dp pt k i ws.length).ws,0,sk s (An s n dp pt k i ws.length).p+1⟩
 else ⟨ws++(An s n dp pt k i ws.length).ws,2,sk s (An s n dp pt k i ws.length).p⟩):=by rw [rd]; rfl
structure Fo (s:List UInt8) (i st:Nat) (kW:List Nat) (kc k dp:Nat) (pt:List UInt8) (f:Fm) (r:List Fm):Prop where
 a:At s i st (kW++[kc]) (f::r) f.ws.length []
 kc:(kc=5/\k=4)\/(kc=6/\k=5)
 st:(k=4->st=0\/(st=1/\bt s (sk s i)≠93))/\(k=5->st=3\/(st=2/\bt s (sk s i)≠125))
 kp:f.kp=true
 kd:f.d.kind=k
 pt:f.d.path=pt
 dp:kW.length+1=dp/\dp<=8
theorem MA {s:List UInt8} {i st:Nat} {op:List Nat} {fs:List Fm} {ix:Nat} (h:At s i st op fs ix []) (hst:st=3\/(st=2/\bt s (sk s i)≠125)) (hop:op≠[]) :
 ((aP s (sk s i)).e≠0/\Bd s (aP s (sk s i)).e (aP s (sk s i)).p/\(Gi s (aP s (sk s i)).p).st=fs/\(Zi s (aP s (sk s i)).p).st≠9) \/
 ((aP s (sk s i)).e=0/\i<(aP s (sk s i)).p/\((bt s (sk s (aP s (sk s i)).p)=58/\At s (sk s (aP s (sk s i)).p+1) 0 op fs ix (aP s (sk s i)).t)\/(bt s (sk s (aP s (sk s i)).p)≠58/\Bd s 2 (sk s (aP s (sk s i)).p)/\(Gi s (sk s (aP s (sk s i)).p)).st=fs/\(Zi s (sk s (aP s (sk s i)).p)).st≠9))):=by
 have A:=h.sk (by omega)
 have hb:=jk s i
 have hge:=fV s i
 generalize sk s i=j at *
 have YP:=A.st
 have at':=A.o.at'
 have ml:=A.o.ml
 have e0:aq (Zi s j) (bt s j)=if bt s j=34 then cy (Zi s j) 2 else (Zi s j).to 12:=by
  unfold aq
  rw [if_neg (by omega),if_neg (by omega),if_neg (by omega),if_neg (by omega),if_neg (by rw [hb]; simp)]
  unfold bV
  rw [if_neg (by omega),if_neg (by omega),if_neg (by omega),if_neg (by omega)]
  by_cases y:bt s j=34
  ·rw [if_pos ⟨by omega,y⟩,if_pos y]
  rw [if_neg (by omega),if_neg y]
 by_cases fI:bt s j=34
 ·rw [if_pos fI] at e0
  obtain ⟨a,b,c⟩:=A.o.step (by omega) e0 (by simp [cy])
  have e2:aP s j=eN s (s.length+1) (j+1) []:=by unfold aP; rw [if_pos fI]
  have hlt:j<s.length:=cD (by omega)
  have I:Is s (j+1) 2 j [] op fs ix []:=by
   refine ⟨⟨a,by rw [b]; rfl,by rw [b]; exact A.op,by rw [c]; exact A.fs,by rw [c]; exact A.ix,by rw [c]; exact A.nm⟩,?_,?_⟩
   ·rw [b]
    exact A.o.rn.ok.x (by show (Zi s j).st≠6/\(Zi s j).st≠7; omega)
   rw [b]
   show (⟨2,4,(Zi s j).at',0,0,[]⟩:Tok)=_
   rw [at']
  rw [e2]
  rcases pR (Or.inl rfl) (s.length+1) (j+1) [] I (by omega) (by omega) with ⟨q1,q2⟩ | ⟨q1,q2,q3,q4⟩
  ·right
   generalize (eN s (s.length+1) (j+1) []).p=p at *
   generalize (eN s (s.length+1) (j+1) []).t=t at *
   have Yz:=q2.ge
   refine ⟨q1,by omega,?_⟩
   rcases q2.r with ⟨y,_⟩ | ⟨_,r1,r2,r3,r4⟩
   ·omega
   have A4:At s p 4 op fs ix t:=⟨q2.o,r1,q2.op,r2,r3,r4⟩
   have A5:=A4.sk (by omega)
   have BF:=jk s p
   generalize sk s p=q at *
   have Pp:=A5.st
   have e5:aq (Zi s q) (bt s q)=if bt s q=58 then (Zi s q).to 0 else (Zi s q).to 12:=by
    unfold aq
    rw [if_neg (by omega),if_neg (by omega),if_neg (by omega),if_neg (by omega),if_neg (by rw [BF]; simp)]
    unfold bV
    rw [if_neg (by omega)]
    by_cases y:bt s q=58
    ·rw [if_pos ⟨Pp,y⟩,if_pos y]
    rw [if_neg (by omega),if_neg (by omega),if_neg (by omega),if_neg (by omega),if_neg y]
   by_cases oQ:bt s q=58
   ·rw [if_pos oQ] at e5
    obtain ⟨a6,b6,c6⟩:=A5.o.step (by omega) e5 (by simp [Sn.to])
    exact Or.inl ⟨oQ,⟨a6,by rw [b6]; rfl,by rw [b6]; exact A5.op,by rw [c6]; exact A5.fs,by rw [c6]; exact A5.ix,by rw [c6]; exact A5.nm⟩⟩
   rw [if_neg oQ] at e5
   refine Or.inr ⟨oQ,?_,A5.fs,by rw [Pp]; omega⟩
   by_cases aC:bt s q=256
   ·exact Bd.ends A5.o aC (j9 (Or.inl (by rw [Pp]; omega)))
   exact Bd.wrong A5.o aC (by rw [e5]; rfl)
  left
  rw [q1]
  exact ⟨by simp,q2,q3,q4⟩
 rw [if_neg fI] at e0
 have e2:aP s j=⟨2,j,[]⟩:=by unfold aP; rw [if_neg fI]
 rw [e2]
 left
 refine ⟨by simp,?_,A.fs,show (Zi s j).st≠9 by omega⟩
 by_cases aC:bt s j=256
 ·exact Bd.ends A.o aC (j9 (Or.inr (by rw [A.op]; exact hop)))
 exact Bd.wrong A.o aC (by rw [e0]; rfl)
theorem Ci (s:List UInt8):∀n,
 (∀(dp:Nat) (nm pt:List UInt8) (k i st:Nat) (op:List Nat) (fs:List Fm) (ix:Nat),At s i st op fs ix nm->(st=0\/(st=1/\bt s (sk s i)≠93))->op.length+1=dp->dp<=9->jF fs ix nm=pt->2 * (s.length - i)+1<=n->RV s dp nm k i op fs ix (rd s n false dp nm pt k i [])) /\
 (∀(dp:Nat) (pt:List UInt8) (k i st:Nat) (kW:List Nat) (kc:Nat) (f:Fm) (r:List Fm) (ws:List Tv),Fo s i st kW kc k dp pt f r->l8 (9 - dp) ws f.ws->2 * (s.length - i)+2<=n->RP' s dp i kW f r (rd s n true dp [] pt k i ws))
 | 0=>⟨λ_ _ _ _ _ _ _ _ _ _ _ _ _ _ h=>absurd h (by omega),λ_ _ _ _ _ _ _ _ _ _ _ _ h=>absurd h (by omega)⟩
 | n+1=>by
  obtain ⟨IV,IP⟩:=Ci s n
  constructor
  ·intro dp nm pt k i st op fs ix h hst hop rR hp hn
   have A:=h.sk (by omega)
   have hb:=jk s i
   have hge:=fV s i
   rw [aa7]
   generalize sk s i=j at *
   have YP:=A.st
   have at':=A.o.at'
   have e8:op.length<=8:=by rw [<-A.op]; exact A.o.rn.ok.op.1
   by_cases aC:bt s j=256
   ·rw [if_pos aC]
    refine Or.inr ⟨by simp,Bd.ends A.o aC (j9 (Or.inl (by rw [YP]; omega))),[],A.fs,?_⟩
    show l8 (10 - dp) [] (jL s j)
    rw [lD (by rw [YP]; omega)]
    exact l8.nil _
   rw [if_neg aC]
   have hlt:j<s.length:=cD (by have:=BW s j; omega)
   by_cases hl:bt s j=91\/bt s j=123
   ·rw [if_pos hl]
    obtain ⟨kk,hkk⟩:∃kk,kk=if bt s j=91 then 4 else 5:=⟨_,rfl⟩
    obtain ⟨kc,hkc⟩:∃kc,kc=if bt s j=91 then 5 else 6:=⟨_,rfl⟩
    rw [<-hkk]
    have YQ:(kc=5/\kk=4/\bt s j=91)\/(kc=6/\kk=5/\bt s j=123):=by
     rcases hl with y | y
     ·left; rw [hkk,hkc,if_pos y,if_pos y]; exact ⟨rfl,rfl,y⟩
     right; rw [hkk,hkc,if_neg (by omega),if_neg (by omega)]; exact ⟨rfl,rfl,y⟩
    have e0:aq (Zi s j) (bt s j)=iU (Zi s j) kc (if kc=5 then 1 else 2):=by
     rw [beg A (by omega) hb]
     unfold bn
     rcases YQ with ⟨rfl,_,y⟩ | ⟨rfl,_,y⟩
     ·rw [if_pos y]; rfl
     rw [if_neg (by omega),if_pos y]; rfl
    by_cases h9:8<dp
    ·rw [if_pos h9]
     refine Or.inr ⟨by simp,⟨A.o,Or.inr (Or.inl ⟨rfl,hlt,?_⟩)⟩,[],A.fs,?_⟩
     ·rw [e0]
      unfold iU
      rw [if_pos (by rw [A.op]; omega)]
      rfl
     show l8 (10 - dp) [] (jL s j)
     rw [lD (by rw [YP]; omega)]
     exact l8.nil _
    rw [if_neg h9]
    have e1:iU (Zi s j) kc (if kc=5 then 1 else 2)=⟨{ Zi s j with st:=(if kc=5 then 1 else 2),op:=(Zi s j).op++[kc] },[⟨0,kc,(Zi s j).at',0,0,[]⟩]⟩:=by unfold iU; rw [if_neg (by rw [A.op]; omega)]
    obtain ⟨a,b,c⟩:=A.o.step aC (e0.trans e1) (by simp only; split<;>omega)
    obtain ⟨f,hf⟩:∃f,f=aM (Gi s j) ⟨0,kc,j,0,0,[]⟩ true:=⟨_,rfl⟩
    have c2:Gi s (j+1)={ Gi s j with st:=f::(Gi s j).st,nm:=[],ix:=0,bd:=j+1 }:=by
     rw [c,hf]
     show aR (Gi s j) ⟨0,kc,(Zi s j).at',0,0,[]⟩ true=_
     rw [at']
     rfl
    have fd:f.d=⟨kk,0,[],nm,pt,j,0,0⟩:=by
     rw [hf]
     show jo (Gi s j) ⟨0,kc,j,0,0,[]⟩=_
     unfold jo
     rw [A.fs,A.ix,A.nm,hp]
     rcases YQ with ⟨rfl,rfl,_⟩ | ⟨rfl,rfl,_⟩<;>rfl
    have fix:f.ix=ix:=by rw [hf]; exact A.ix
    have fkp:f.kp=true:=by rw [hf]; rfl
    have fws:f.ws=[]:=by rw [hf]; rfl
    have A1:At s (j+1) (if kc=5 then 1 else 2) (op++[kc]) (f::fs) 0 []:=⟨a,by rw [b],by rw [b]; show (Zi s j).op++[kc]=_; rw [A.op],by rw [c2,A.fs],by rw [c2],by rw [c2]⟩
    have A2:=A1.sk (by split<;>omega)
    have eK:=jk s (j+1)
    have Wd:=fV s (j+1)
    generalize sk s (j+1)=q at *
    have T':=A2.st
    by_cases hend:bt s q=b8 kk
    ·rw [if_pos hend]
     have e2:aq (Zi s q) (bt s q)=bS (Zi s q):=by
      rcases YQ with ⟨rfl,rfl,_⟩ | ⟨rfl,rfl,_⟩
      ·have T':(Zi s q).st=1:=T'
       have hend:bt s q=93:=hend
       simp [aq,T',bV,hend,cJ]
      have T':(Zi s q).st=2:=T'
      have hend:bt s q=125:=hend
      simp [aq,T',bV,hend,cJ]
     have WH:bt s q≠256:=by rw [hend]; rcases YQ with ⟨_,rfl,_⟩ | ⟨_,rfl,_⟩<;>simp [b8]
     obtain ⟨B,L⟩:=Cg A2 fkp WH e2
     rw [fix] at B
     left
     refine ⟨rfl,show i<q+1 by omega,_,f.tv (q+1),rfl,Or.inl ⟨B,L,?_⟩⟩
     rw [show 10 - dp=(9 - dp)+1 by omega]
     refine ⟨?_,by show 0=f.ws.length; rw [fws]; rfl,λ i h1=>by cases h1⟩
     have:(f.tv (q+1)).d=⟨kk,0,[],nm,pt,j,q+1,0⟩:=by show ({ f.d with to:=q+1 }:dO)=_; rw [fd]
     rw [this]
     have:zW ⟨kk,0,[],nm,pt,j,q+1,0⟩=((q+1:Nat):Int) - 1:=by
      unfold zW
      rw [if_neg (by simp),if_neg (by simp only; omega)]
     rw [this]
     rfl
    rw [if_neg hend]
    have F:Fo s q (if kc=5 then 1 else 2) op kc kk dp pt f fs:=by
     refine ⟨by rw [fws]; exact A2,by omega,⟨λ y=>Or.inr ⟨by rw [if_pos (by omega)],?_⟩,λ y=>Or.inr ⟨by rw [if_neg (by omega)],?_⟩⟩,fkp,by rw [fd],by rw [fd],by omega⟩
     ·rw [Ch eK]; rw [y] at hend; exact hend
     rw [Ch eK]; rw [y] at hend; exact hend
    have R:=IP dp pt kk q _ op kc f fs [] F (by rw [fws]; exact l8.nil _) (by omega)
    generalize rd s n true dp [] pt kk q []=R' at *
    rcases R with ⟨r1,r2,us,r3,r4,r5⟩ | ⟨r1,r2,gs,us,r3,r4⟩
    ·left
     unfold held
     rw [r1]
     rw [fix] at r4
     refine ⟨rfl,show i<R'.p by omega,_,⟨{ f.d with to:=R'.p },us⟩,rfl,Or.inl ⟨r4,r5,?_⟩⟩
     rw [show 10 - dp=(9 - dp)+1 by omega]
     refine ⟨?_,r3.1,r3.2⟩
     rw [fd]
     have:zW ⟨kk,0,[],nm,pt,j,R'.p,0⟩=(R'.p:Int) - 1:=by
      unfold zW
      rw [if_neg (by simp),if_neg (by simp only; omega)]
     rw [this]
     rfl
    right
    unfold held
    refine ⟨r1,r2,gs++[{ f with ws:=us }],by rw [List.append_assoc]; exact r3,?_⟩
    rw [x8]
    refine l8.one ?_
    rw [show 10 - dp=(9 - dp)+1 by omega]
    refine ⟨?_,r4.1,r4.2⟩
    show (⟨kk,0,[],nm,pt,j,if R'.e=0 then R'.p else 0,if R'.e=0 then (R'.p:Int) - 1 else -1⟩:dO)=_
    rw [if_neg r1,if_neg r1,fd]
    rfl
   rw [if_neg hl]
   have S:=Mv (k:=k) (m:=10 - dp) A (by omega) hb aC (by omega) (by omega) (by omega) hp
   generalize iW s nm pt k j=R' at *
   rcases S with ⟨a1,a2,v,u,a3,a4⟩ | ⟨a1,a2,a3,a4,a5⟩
   ·exact Or.inl ⟨a1,by omega,v,u,a3,a4⟩
   refine Or.inr ⟨a1,a2,[],a4,?_⟩
   show l8 (10 - dp) R'.ws (jL s R'.p)
   rw [a3,lD a5]
   exact l8.nil _
  intro dp pt k i st kW kc f r ws F hA hn
  have hlen:ws.length=f.ws.length:=hA.1
  have hne:kW++[kc]≠[]:=by simp
  have WI:(kW++[kc]).length+1=dp+1:=by rw [List.length_append,List.length_singleton,F.dp.1]
  have rR:=F.dp
  rw [aa8]
  have E:(∃nm,RV s (dp+1) nm k i (kW++[kc]) (f::r) f.ws.length (An s n dp pt k i ws.length)):=by
   unfold An
   rcases F.kc with ⟨y1,y2⟩ | ⟨y1,y2⟩
   ·rw [if_pos y2,y2]
    refine ⟨[],IV (dp+1) [] _ 4 i st _ (f::r) f.ws.length F.a (F.st.1 y2) WI (by omega) ?_ (by omega)⟩
    show kM f.d.kind f.d.path f.ws.length []=_
    rw [F.kd,F.pt,y2,hlen]
    rfl
   rw [if_neg (by omega),y2]
   rcases MA F.a (F.st.2 y2) hne with ⟨n1,n2,n3,n4⟩ | ⟨n1,n2,n3⟩
   ·rw [if_pos n1]
    refine ⟨[],Or.inr ⟨n1,n2,[],n3,?_⟩⟩
    show l8 _ [] (jL s (aP s (sk s i)).p)
    rw [lD n4]
    exact l8.nil _
   rw [if_neg (by simpa using n1)]
   rcases n3 with ⟨m1,m2⟩ | ⟨m1,m2,m3,m4⟩
   ·rw [if_pos m1]
    have hg:=fV s (aP s (sk s i)).p
    have V:=IV (dp+1) (aP s (sk s i)).t (pt++[91]++iV (aP s (sk s i)).t++[93]) 5 (sk s (aP s (sk s i)).p+1) 0 _ (f::r) f.ws.length m2 (Or.inl rfl) WI (by omega) (by
     show kM f.d.kind f.d.path f.ws.length _=_
     rw [F.kd,F.pt,y2]
     rfl) (by omega)
    refine ⟨(aP s (sk s i)).t,?_⟩
    rcases V with ⟨v1,v2,v3⟩ | v
    ·exact Or.inl ⟨v1,by omega,v3⟩
    exact Or.inr v
   rw [if_neg m1]
   refine ⟨[],Or.inr ⟨by simp,m2,[],m3,?_⟩⟩
   show l8 _ [] (jL s (sk s (aP s (sk s i)).p))
   rw [lD m4]
   exact l8.nil _
  generalize An s n dp pt k i ws.length=q at *
  obtain ⟨nm,E⟩:=E
  have em:10 - (dp+1)=9 - dp:=by omega
  rcases E with ⟨e1,e2,v,u,e3,e4⟩ | ⟨e1,e2,gs,e3,e4⟩
  ·rw [if_neg (by simpa using e1)]
   rw [em] at e4
   have hg:=fV s q.p
   rcases aft e4 F.kc F.kp (by omega) with ⟨b1,b2,b3⟩ | ⟨b1,b2,b3,b4,b5⟩ | ⟨b1,b2,b3,us,b4,b5⟩
   ·rw [if_pos b1,e3]
    have hkc:=F.kc
    have Kr:sk s q.p<s.length:=cD (by omega)
    have F2:Fo s (sk s q.p+1) (if kc=6 then 3 else 0) kW kc k dp pt (yX f [u]) r:=by
     refine ⟨?_,F.kc,⟨λ y=>Or.inl (by rw [if_neg (by omega)]),λ y=>Or.inl (by rw [if_pos (by omega)])⟩,F.kp,F.kd,F.pt,F.dp⟩
     have:(yX f [u]).ws.length=f.ws.length+1:=by show (f.ws++[u]).length=_; simp
     rw [this]; exact b2
    have R:=IP dp pt k (sk s q.p+1) _ kW kc (yX f [u]) r (ws++[v]) F2 (hA.app (l8.one b3)) (by omega)
    rcases R with ⟨r1,r2,r3⟩ | R
    ·exact Or.inl ⟨r1,by omega,r3⟩
    exact Or.inr R
   ·rw [if_neg b1,if_pos b2,e3]
    exact Or.inl ⟨rfl,show i<sk s q.p+1 by omega,f.ws++[u],hA.app (l8.one b5),b3,b4⟩
   rw [if_neg b1,if_neg b2,e3]
   refine Or.inr ⟨by simp,b3,[],f.ws++us,b4,?_⟩
   show l8 (9 - dp) (ws++[v]) (f.ws++us++jL s (sk s q.p))
   rw [List.append_assoc]
   exact hA.app b5
  rw [if_pos e1]
  rw [em] at e4
  exact Or.inr ⟨e1,e2,gs,f.ws,e3,hA.app e4⟩
theorem WJ (s:List UInt8) (hl:s.length<=4000000):At s 0 0 [] [] 0 []:=by
 refine ⟨⟨rfl,by omega,hl⟩,?_,?_,?_,?_,?_⟩<;>simp [Zi,Gi,Zs,Gt,aB,az,dB,bK]
theorem qV {s:List UInt8}:Zi s s.length=(aB az s).z/\Gi s s.length=dB bK (aB az s).ts:=by
 unfold Zi Gi Zs Gt
 rw [List.take_length]
 exact ⟨rfl,rfl⟩
theorem RU {s:List UInt8} {e i:Nat} (h:Bd s e i):(i<s.length->(aB az s).e=e/\(aB az s).z.at'=i/\(aB az s).ts=(aB az (s.take i)).ts)/\(i=s.length->(aB az s).e=0/\e=2/\cq (aB az s).z=false):=by
 obtain ⟨o,h⟩:=h
 constructor
 ·intro hi
  have es:s=s.take i++s.drop i:=(List.take_append_drop i s).symm
  have ed:s.drop i=s[i]::s.drop (i+1):=List.drop_eq_getElem_cons hi
  have ea:=jE (s.take i) (s.drop i) az o.e
  rw [<-es] at ea
  have rn:=o.rn
  have S:=kN rn.ok rn.lk rn.st (by rw [rn.at',List.length_take]; have:=o.ml; omega) (s[i]).toNat
  have ez:(aB az (s.take i)).z=Zi s i:=rfl
  rw [ez,ed] at ea
  have at':=o.at'
  rcases h with ⟨e2,_,hx⟩ | ⟨e3,_,hx⟩ | ⟨_,y,_⟩
  ·rw [Iv hi] at hx
   have er:aB (Zi s i) (s[i]::s.drop (i+1))=⟨(aq (Zi s i) (s[i]).toNat).z,2,(aq (Zi s i) (s[i]).toNat).ts⟩:=by rw [aB,if_pos hx]
   rw [er] at ea
   rw [ea]
   have n:=S.no (by show 11<=(aq (Zi s i) (s[i]).toNat).z.st; omega)
   have n:(aq (Zi s i) (s[i]).toNat).ts=[]:=n
   exact ⟨e2.symm,(show (aq (Zi s i) (s[i]).toNat).z.at'=i from (S.at').trans at'),by simp only [n,List.append_nil]⟩
  ·rw [Iv hi] at hx
   have er:aB (Zi s i) (s[i]::s.drop (i+1))=⟨(aq (Zi s i) (s[i]).toNat).z,3,(aq (Zi s i) (s[i]).toNat).ts⟩:=by rw [aB,if_neg (by omega),if_pos hx]
   rw [er] at ea
   rw [ea]
   have n:=S.no (by show 11<=(aq (Zi s i) (s[i]).toNat).z.st; omega)
   have n:(aq (Zi s i) (s[i]).toNat).ts=[]:=n
   exact ⟨e3.symm,(show (aq (Zi s i) (s[i]).toNat).z.at'=i from (S.at').trans at'),by simp only [n,List.append_nil]⟩
  omega
 intro hi
 rcases h with ⟨_,y,_⟩ | ⟨_,y,_⟩ | ⟨e2,_,hw⟩
 ·omega
 ·omega
 subst hi
 have oe:=o.e
 rw [List.take_length] at oe
 rw [qV.1] at hw
 exact ⟨oe,e2,hw⟩
structure RdW (s:List UInt8):Prop where
 ok:(aV s).e=0->cw s=0/\(aV s).p=s.length/\∃v u,(aV s).ws=[v]/\ja s=some u/\((Al 9 v u)\/(∃f n,u=sv 3 n [] [] [36] f s.length/\v=⟨{ u.d with cl:=-1 },[]⟩))
 no:(aV s).e≠0->cw s=(aV s).e/\nK s=(aV s).p/\Bd s (aV s).e (aV s).p
theorem Ao {s:List UInt8} {e i:Nat} (h:Bd s e i):cw s=e/\nK s=i:=by
 obtain ⟨b1,b2⟩:=RU h
 have e0:e≠0:=by rcases h.2 with ⟨y,_⟩ | ⟨y,_⟩ | ⟨y,_⟩<;>omega
 rcases Nat.lt_or_ge i s.length with y | y
 ·obtain ⟨c1,c2,_⟩:=b1 y
  unfold cw nK
  rw [if_pos (by rw [c1]; exact e0),if_pos (by rw [c1]; exact e0),c1,c2]
  exact ⟨rfl,rfl⟩
 have hi:i=s.length:=by have:=h.1.le; omega
 obtain ⟨c1,c2,c3⟩:=b2 hi
 unfold cw nK
 rw [if_neg (by simpa using c1),if_neg (by rw [c3]; simp),if_neg (by simpa using c1),if_neg (by rw [c3]; simp)]
 exact ⟨c2.symm,hi.symm⟩
theorem I8 (s:List UInt8) (hl:s.length<=4000000):RdW s:=by
 have V:=(Ci s (2 * s.length+3)).1 1 [] [36] 0 0 0 [] [] 0 (WJ s hl) (Or.inl rfl) rfl (by omega) rfl (by omega)
 have eT:aV s=if (rd s (2 * s.length+3) false 1 [] [36] 0 0 []).e≠0 then rd s (2 * s.length+3) false 1 [] [36] 0 0 [] else if bt s (sk s (rd s (2 * s.length+3) false 1 [] [36] 0 0 []).p)=256 then ⟨(rd s (2 * s.length+3) false 1 [] [36] 0 0 []).ws,0,sk s (rd s (2 * s.length+3) false 1 [] [36] 0 0 []).p⟩ else ⟨(rd s (2 * s.length+3) false 1 [] [36] 0 0 []).ws,2,sk s (rd s (2 * s.length+3) false 1 [] [36] 0 0 []).p⟩:=rfl
 generalize rd s (2 * s.length+3) false 1 [] [36] 0 0 []=R at *
 rcases V with ⟨r1,r2,v,u,r3,r4⟩ | ⟨r1,r2,_⟩
 ·rw [if_neg (by simpa using r1)] at eT
  have hst:=jk s R.p
  -- behind the value: blanks, and then the end
  have closed:∀q,sk s q=sk s R.p->At s q 5 [] [] 1 []->(Gi s (sk s R.p)).last=some u->Al 9 v u->RdW s:=λ q eq A x_ hA=>by
   have A2:=A.sk (by omega)
   rw [eq] at A2
   by_cases aC:bt s (sk s R.p)=256
   ·rw [if_pos aC] at eT
    have hp:sk s R.p=s.length:=by
     rcases Nat.lt_or_ge (sk s R.p) s.length with y | y
     ·have:=tF y; omega
     have:=A2.o.le; omega
    rw [hp] at A2 x_ eT
    have oe:=A2.o.e
    rw [List.take_length] at oe
    have Pp:=A2.st
    have op5:=A2.op
    rw [qV.1] at Pp op5
    rw [qV.2] at x_
    have hw:cq (aB az s).z=true:=by simp [cq,Pp,op5]
    refine ⟨λ_=>⟨?_,by rw [eT],v,u,by rw [eT]; exact r3,?_,Or.inl hA⟩,λ y=>by rw [eT] at y; exact absurd rfl y⟩
    ·unfold cw; rw [if_neg (by simpa using oe),if_pos hw]
    unfold ja jC jn
    rw [if_neg (by omega),List.append_nil]
    exact x_
   rw [if_neg aC] at eT
   have B:Bd s 2 (sk s R.p):=by
    refine Bd.wrong A2.o aC ?_
    have Pp:=A2.st
    unfold aq
    rw [if_neg (by omega),if_neg (by omega),if_neg (by omega),if_neg (by omega),if_neg (by rw [hst]; simp)]
    unfold bV
    rw [if_pos Pp]
    unfold aF
    rw [if_pos (by rw [A2.op]; unfold gF; rw [hst]; rfl)]
    rfl
   have E:=Ao B
   refine ⟨λ y=>by rw [eT] at y; simp at y,λ_=>?_⟩
   rw [eT]
   exact ⟨E.1,E.2,B⟩
  have r4:VP s R.p 9 v u [] [] 0 [] 0:=r4
  rcases r4 with ⟨A,x_,hA⟩ | ⟨f,n,P,hu,hv⟩
  ·refine closed R.p rfl A ?_ hA
   -- blanks tell nothing
   have keep:∀(k:Nat) {i:Nat},At s i 5 [] [] 1 []->(Gi s (run cJ s k i)).last=(Gi s i).last:=λ k=>by
    induction k with
    | zero=>intro i _; rfl
    | succ k ih =>
     intro i A
     rw [run]
     split
     ·rename_i hb
      rw [ih (A.blank (by omega) hb)]
      have eK:bt s i≠256:=λ y=>by rw [y] at hb; cases hb
      have hs:=A.st
      have e:aq (Zi s i) (bt s i)=(Zi s i).to 5:=by
       unfold aq
       rw [if_neg (by omega),if_neg (by omega),if_neg (by omega),if_neg (by omega),if_pos hb,hs]
      obtain ⟨_,_,c⟩:=A.o.step eK e (by simp [Sn.to])
      rw [c]; rfl
     rfl
   have:(Gi s (sk s R.p)).last=(Gi s R.p).last:=keep _ A
   rw [this]; exact x_
  have hP:=P.w
  by_cases hb:cJ (bt s R.p)=true
  ·have RQ:gF [] (bt s R.p)=true:=by unfold gF; rw [hb]; rfl
   have aC:bt s R.p≠256:=λ y=>by rw [y] at hb; cases hb
   have e1:=vf P RQ
   have e2:aF (Zi s R.p) (bt s R.p)=(Zi s R.p).to 5:=by
    unfold aF
    rw [hP.op,if_neg (by rw [RQ]; simp),if_pos hb]
   rw [e2] at e1
   obtain ⟨a,b,c⟩:=hP.o.step aC e1 (by simp [Sn.to])
   have c2:Gi s (R.p+1)=aR (Gi s R.p) ⟨3,3,f,R.p,n,[]⟩ true:=c
   rw [jh,hP.fs,hP.ix,hP.nm,<-hu] at c2
   have fo:fH 0 (bt s R.p)=true:=by
    unfold cJ at hb
    unfold fH
    rw [hb]; rfl
   rw [if_pos fo] at hv
   have hA:Al 9 v u:=by rw [hv,hu]; exact I6 (by omega)
   have A1:At s (R.p+1) 5 [] [] 1 []:=⟨a,by rw [b]; rfl,by rw [b]; exact hP.op,by rw [c2]; rfl,by rw [c2],by rw [c2]⟩
   refine closed (R.p+1) (I0 hb).symm A1 ?_ hA
   have keep:∀(k:Nat) {i:Nat},At s i 5 [] [] 1 []->(Gi s (run cJ s k i)).last=(Gi s i).last:=λ k=>by
    induction k with
    | zero=>intro i _; rfl
    | succ k ih =>
     intro i A
     rw [run]
     split
     ·rename_i hb
      rw [ih (A.blank (by omega) hb)]
      have eK:bt s i≠256:=λ y=>by rw [y] at hb; cases hb
      have hs:=A.st
      have e:aq (Zi s i) (bt s i)=(Zi s i).to 5:=by
       unfold aq
       rw [if_neg (by omega),if_neg (by omega),if_neg (by omega),if_neg (by omega),if_pos hb,hs]
      obtain ⟨_,_,c⟩:=A.o.step eK e (by simp [Sn.to])
      rw [c]; rfl
     rfl
   have e3:(Gi s (sk s (R.p+1))).last=(Gi s (R.p+1)).last:=keep _ A1
   rw [I0 hb,e3,c2]
  have I7:cJ (bt s R.p)=false:=by simpa using hb
  rw [Ch I7] at eT
  have fo:fH 0 (bt s R.p)=false:=by
   unfold cJ at I7
   unfold fH
   rw [I7]; rfl
  rw [fo,if_neg (by simp)] at hv
  by_cases aC:bt s R.p=256
  ·rw [if_pos aC] at eT
   have hp:R.p=s.length:=by
    rcases Nat.lt_or_ge R.p s.length with y | y
    ·have:=tF y; omega
    have:=hP.o.le; omega
   have Pt:=P.t
   rw [hp] at hP Pt hu
   have oe:=hP.o.e
   rw [List.take_length] at oe
   have WK:=hP.st
   have op9:=hP.op
   rw [qV.1] at WK op9 Pt
   have hw:cq (aB az s).z=true:=by simp [cq,WK,op9]
   refine ⟨λ_=>⟨?_,by rw [eT]; exact hp,v,u,by rw [eT]; exact r3,?_,Or.inr ⟨f,n,hu,hv⟩⟩,λ y=>by rw [eT] at y; exact absurd rfl y⟩
   ·unfold cw; rw [if_neg (by simpa using oe),if_pos hw]
   unfold ja jC jn
   rw [if_pos WK,Pt,kO,<-qV.2]
   show (aR (Gi s s.length) ⟨3,3,f,s.length,n,[]⟩ true).last=some u
   rw [jh,hP.fs,hP.ix,hP.nm,<-hu]
  rw [if_neg aC] at eT
  have B:Bd s 2 R.p:=by
   refine Bd.wrong hP.o aC ?_
   have WK:=hP.st
   unfold aq
   rw [if_neg (by omega),if_neg (by omega),if_pos (Or.inr WK)]
   unfold gC
   rw [if_neg (by omega),if_neg (λ y=>P.full y.1 y.2),hP.op,if_pos (by unfold gF; rw [I7]; rfl)]
   rfl
  have E:=Ao B
  refine ⟨λ y=>by rw [eT] at y; simp at y,λ_=>?_⟩
  rw [eT]
  exact ⟨E.1,E.2,B⟩
 rw [if_pos r1] at eT
 have E:=Ao r2
 refine ⟨λ y=>by rw [eT] at y; exact absurd y r1,λ_=>?_⟩
 rw [eT]
 exact ⟨E.1,E.2,r2⟩
end Tr
