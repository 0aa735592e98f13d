import Derived.Test.YtcbadebjpogmlaaGreatDoorVsVf
import Derived.Test.YtcbadebjpogmlaaGreatDoorVsRefF
set_option maxHeartbeats 2000000
set_option maxRecDepth 100000
namespace Go.Proofs.YtcbadebjpogmlaaGreatDoor
open Go.RowKit Tr
structure Tw (w:World) (b pb:Nat) (c:Tv) (pk i:Nat) (nu:Value):Prop where
 c:∃Fe,ay w b (ld c.d (.pointer (some ⟨pb,0,none⟩)) i Fe) 130
 p:∃dp par Tx,ay w pb (ld dp par Tx nu) 130/\FD dp/\dp.kind=pk
 i:i<=4000000
def iH (w:World) (f:Value) (x:b_):Prop:=∃N cap,f=.func (.func N) #[] cap/\(∀args w,(callFunc N args).run Tryz.prog w=.ok (.enter N args) w)/\∀(b pb:Nat) (c:Tv) (pk i L:Nat) (nu:Value),Tw w b pb c pk i nu ->
 (x.late=true->(∃ao cp,nu=.slice ao L cp)/\L<=4000000/\∃A D n par ix,PT w A D n par ix c/\A c.d.ai=b) ->
 ∀q,Calls Tryz.prog N (#[.pointer (some ⟨b,0,none⟩)]++cap) (w.drewN q) λ r w'=>r=.returned (.bool (bG x pk L i c))/\∃k,w'=w.drewN k
structure Od (w:World) (b:Nat) (k:Int) (nm:ByteArray) (fr to:Int) (met:Value):Prop where
 b:ay w b #[.int .i64 k,.string nm,.int .i64 fr,.int .i64 to,met] 239
theorem Ib (w:World) (x:b_) (hx:x.sort=1):iH w (.func (.func 209) #[] #[]) x:=by
 refine ⟨_,_,rfl,λ_ _=>rfl,λ b pb c pk i L nu hv _ q=>?_⟩
 have e:bG x pk L i c=true:=by simp [bG,hx]
 rw [e]
 show Calls Tryz.prog 209 #[.pointer (some ⟨b,0,none⟩)] _ _
 go_enter Tryz.func209,Tryz.ntmps209
 go_wp2
 go_ret
 exact ⟨rfl,q,rfl⟩
theorem H9 {w:World} {bb:Nat} {k:Int} {nm:ByteArray} {fr to:Int} {met:Value} (h:Od w bb k nm fr to met) (x:b_) (hx:x.sort=2) (hn:x.name=bs nm):iH w (.func (.func 205) #[] #[.pointer (some ⟨bb,0,none⟩)]) x:=by
 refine ⟨_,_,rfl,λ_ _=>rfl,λ b pb c pk i L nu hv _ q=>?_⟩
 obtain ⟨⟨Fe,hc⟩,⟨dp,par,Tx,hp,hd,rfl⟩,_⟩:=hv
 have e:bG x dp.kind L i c=(dp.kind == 5 && c.d.name == bs nm):=by simp [bG,hx,hn]
 rw [e]
 have c1:w.cell? ⟨bb,1,none⟩=some (.string nm):=h.b.cell 1
 have c5:w.cell? ⟨b,5,none⟩=some (.pointer (some ⟨pb,0,none⟩)):=hc.cell 5
 have c7:w.cell? ⟨b,7,none⟩=some (.string (bZ c.d.name)):=hc.cell 7
 have p0:w.cell? ⟨pb,0,none⟩=some (.int .i64 (e_ dp:Nat)):=hp.cell 0
 have hk:=(pq hd).1
 have hs:Hid (((bZ c.d.name).toList == nm.toList)=(c.d.name == bs nm)):=by
  show _=_
  by_cases y:c.d.name=bs nm
  ·rw [Kf (by rw [h_]; exact y),y]; simp
  rw [Ts (by rw [h_]; exact y)]; simp [y]
 clear h hc hp hd e hn hx
 generalize (c.d.name == bs nm)=bq at *
 generalize dp.kind=kk at *
 generalize e_ dp=pp at *
 show Calls Tryz.prog 205 #[.pointer (some ⟨b,0,none⟩),.pointer (some ⟨bb,0,none⟩)] _ _
 by_cases h6:pp=6
 ·have h5:kk=5:=hk.1 h6
  subst h6 h5
  have hs':=hs.out
  clear hk hs
  go_enter Tryz.func205,Tryz.ntmps205
  go_wp2
  go_quiet (fail)
  go_wp2
  go_ret
  exact ⟨by simp,_,dW _ _ _⟩
 have h5:kk≠5:=λ y=>h6 (hk.2 y)
 have e6:((pp:Int) == 6)=false:=yQ (b:=6) h6
 have e5:(kk == 5)=false:=by simpa using h5
 rw [e5]
 clear hk hs h6 h5 e5
 go_enter Tryz.func205,Tryz.ntmps205
 go_wp2
 go_quiet (fail)
 go_wp2
 go_ret
 exact ⟨rfl,_,dW _ _ _⟩
theorem H_ {w:World} {bb:Nat} {k:Int} {nm:ByteArray} {fr to:Int} {met:Value} (h:Od w bb k nm fr to met) (x:b_) (hx:x.sort=3) (hn:x.n=fr) (h0:0<=fr):iH w (.func (.func 206) #[] #[.pointer (some ⟨bb,0,none⟩)]) x:=by
 refine ⟨_,_,rfl,λ_ _=>rfl,λ b pb c pk i L nu hv gv q=>?_⟩
 obtain ⟨⟨Fe,hc⟩,⟨dp,par,Tx,hp,hd,rfl⟩,hi⟩:=hv
 have c2:w.cell? ⟨bb,2,none⟩=some (.int .i64 fr):=h.b.cell 2
 have c3:w.cell? ⟨bb,3,none⟩=some (.int .i64 to):=h.b.cell 3
 have c5:w.cell? ⟨b,5,none⟩=some (.pointer (some ⟨pb,0,none⟩)):=hc.cell 5
 have c6:w.cell? ⟨b,6,none⟩=some (.int .i64 (i:Nat)):=hc.cell 6
 have p0:w.cell? ⟨pb,0,none⟩=some (.int .i64 (e_ dp:Nat)):=hp.cell 0
 have p8:w.cell? ⟨pb,8,none⟩=some nu:=hp.cell 8
 have hk:=(pq hd).2.1
 have e:bG x dp.kind L i c=(dp.kind == 4 && (i:Int) == fr):=by simp only [bG,hx]; rw [hn,if_neg (by omega:¬fr<0)]; simp
 rw [e]
 clear h hc hp hd e gv
 generalize dp.kind=kk at *
 generalize e_ dp=pp at *
 show Calls Tryz.prog 206 #[.pointer (some ⟨b,0,none⟩),.pointer (some ⟨bb,0,none⟩)] _ _
 clear p8 hn
 by_cases h5:pp=5
 ·have h4:kk=4:=hk.1 h5
  subst h5 h4
  clear hk
  go_enter Tryz.func206,Tryz.ntmps206
  go_wp2
  go_quiet (fail)
  go_wp2
  go_ret
  exact ⟨by simp,_,dW _ _ _⟩
 have h4:kk≠4:=λ y=>h5 (hk.2 y)
 have e5:((pp:Int) == 5)=false:=yQ (b:=5) h5
 have e4:(kk == 4)=false:=by simpa using h4
 rw [e4]
 clear hk h5 h4 e4
 go_enter Tryz.func206,Tryz.ntmps206
 go_wp2
 go_quiet (fail)
 go_wp2
 go_ret
 exact ⟨rfl,_,dW _ _ _⟩
theorem Rw {w:World} {bb:Nat} {k:Int} {nm:ByteArray} {fr to:Int} {met:Value} (h:Od w bb k nm fr to met) (x:b_) (hx:x.sort=3) (hn:x.n=-fr) (h0:0<fr/\fr<=1000):iH w (.func (.func 207) #[] #[.pointer (some ⟨bb,0,none⟩)]) x:=by
 refine ⟨_,_,rfl,λ_ _=>rfl,λ b pb c pk i L nu hv gv q=>?_⟩
 obtain ⟨⟨Fe,hc⟩,⟨dp,par,Tx,hp,hd,rfl⟩,hi⟩:=hv
 have hl:x.late=true:=by simp [b_.late,hx]; omega
 obtain ⟨⟨ao,cp,rfl⟩,hL,_⟩:=gv hl
 have c2:w.cell? ⟨bb,2,none⟩=some (.int .i64 fr):=h.b.cell 2
 have c3:w.cell? ⟨bb,3,none⟩=some (.int .i64 to):=h.b.cell 3
 have c5:w.cell? ⟨b,5,none⟩=some (.pointer (some ⟨pb,0,none⟩)):=hc.cell 5
 have c6:w.cell? ⟨b,6,none⟩=some (.int .i64 (i:Nat)):=hc.cell 6
 have p0:w.cell? ⟨pb,0,none⟩=some (.int .i64 (e_ dp:Nat)):=hp.cell 0
 have p8:w.cell? ⟨pb,8,none⟩=some (.slice ao L cp):=hp.cell 8
 have hk:=(pq hd).2.1
 have e:bG x dp.kind L i c=(dp.kind == 4 && (i:Int) == (L:Int) - fr):=by simp only [bG,hx]; rw [hn,if_pos (by omega:-fr<0),show -fr+(L:Int)=(L:Int) - fr by omega]; simp
 rw [e]
 clear h hc hp hd e gv
 generalize dp.kind=kk at *
 generalize e_ dp=pp at *
 show Calls Tryz.prog 207 #[.pointer (some ⟨b,0,none⟩),.pointer (some ⟨bb,0,none⟩)] _ _
 have hwr:IntKind.i64.wrap ((L:Int) - fr)=(L:Int) - fr:=IntWalk.i64_in _ (by omega)
 clear hn hl h0
 by_cases h5:pp=5
 ·have h4:kk=4:=hk.1 h5
  subst h5 h4
  clear hk
  go_enter Tryz.func207,Tryz.ntmps207
  go_wp2
  go_quiet (fail)
  go_wp2
  go_ret
  exact ⟨by simp,_,dW _ _ _⟩
 have h4:kk≠4:=λ y=>h5 (hk.2 y)
 have e5:((pp:Int) == 5)=false:=yQ (b:=5) h5
 have e4:(kk == 4)=false:=by simpa using h4
 rw [e4]
 clear hk h5 h4 e4
 go_enter Tryz.func207,Tryz.ntmps207
 go_wp2
 go_quiet (fail)
 go_wp2
 go_ret
 exact ⟨rfl,_,dW _ _ _⟩
theorem Ia {w:World} {bb:Nat} {k:Int} {nm:ByteArray} {fr to:Int} {met:Value} (h:Od w bb k nm fr to met) (x:b_) (hx:x.sort=4) (hf:x.ai=fr) (ht:(x.to<0/\4000000<to)\/(0<=x.to/\x.to=to)):iH w (.func (.func 208) #[] #[.pointer (some ⟨bb,0,none⟩)]) x:=by
 refine ⟨_,_,rfl,λ_ _=>rfl,λ b pb c pk i L nu hv gv q=>?_⟩
 obtain ⟨⟨Fe,hc⟩,⟨dp,par,Tx,hp,hd,rfl⟩,hi⟩:=hv
 have c2:w.cell? ⟨bb,2,none⟩=some (.int .i64 fr):=h.b.cell 2
 have c3:w.cell? ⟨bb,3,none⟩=some (.int .i64 to):=h.b.cell 3
 have c5:w.cell? ⟨b,5,none⟩=some (.pointer (some ⟨pb,0,none⟩)):=hc.cell 5
 have c6:w.cell? ⟨b,6,none⟩=some (.int .i64 (i:Nat)):=hc.cell 6
 have p0:w.cell? ⟨pb,0,none⟩=some (.int .i64 (e_ dp:Nat)):=hp.cell 0
 have p8:w.cell? ⟨pb,8,none⟩=some nu:=hp.cell 8
 have hk:=(pq hd).2.1
 have e:bG x dp.kind L i c=(dp.kind == 4 && decide (fr<=(i:Int)) && decide ((i:Int)<to)):=by
  have y:(decide (x.to<0) || decide ((i:Int)<x.to))=decide ((i:Int)<to):=by
   rcases ht with ⟨h1,h2⟩ | ⟨h1,h2⟩
   ·rw [decide_eq_true h1,decide_eq_true (p:=(i:Int)<to) (by omega)]; rfl
   rw [h2,decide_eq_false (p:=to<0) (by omega)]; rfl
  simp only [bG,hx]
  rw [hf,y]
  simp
 rw [e]
 clear h hc hp hd e gv
 generalize dp.kind=kk at *
 generalize e_ dp=pp at *
 show Calls Tryz.prog 208 #[.pointer (some ⟨b,0,none⟩),.pointer (some ⟨bb,0,none⟩)] _ _
 clear p8 ht
 by_cases h5:pp=5
 ·have h4:kk=4:=hk.1 h5
  subst h5 h4
  clear hk
  by_cases hfr:fr<=(i:Int)
  ·rw [decide_eq_true hfr]
   go_enter Tryz.func208,Tryz.ntmps208
   go_wp2
   go_quiet (fail)
   go_wp2
   go_ret
   exact ⟨by simp,_,dW _ _ _⟩
  rw [decide_eq_false hfr]
  have hge:((i:Int) ≥ fr)=False:=by simpa using hfr
  go_enter Tryz.func208,Tryz.ntmps208
  go_wp2
  go_quiet (fail)
  go_wp2
  go_ret
  exact ⟨by simp,_,dW _ _ _⟩
 have h4:kk≠4:=λ y=>h5 (hk.2 y)
 have e5:((pp:Int) == 5)=false:=yQ (b:=5) h5
 have e4:(kk == 4)=false:=by simpa using h4
 rw [e4]
 clear hk h5 h4 e4
 go_enter Tryz.func208,Tryz.ntmps208
 go_wp2
 go_quiet (fail)
 go_wp2
 go_ret
 exact ⟨rfl,_,dW _ _ _⟩
theorem Ic {w:World} {f:Value} {φ:Tv->Bool} (h:dh w f φ) (x:b_) (hx:x.sort=5) (hw:x.wh=φ):iH w f x:=by
 obtain ⟨N,cap,rfl,hE,hN⟩:=h
 refine ⟨N,cap,rfl,hE,λ b pb c pk i L nu _ gv q=>?_⟩
 obtain ⟨_,_,A,D,n,par,ix,hp,rfl⟩:=gv (by simp [b_.late,hx])
 have e:bG x pk L i c=φ c:=by simp [bG,hx,hw]
 rw [e]
 exact hN A D n par ix c hp q
theorem Gd:(Tryz.prog.info? 71).map (λ i=>(i.zero,i.size,i.bytes))=some (some (.pointer none),1,8):=by kernel_rfl
def kE (x:b_) (v:Tv) (m:Nat):List Tv:=(((v.ws.zipIdx).take m).filter (λ p=>bG x v.d.kind v.ws.length p.2 p.1)).map (·.1)
theorem EO (x:b_) (v:Tv):kE x v v.ws.length=cC x v:=by
 unfold kE cC
 rw [List.take_of_length_le (by simp)]
theorem AU (x:b_) (v:Tv) {m:Nat} (h:m<v.ws.length):kE x v (m+1)=kE x v m++(if bG x v.d.kind v.ws.length m v.ws[m]=true then [v.ws[m]] else []):=by
 unfold kE
 rw [List.take_succ_eq_append_getElem (by simpa using h),List.filter_append,List.map_append]
 congr 1
 simp only [List.getElem_zipIdx,Nat.zero_add]
 by_cases hb:bG x v.d.kind v.ws.length m v.ws[m]=true
 ·rw [if_pos hb,List.filter_cons_of_pos (by simpa using hb)]; rfl
 rw [if_neg hb,List.filter_cons_of_neg (by simpa using hb)]; rfl
theorem ER (x:b_) (v:Tv) (m:Nat):(kE x v m).length<=(cC x v).length:=by
 unfold kE cC
 rw [List.length_map,List.length_map]
 exact (List.Sublist.filter _ (List.take_sublist _ _)).length_le
theorem yR {l:List b_} {k:Nat} (h:k<l.length) (v:Tv):(l.take (k+1)).flatMap (λ x=>cC x v)=(l.take k).flatMap (λ x=>cC x v)++cC l[k] v:=by
 rw [List.take_succ_eq_append_getElem h,List.flatMap_append]
 simp
theorem Oe (l:List b_) (k:Nat) (v:Tv):((l.take k).flatMap (λ x=>cC x v)).length<=(fC l v).length:=by
 have e:fC l v=(l.take k++l.drop k).flatMap (λ x=>cC x v):=by rw [List.take_append_drop]; rfl
 rw [e,List.flatMap_append,List.length_append]
 omega
structure PL (w:World) (A:Nat->Nat) (l:List Tv) (sv:Value) (w':World):Prop where
 f:ak w w'
 o:w'.ownsRow w.heap.size 71 1 sv l.length (l.map (iS A))
theorem PL.drewN {w:World} {A:Nat->Nat} {l:List Tv} {sv:Value} {w':World} (h:PL w A l sv w') (k:Nat):PL w A l sv (w'.drewN k):=⟨h.f.drewN k,bJ h.o (λ_ _=>rfl)⟩
def kU (w:World) (f:Value) (F:Tv->List Tv):Prop:=∃N cap,f=.func (.func N) #[] cap/\(∀args w,(callFunc N args).run Tryz.prog w=.ok (.enter N args) w) /\
 ∀(A:Nat->Nat) (D:Nat->Prop) (n:Nat) (par:Value) (ix:Nat) (t:Tv),PT w A D n par ix t->n<=10->(∀k,D k->k<w.heap.size)->∀(found:List Tv) (sv:Value) (w1:World),PL w A found sv w1->found.length+(F t).length<=1000000000000 ->
 Calls Tryz.prog N (#[.pointer (some ⟨A t.d.ai,0,none⟩),sv]++cap) w1 λ r w2=>∃iA,r=.returned iA/\PL w A (found++F t) iA w2
theorem Ig {w:World} {sv:Value} {fs:List Value} {xs:List b_} {B:Nat} (ho:w.ownsRow B 242 1 sv fs.length fs) (hj:fs.length<=1000) (hl:xs.length=fs.length)
 (h:∀i (h1:i<fs.length) (h2:i<xs.length),∀w',ak w w'->iH w' fs[i] xs[i]) {b:Nat} (hb:ay w b #[sv] 241):kU w (.func (.func 211) #[] #[.pointer (some ⟨b,0,none⟩)]) (fC xs):=by
 obtain ⟨i0,hi',hz0,hz1,dN⟩:=info_parts Gd
 have HI:=aa hi'
 have ia:=aa hz0
 have gO:=aa hz1
 have ic:=aa dN
 clear hi' hz0 hz1 dN
 refine ⟨_,_,rfl,λ_ _=>rfl,λ A D n par ix t ht _ hD found sf w1 hP hN=>?_⟩
 have wF:b<w.heap.size:=hb.lt
 have c0:w1.cell? ⟨b,0,none⟩=some sv:=(hP.f.cell (p:=⟨b,0,none⟩) wF id).trans (hb.cell 0)
 have HB:Hid (∀wr:World,ak w wr->wr.cell? ⟨b,0,none⟩=some sv):=λ wr hk=>(hk.cell (p:=⟨b,0,none⟩) wF id).trans (hb.cell 0)
 have HH:=aa h
 obtain ⟨svt,eV⟩:=ht.pc
 have Ye:=eV.l
 obtain ⟨t0,tcp,rfl⟩:=ah eV.o
 have XE:A t.d.ai<w.heap.size:=eV.b.lt
 have HC:Hid (∀wr:World,ak w wr->PC wr A t par ix (.slice t0 t.ws.length tcp)):=λ wr hk=>⟨eV.b.fr hk id,aW eV.o hk (λ_ _ x=>x),eV.d,eV.l⟩
 clear eV
 have HT:Hid (∀wr:World,ak w wr->PT wr A D n par ix t):=λ wr hk=>PT.keep (λ k hk'=>hk.block k (hD k hk') id) _ _ _ _ ht
 have HD:=aa hD
 have HP:=aa hP
 have HN:=aa hN
 obtain ⟨j,jU⟩:∃j,j=fs.length:=⟨_,rfl⟩
 rw [<-jU] at hj ho hl
 obtain ⟨v0,y_,rfl⟩:=ah ho
 have HO:=aa ho
 have HJ:=aa jU
 have HL:=aa hl
 obtain ⟨f0,f1,hfe⟩:=ah hP.o
 obtain ⟨fl,hfl⟩:∃fl,fl=found.length:=⟨_,rfl⟩
 rw [<-hfl] at hfe
 subst hfe
 have pE:=aa hfl
 clear h hb ht ho jU hl hD hP hN hfl
 show Calls Tryz.prog 211 #[.pointer (some ⟨A t.d.ai,0,none⟩),.slice f0 fl f1,.pointer (some ⟨b,0,none⟩)] _ _
 go_enter Tryz.func211,Tryz.ntmps211
 go_wp2
 go_loopw [1,7,9,12] (λ o _ _ i wr=>∃(k:Nat),k<=j/\i=.int .i64 k/\PL w A (found++(xs.take k).flatMap (λ x=>cC x t)) o wr) (λ_ _ _ i _=>j - (intOf i).toNat)
 case atStart=>exact ⟨0,Nat.zero_le _,rfl,by simpa using HP.out⟩
 case round =>
  clear HP c0
  obtain ⟨k,hk,rfl,hS⟩:=hrel
  have S:=aa hS
  have c8:wr.cell? ⟨A t.d.ai,8,none⟩=some (.slice t0 t.ws.length tcp):=(HC.out wr hS.f).b.cell 8
  obtain ⟨m0,m1,hme⟩:=ah hS.o
  obtain ⟨ml,hml⟩:∃ml,ml=(found++(xs.take k).flatMap (λ x=>cC x t)).length:=⟨_,rfl⟩
  rw [<-hml] at hme
  subst hme
  clear hS hml
  by_cases hlt:k<j
  ·have hlf:k<fs.length:=by have:=HJ.out; omega
   have vo:k<xs.length:=by have:=HL.out; omega
   obtain ⟨g,cap,hv,Bg,qg⟩:=HO.out.form (by omega)
   simp only [Value.slice.injEq,true_and] at hv
   obtain ⟨rfl,rfl⟩:=hv
   have hcell:wr.cell? ⟨g,k,none⟩=some fs[k]:=(S.out.f.cell (p:=⟨g,k,none⟩) qg id).trans ((HO.out.cellAt k (by omega)).trans (List.getElem?_eq_getElem hlf))
   have HX:=aa (HH.out k hlf vo)
   have Ng:=aa (yR vo t)
   have hdl:Hid (((xs.take k).flatMap (λ x=>cC x t)).length+(cC xs[k] t).length<=(fC xs t).length):=by
    have:=Oe xs (k+1) t
    rw [yR vo,List.length_append] at this
    exact this
   obtain ⟨N,cp,he,hE,_⟩:=HX.out wr S.out.f
   rw [he] at hcell HX
   generalize xs[k]=x at *
   clear he
   go_wp2
   go_loopw [1,9,21] (λ o _ i wr=>∃(m:Nat),m<=t.ws.length/\i=.int .i64 m/\PL w A (found++(xs.take k).flatMap (λ x=>cC x t)++kE x t m) o wr) (λ_ _ i _=>t.ws.length - (intOf i).toNat)
   case atStart=>exact ⟨0,Nat.zero_le _,rfl,by simpa [kE] using S.out⟩
   case round =>
    clear S c8 hcell
    obtain ⟨m,hm,rfl,hS⟩:=hrel
    have S:=aa hS
    obtain ⟨l,jT⟩:∃l,l=found++(xs.take k).flatMap (λ x=>cC x t)++kE x t m:=⟨_,rfl⟩
    rw [<-jT] at S
    obtain ⟨o0,o1,XX⟩:=ah S.out.o
    obtain ⟨ol,hol⟩:∃ol,ol=l.length:=⟨_,rfl⟩
    rw [<-hol] at XX
    subst XX
    have J7:=S.out.o
    rw [<-hol] at J7
    have HOO:=aa J7
    have js:=aa jT
    have KE:=aa hol
    clear hS J7 jT hol
    by_cases PZ:m<t.ws.length
    ·have hmi:(m:Int)<(t.ws.length:Int):=by omega
     have eV:=HC.out wr S.out.f
     obtain ⟨g2,cap2,lY,AS⟩:=eV.at_ PZ
     simp only [Value.slice.injEq,true_and] at lY
     obtain ⟨rfl,rfl⟩:=lY
     have iZ:=(HT.out wr S.out.f).KH PZ
     obtain ⟨Fe,hkc⟩:=iZ.pc
     have hva:Tw wr (A (t.ws[m]).d.ai) (A t.d.ai) t.ws[m] t.d.kind m (.slice (some ⟨g2,0,none⟩) t.ws.length tcp):=⟨⟨Fe,hkc.b⟩,⟨t.d,par,ix,eV.b,eV.d,rfl⟩,by omega⟩
     obtain ⟨N',cp',he',_,hN'⟩:=HX.out wr S.out.f
     injection he' with Xw _ Lc
     injection Xw with Xw
     subst Xw Lc
     have HC2:=aa (hN' _ _ _ _ _ _ _ hva (λ_=>⟨⟨_,_,rfl⟩,Ye,A,D,_,_,_,iZ,rfl⟩))
     have J_:=aa (AU x t PZ)
     have Mt:=ER x t (m+1)
     have hlen:Hid (ol+(if bG x t.d.kind t.ws.length m t.ws[m]=true then 1 else 0)<=1000000000000):=by
      have h1:=hdl.out
      have h2:=HN.out
      rw [J_.out,List.length_append] at Mt
      show _<=_
      rw [KE.out,js.out,List.length_append,List.length_append]
      split<;>simp_all<;>omega
     clear eV iZ hkc hva hN' Mt
     generalize t.ws[m]=c at *
     generalize bG x t.d.kind t.ws.length m c=bb at *
     cases bb
     ·go_wp2_with fail
      refine (HC2.out 0).mono ?_
      rintro r w3 ⟨rfl,k3,rfl⟩
      have S3:Hid (PL w A (found++(xs.take k).flatMap (λ x=>cC x t)++kE x t (m+1)) (.slice o0 ol o1) (wr.drewN k3)):=by
       rw [J_.out]
       simp only [Bool.false_eq_true,if_false,List.append_nil]
       rw [<-js.out]
       exact S.out.drewN k3
      go_wp2
      go_roundw
      case rel=>exact ⟨m+1,by omega,by go_num,S3.out⟩
      case measure=>simp [intOf]; omega
     have af5:ol+1<=1000000000000:=by have:=hlen.out; simpa using this
     go_wp2_with fail
     refine (HC2.out 0).mono ?_
     rintro r w3 ⟨rfl,k3,rfl⟩
     have bI:(wr.drewN k3).ownsRow w.heap.size 71 1 (.slice o0 ol o1) ol (l.map (iS A)):=bJ HOO.out (λ_ _=>rfl)
     have hsz:w.heap.size<=(wr.drewN k3).heap.size:=S.out.f.size
     have F4:=aa (S.out.f.drewN k3)
     generalize wr.drewN k3=w4 at *
     go_wp2_with (at_builtin; refine wpList_append_own _ rfl _ _ 74 rfl w.heap.size 71 i0 _ 1 8 Tryz.underlying74 HI.out ia.out gO.out ic.out rfl (by decide) _ _ _ rfl (bI.alloc _) ⟨w4.heap.size,0,none⟩ 1 1 [.pointer (some ⟨A c.d.ai,0,none⟩)] rfl rfl ?c1 ?c2 ?c3 ?c4 ?c5 ?_)
     case c1 =>
      intro j u hj
      match j,hj with
      | 0,hj=>simp at hj; subst hj; simp [Addr.add]
     case c2=>intro u hu; simp at hu; subst hu; rfl
     case c3=>unfold maxLen; omega
     case c4=>omega
     case c5=>simp; omega
     intro v' w5 cN hgrow _
     have S5:Hid (PL w A (found++(xs.take k).flatMap (λ x=>cC x t)++kE x t (m+1)) v' w5):=by
      rw [J_.out]
      simp only [if_true]
      rw [<-List.append_assoc,<-js.out]
      refine ⟨(F4.out.alloc _).grown hgrow (λ q hq=>Or.inl (by have:=(bI.lt q hq).1; omega)),?_⟩
      rw [List.map_append,List.length_append,<-KE.out]
      exact cN
     obtain ⟨b5,k5,rfl⟩:=ah cN
     clear cN hgrow bI
     go_wp2
     go_roundw
     case rel=>exact ⟨m+1,by omega,by go_num,S5.out⟩
     case measure=>simp [intOf]; omega
    have hmi:¬(m:Int)<(t.ws.length:Int):=by omega
    have S3:Hid (PL w A (found++(xs.take (k+1)).flatMap (λ x=>cC x t)) (.slice o0 ol o1) wr):=by
     rw [Ng.out,<-List.append_assoc,<-EO,show t.ws.length=m by omega,<-js.out]
     exact S.out
    go_wp2
    go_roundw
    case rel=>exact ⟨k+1,by omega,by go_num,S3.out⟩
    case measure=>simp [intOf]; omega
  have HR:Hid (PL w A (found++fC xs t) (.slice m0 ml m1) wr):=by
   have e:xs.take k=xs:=List.take_of_length_le (by have:=HL.out; omega)
   have:=S.out
   rw [e] at this
   exact this
  go_wp2
  go_ret
  exact ⟨_,rfl,HR.out⟩
theorem PT.all {w:World} {A:Nat->Nat} {D:Nat->Prop}:∀(n:Nat) {par:Value} {ix:Nat} {t:Tv},PT w A D n par ix t->∀m,n<=m->au m t=au n t
 | 0,_,_,_,h,_,_=>absurd h id
 | n+1,_,_,t,h,m,hm=>by
  obtain ⟨m,rfl⟩:∃k,m=k+1:=⟨m - 1,by omega⟩
  show t::t.ws.flatMap (au m)=t::t.ws.flatMap (au n)
  congr 1
  simp only [List.flatMap]
  congr 1
  refine List.map_congr_left (λ c hc=>?_)
  obtain ⟨i,hi,rfl⟩:=List.getElem_of_mem hc
  exact PT.all n (h.KH hi) m (by omega)
theorem Kh (F:Tv->List Tv) (n:Nat) (ws:List Tv) (k:Nat) (h:k<ws.length):(ws.take (k+1)).flatMap (λ c=>(au n c).flatMap F)=(ws.take k).flatMap (λ c=>(au n c).flatMap F)++(au n ws[k]).flatMap F:=by
 rw [List.take_succ_eq_append_getElem h,List.flatMap_append]
 simp
theorem Of (F:Tv->List Tv) (n:Nat) (ws:List Tv) (k:Nat):((ws.take k).flatMap (λ c=>(au n c).flatMap F)).length<=(ws.flatMap (λ c=>(au n c).flatMap F)).length:=by
 have e:ws.flatMap (λ c=>(au n c).flatMap F)=(ws.take k++ws.drop k).flatMap (λ c=>(au n c).flatMap F):=by rw [List.take_append_drop]
 rw [e,List.flatMap_append,List.length_append]
 omega
theorem Ki (F:Tv->List Tv) (n:Nat) (t:Tv):(au (n+1) t).flatMap F=F t++t.ws.flatMap (λ c=>(au n c).flatMap F):=by
 show (t::t.ws.flatMap (au n)).flatMap F=_
 rw [List.flatMap_cons,List.flatMap_assoc]
theorem AV {w:World} {fd:Value} {F:Tv->List Tv} (h:kU w fd F) {b2 b3:Nat} (eK:ay w b2 #[fd] 124)
 (lp:ay w b3 #[.func (.func 210) #[] #[.pointer (some ⟨b2,0,none⟩),.pointer (some ⟨b3,0,none⟩)]] 124) {A:Nat->Nat} {D:Nat->Prop} (hD:∀k,D k->k<w.heap.size) :
 ∀(n:Nat) (par:Value) (ix:Nat) (t:Tv),PT w A D n par ix t->n<=10->∀(found:List Tv) (sv:Value) (w1:World),PL w A found sv w1->found.length+((au n t).flatMap F).length<=1000000000000 ->
 Calls Tryz.prog 210 #[.pointer (some ⟨A t.d.ai,0,none⟩),sv,.pointer (some ⟨b2,0,none⟩),.pointer (some ⟨b3,0,none⟩)] w1 λ r w2=>∃iA,r=.returned iA/\PL w A (found++(au n t).flatMap F) iA w2:=by
 intro n
 induction n with
 | zero=>intro par ix t h; exact absurd h id
 | succ n ih =>
  intro par ix t ht hn found sv w1 hP hN
  obtain ⟨N,cap,rfl,hE,hT⟩:=h
  obtain ⟨svt,eV⟩:=ht.pc
  have Ye:=eV.l
  obtain ⟨t0,tcp,rfl⟩:=ah eV.o
  have HC:Hid (∀wr:World,ak w wr->PC wr A t par ix (.slice t0 t.ws.length tcp)):=λ wr hk=>⟨eV.b.fr hk id,aW eV.o hk (λ_ _ x=>x),eV.d,eV.l⟩
  have h2l:=eK.lt
  have h3l:=lp.lt
  have T7:Hid (∀wr:World,ak w wr->wr.cell? ⟨b2,0,none⟩=some (.func (.func N) #[] cap)):=λ wr hk=>(hk.cell (p:=⟨b2,0,none⟩) h2l id).trans (eK.cell 0)
  have HB3:Hid (∀wr:World,ak w wr->wr.cell? ⟨b3,0,none⟩=some (.func (.func 210) #[] #[.pointer (some ⟨b2,0,none⟩),.pointer (some ⟨b3,0,none⟩)])):=λ wr hk=>(hk.cell (p:=⟨b3,0,none⟩) h3l id).trans (lp.cell 0)
  have HA:=aa (Ki F n t)
  rw [HA.out,List.length_append] at hN
  rw [HA.out]
  have Yf:=aa (hT A D (n+1) par ix t ht hn hD found sv w1 hP (by omega))
  have HIH:=aa (λ(k:Nat) (hk:k<t.ws.length)=>ih (iS A t) k t.ws[k] (ht.KH hk) (by omega))
  have c2:=T7.out w1 hP.f
  have HN:=aa hN
  obtain ⟨s0,s1,qE⟩:=ah hP.o
  obtain ⟨sl,Kr⟩:∃sl,sl=found.length:=⟨_,rfl⟩
  rw [<-Kr] at qE
  subst qE
  clear eK lp hT eV ht ih hP hN Kr HA
  go_enter Tryz.func210,Tryz.ntmps210
  go_wp2_with fail
  refine (Yf.out).mono ?_
  rintro r w2 ⟨iA,rfl,zn⟩
  have S:=aa zn
  have c8:w2.cell? ⟨A t.d.ai,8,none⟩=some (.slice t0 t.ws.length tcp):=(HC.out w2 zn.f).b.cell 8
  obtain ⟨a0,a1,Yg⟩:=ah zn.o
  obtain ⟨al,hal⟩:∃al,al=(found++F t).length:=⟨_,rfl⟩
  rw [<-hal] at Yg
  subst Yg
  clear zn Yf c2 hal
  go_wp2
  go_loopw [1,8,18] (λ o _ i wr=>∃(k:Nat),k<=t.ws.length/\i=.int .i64 k/\PL w A (found++F t++(t.ws.take k).flatMap (λ c=>(au n c).flatMap F)) o wr) (λ_ _ i _=>t.ws.length - (intOf i).toNat)
  case atStart=>exact ⟨0,Nat.zero_le _,rfl,by simpa using S.out⟩
  case round =>
   clear S c8
   obtain ⟨k,hk,rfl,hS⟩:=hrel
   have S:=aa hS
   obtain ⟨m0,m1,hme⟩:=ah hS.o
   obtain ⟨ml,hml⟩:∃ml,ml=(found++F t++(t.ws.take k).flatMap (λ c=>(au n c).flatMap F)).length:=⟨_,rfl⟩
   rw [<-hml] at hme
   subst hme
   have HML:=aa hml
   clear hS hml
   by_cases hlt:k<t.ws.length
   ·have hki:(k:Int)<(t.ws.length:Int):=by omega
    have eV:=HC.out wr S.out.f
    obtain ⟨g2,cap2,lY,AS⟩:=eV.at_ hlt
    simp only [Value.slice.injEq,true_and] at lY
    obtain ⟨rfl,rfl⟩:=lY
    have c3:=HB3.out wr S.out.f
    have XT:=aa (Kh F n t.ws k hlt)
    have hsum:(found++F t++(t.ws.take k).flatMap (λ c=>(au n c).flatMap F)).length+((au n t.ws[k]).flatMap F).length<=1000000000000:=by
     have h1:=Of F n t.ws (k+1)
     rw [XT.out,List.length_append] at h1
     have h2:=HN.out
     rw [List.length_append,List.length_append]
     omega
    have CA:=aa (HIH.out k hlt _ _ wr S.out hsum)
    clear eV hsum
    generalize t.ws[k]=c at *
    go_wp2_with fail
    refine (CA.out).mono ?_
    rintro r w3 ⟨sv3,rfl,KL⟩
    have S3:Hid (PL w A (found++F t++(t.ws.take (k+1)).flatMap (λ c=>(au n c).flatMap F)) sv3 w3):=by
     rw [XT.out,<-List.append_assoc]
     exact KL
    obtain ⟨a3,a4,Yg⟩:=ah KL.o
    obtain ⟨al3,hal⟩:∃al,al=(found++F t++(t.ws.take k).flatMap (λ c=>(au n c).flatMap F)++(au n c).flatMap F).length:=⟨_,rfl⟩
    rw [<-hal] at Yg
    subst Yg
    clear KL hal CA
    go_wp2
    go_roundw
    case rel=>exact ⟨k+1,by omega,by go_num,S3.out⟩
    case measure=>simp [intOf]; omega
   have hki:¬(k:Int)<(t.ws.length:Int):=by omega
   have HR:Hid (PL w A (found++(F t++t.ws.flatMap (λ c=>(au n c).flatMap F))) (.slice m0 ml m1) wr):=by
    have e:t.ws.take k=t.ws:=List.take_of_length_le (by omega)
    have:=S.out
    rw [e,List.append_assoc] at this
    exact this
   go_wp2
   go_ret
   exact ⟨_,rfl,HR.out⟩
theorem Dq {w:World} {fd:Value} {F:Tv->List Tv} (h:kU w fd F) {b2 b3:Nat} (eK:ay w b2 #[fd] 124)
 (lp:ay w b3 #[.func (.func 210) #[] #[.pointer (some ⟨b2,0,none⟩),.pointer (some ⟨b3,0,none⟩)]] 124):kU w (.func (.func 210) #[] #[.pointer (some ⟨b2,0,none⟩),.pointer (some ⟨b3,0,none⟩)]) (λ t=>(au 10 t).flatMap F):=by
 refine ⟨_,_,rfl,λ_ _=>Tryz.call210 _ _,λ A D n par ix t ht hn hD found sv w1 hP hN=>?_⟩
 dsimp only at hN ⊢
 rw [PT.all n ht 10 hn] at hN ⊢
 exact AV h eK lp hD n par ix t ht hn found sv w1 hP hN
theorem Kj {xs:List b_} {k:Nat} (h:k<xs.length) (pk L i:Nat) (c:Tv):gI (xs.take (k+1)) pk L i c=gI (xs.take k) pk L i c+(if bG xs[k] pk L i c=true then 1 else 0):=by
 unfold gI
 rw [List.take_succ_eq_append_getElem h,List.map_append,List.sum_append]
 simp
theorem Kk:∀(xs:List b_) (pk L i:Nat) (c:Tv),gI xs pk L i c<=xs.length
 | [],_,_,_,_=>Nat.le_refl _
 | x::xs,pk,L,i,c=>by
  have:=Kk xs pk L i c
  unfold gI at *
  simp only [List.map_cons,List.sum_cons,List.length_cons]
  split<;>omega
def rN (w:World) (xs:List b_) (b:Nat) (c:Tv) (L:Nat) (nu:Value):Prop:=xs.any b_.late=true->(∃ao cp,nu=.slice ao L cp)/\L<=4000000/\∃A D n par ix,PT w A D n par ix c/\A c.d.ai=b
theorem CT {w:World} {sv:Value} {fs:List Value} {xs:List b_} {B:Nat} (ho:w.ownsRow B 242 1 sv fs.length fs) (hj:fs.length<=1000) (hl:xs.length=fs.length)
 (h:∀i (h1:i<fs.length) (h2:i<xs.length),iH w fs[i] xs[i]) (nodes:Nat) (hn:nodes<=1000000000000000) {b pb:Nat} {c:Tv} {pk i L:Nat} {nu:Value} (hv:Tw w b pb c pk i nu) (gv:0<nodes->rN w xs b c L nu) (q:Nat) :
 Calls Tryz.prog 213 #[.int .i64 (nodes:Nat),sv,.pointer (some ⟨b,0,none⟩)] (w.drewN q) λ r w'=>r=.returned (.int .i64 ((nodes * gI xs pk L i c:Nat):Int))/\∃k,w'=w.drewN k:=by
 have HH:=aa h
 have HV:=aa hv
 have HLA:=aa gv
 obtain ⟨j,jU⟩:∃j,j=fs.length:=⟨_,rfl⟩
 rw [<-jU] at hj ho hl
 obtain ⟨v0,y_,rfl⟩:=ah ho
 have HO:=aa ho
 have HJ:=aa jU
 have HL:=aa hl
 clear h ho jU hl hv gv
 go_enter Tryz.func213,Tryz.ntmps213
 go_wp2
 go_loopw [7,9,12] (λ s _ i0 wr=>∃k q m:Nat,k<=j/\i0=.int .i64 k/\s=.int .i64 (m:Nat)/\m=nodes * gI (xs.take k) pk L i c/\wr=w.drewN q) (λ_ _ i0 _=>j - (intOf i0).toNat)
 case atStart=>exact ⟨0,q,0,Nat.zero_le _,rfl,rfl,by simp [gI],rfl⟩
 case round =>
  obtain ⟨k,q,m,hk,rfl,rfl,hm,rfl⟩:=hrel
  have HM:=aa hm
  clear hm
  by_cases hlt:k<j
  ·have hlf:k<fs.length:=by have:=HJ.out; omega
   have vo:k<xs.length:=by have:=HL.out; omega
   have Yh:=aa (Kj vo pk L i c)
   have hcl:m<=1000000000000000000:=by
    have h1:=Kk (xs.take k) pk L i c
    have h2:=List.length_take_le k xs
    rw [HM.out]
    calc nodes * gI (xs.take k) pk L i c<=1000000000000000 * 1000:=Nat.mul_le_mul hn (by omega)
     _=_:=rfl
   obtain ⟨g,cap,hv,Bg,qg⟩:=HO.out.form (by omega)
   simp only [Value.slice.injEq,true_and] at hv
   obtain ⟨rfl,rfl⟩:=hv
   have hcell:w.cell? ⟨g,k,none⟩=some fs[k]:=(HO.out.cellAt k (by omega)).trans (List.getElem?_eq_getElem hlf)
   obtain ⟨N,cp,he,hE,hN⟩:=HH.out k hlf vo
   rw [he] at hcell
   by_cases h0:nodes=0
   ·subst h0
    have HZ:Hid (m=0 * gI (xs.take (k+1)) pk L i c):=by show _=_; rw [HM.out]; simp
    clear hN he Yh
    go_wp2
    go_roundw
    case rel=>exact ⟨k+1,q,m,by omega,by go_num,rfl,HZ.out,rfl⟩
    case measure=>simp [intOf]; omega
   have hpos:(0:Int)<(nodes:Int):=by omega
   have H:=aa (hN b pb c pk i L nu HV.out (λ hx=>(HLA.out (by omega)) (List.any_eq_true.2 ⟨_,List.getElem_mem vo,hx⟩)))
   clear hN he
   generalize bG xs[k] pk L i c=bb at *
   cases bb
   ·have HZ:Hid (m=nodes * gI (xs.take (k+1)) pk L i c):=by show _=_; rw [Yh.out,HM.out]; simp
    clear Yh
    go_wp2_with fail
    refine (H.out _).mono ?_
    rintro r w1 ⟨rfl,k1,rfl⟩
    go_wp2
    go_roundw
    case rel=>exact ⟨k+1,k1,m,by omega,by go_num,rfl,HZ.out,rfl⟩
    case measure=>simp [intOf]; omega
   have HZ:Hid (m+nodes=nodes * gI (xs.take (k+1)) pk L i c):=by show _=_; rw [Yh.out,HM.out]; simp [Nat.mul_add]
   clear Yh
   go_wp2_with fail
   refine (H.out _).mono ?_
   rintro r w1 ⟨rfl,k1,rfl⟩
   go_wp2
   go_roundw
   case rel=>exact ⟨k+1,k1,m+nodes,by omega,by go_num,by go_num,HZ.out,rfl⟩
   case measure=>simp [intOf]; omega
  have HR:Hid (m=nodes * gI xs pk L i c):=by
   have e:xs.take k=xs:=List.take_of_length_le (by have:=HL.out; omega)
   have:=HM.out
   rw [e] at this
   exact this
  go_wp2
  go_ret
  exact ⟨by rw [<-HR.out]; rfl,q,rfl⟩
def kV (w:World) (f:Value) (deep:Bool) (xs:List b_):Prop:=∃N cap,f=.func (.func N) #[] cap/\(∀args w,(callFunc N args).run Tryz.prog w=.ok (.enter N args) w) /\
 ∀(pN al:Nat),pN<=1000000000000000->al<=1000000000000000->∀(b pb:Nat) (c:Tv) (pk i L:Nat) (nu:Value),Tw w b pb c pk i nu->(0<(if deep then al else pN)->rN w xs b c L nu) ->
 Calls Tryz.prog N (#[.agg #[.int .i64 (pN:Nat),.int .i64 (al:Nat)],.pointer (some ⟨b,0,none⟩)]++cap) w λ r w'=>r=.returned (.int .i64 (((if deep then al else pN) * gI xs pk L i c:Nat):Int))/\ak w w'
theorem Tw.keep {w w':World} {b pb:Nat} {c:Tv} {pk i:Nat} {nu:Value} (h:Tw w b pb c pk i nu) (f:ak w w'):Tw w' b pb c pk i nu:=by
 obtain ⟨⟨Fe,hc⟩,⟨dp,par,Tx,hp,hd⟩,hi⟩:=h
 exact ⟨⟨Fe,hc.fr f id⟩,⟨dp,par,Tx,hp.fr f id,hd⟩,hi⟩
theorem PT.lt {w:World} {A:Nat->Nat} {D:Nat->Prop}:∀(n:Nat) {par:Value} {ix:Nat} {t:Tv},PT w A D n par ix t->PT w A (λ k=>k<w.heap.size) n par ix t
 | 0,_,_,_,h=>h
 | n+1,_,_,_,⟨_,hd,hl,⟨sv,h3,_,h5⟩,h6⟩=>⟨h3.lt,hd,hl,⟨sv,h3,λ k hk=>(h5.lt k hk).2,h5⟩,λ i hi=>PT.lt n (h6 i hi)⟩
theorem PT.up {w w':World} {A:Nat->Nat} {D:Nat->Prop} {n:Nat} {par:Value} {ix:Nat} {t:Tv} (h:PT w A D n par ix t) (f:ak w w'):PT w' A (λ k=>k<w.heap.size) n par ix t:=PT.keep (λ k hk=>f.block k hk id) _ _ _ _ (PT.lt n h)
theorem rN.keep {w w':World} {xs:List b_} {b:Nat} {c:Tv} {L:Nat} {nu:Value} (h:rN w xs b c L nu) (f:ak w w'):rN w' xs b c L nu:=λ hx=>by
 obtain ⟨h1,h2,A,D,n,par,ix,h3,h4⟩:=h hx
 exact ⟨h1,h2,A,_,n,par,ix,h3.up f,h4⟩
theorem xE {w:World} {sv:Value} {fs:List Value} {xs:List b_} {B:Nat} (ho:w.ownsRow B 242 1 sv fs.length fs) (hj:fs.length<=1000) (hl:xs.length=fs.length)
 (h:∀i (h1:i<fs.length) (h2:i<xs.length),∀w',ak w w'->iH w' fs[i] xs[i]) {b:Nat} (hb:ay w b #[sv] 241):kV w (.func (.func 214) #[] #[.pointer (some ⟨b,0,none⟩)]) false xs:=by
 refine ⟨_,_,rfl,λ_ _=>Tryz.call214 _ _,λ pN al h1 h2 bv pb c pk i L nu hv gv=>?_⟩
 have c0:w.cell? ⟨b,0,none⟩=some sv:=hb.cell 0
 obtain ⟨v0,y_,rfl⟩:=ah ho
 obtain ⟨W,hW⟩:∃W,W=w.alloc (.cells #[.int .i64 (pN:Nat),.int .i64 (al:Nat)] 200):=⟨_,rfl⟩
 have hK:ak w W:=by rw [hW]; exact (Fr.refl _ w).alloc _
 simp only [Bool.false_eq_true,if_false] at gv ⊢
 have H:=aa (CT (aW ho hK (λ_ _ x=>x)) hj hl (λ k k1 k2=>h k k1 k2 W hK) pN h1 (hv.keep hK) (λ x=>(gv x).keep hK) 0)
 have HK:=aa hK
 have dy:b<w.heap.size:=hb.lt
 subst hW
 clear h ho hb hv gv hK
 show Calls Tryz.prog 214 #[.agg #[.int .i64 (pN:Nat),.int .i64 (al:Nat)],.pointer (some ⟨bv,0,none⟩),.pointer (some ⟨b,0,none⟩)] _ _
 go_enter Tryz.func214,Tryz.ntmps214
 go_wp2_with fail
 refine (H.out).mono ?_
 rintro r w1 ⟨rfl,k1,rfl⟩
 have HK1:=aa (HK.out.drewN k1)
 clear HK H c0
 go_wp2
 go_ret
 exact ⟨rfl,HK1.out⟩
theorem uL {w:World} {sv:Value} {fs:List Value} {xs:List b_} {B:Nat} (ho:w.ownsRow B 242 1 sv fs.length fs) (hj:fs.length<=1000) (hl:xs.length=fs.length)
 (h:∀i (h1:i<fs.length) (h2:i<xs.length),∀w',ak w w'->iH w' fs[i] xs[i]) {b:Nat} (hb:ay w b #[sv] 241):kV w (.func (.func 212) #[] #[.pointer (some ⟨b,0,none⟩)]) true xs:=by
 refine ⟨_,_,rfl,λ_ _=>Tryz.call212 _ _,λ pN al h1 h2 bv pb c pk i L nu hv gv=>?_⟩
 have c0:w.cell? ⟨b,0,none⟩=some sv:=hb.cell 0
 obtain ⟨v0,y_,rfl⟩:=ah ho
 obtain ⟨W,hW⟩:∃W,W=w.alloc (.cells #[.int .i64 (pN:Nat),.int .i64 (al:Nat)] 200):=⟨_,rfl⟩
 have hK:ak w W:=by rw [hW]; exact (Fr.refl _ w).alloc _
 simp only [if_true] at gv ⊢
 have H:=aa (CT (aW ho hK (λ_ _ x=>x)) hj hl (λ k k1 k2=>h k k1 k2 W hK) al h2 (hv.keep hK) (λ x=>(gv x).keep hK) 0)
 have HK:=aa hK
 have dy:b<w.heap.size:=hb.lt
 subst hW
 clear h ho hb hv gv hK
 show Calls Tryz.prog 212 #[.agg #[.int .i64 (pN:Nat),.int .i64 (al:Nat)],.pointer (some ⟨bv,0,none⟩),.pointer (some ⟨b,0,none⟩)] _ _
 go_enter Tryz.func212,Tryz.ntmps212
 go_wp2_with fail
 refine (H.out).mono ?_
 rintro r w1 ⟨rfl,k1,rfl⟩
 have HK1:=aa (HK.out.drewN k1)
 clear HK H c0
 go_wp2
 go_ret
 exact ⟨rfl,HK1.out⟩
end Go.Proofs.YtcbadebjpogmlaaGreatDoor
