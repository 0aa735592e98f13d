import Derived.Test.YtcbadebjpogmlaaGreatDoorVvTzG
import Derived.Test.YtcbadebjpogmlaaGreatDoorVvLwBm
set_option maxHeartbeats 8000000
set_option maxRecDepth 100000
namespace Go.Proofs.YtcbadebjpogmlaaGreatDoor
open Go.RowKit Tr Go.Proofs.Tryz
theorem Kg{w:World}{g:Nat}{c a:Array Value}{T b:TypeId}(h:V w g c T)(d:V w g a b)(f:T≠b):False:=by have e:=(show w.heap[g]?=_ from h).symm.trans d;simp at e;exact f e.2
theorem yi:(prog.info? 97).map (λi=>(i.zero,i.size,i.bytes))=some (some (.pointer none),1,8):=by kernel_rfl
set_option linter.unusedSimpArgs false in
theorem Dt {w:World} (hE:EN w) {gw:Nat} {col:Nat->Nat} {r:Rv} {nx:Nat} {ps:List PX} {fs:List FX} {ns ms:List (Value×Int)} (h:LA lg w gw col r nx ps fs ns ms) {b:Nat} (Df:∀f ∈ fs,f.p.size<=b) (hp:0<ps.length) (hf:fs.length<=2000000000000) (k at_ m:Int) (hk:k=4) (s:ByteArray) :
 Calls prog 30 #[pT gw,.agg #[.int .i64 k,.int .i64 at_,.int .i64 m,.string s]] w λe w'=>e=.returned (.bool true)/\gI lg gw col ⟨ps.length,fs.length,ns.length,ms.length,nx,b⟩ w w':=by
 subst hk
 obtain ⟨i0,hi,hz0,hz1,eE⟩:=info_parts yi
 have HI:=Z hi
 have iK:=Z hz0
 have iz:=Z hz1
 have ja:=Z eE
 obtain ⟨W1,mQ⟩:∃W1,W1=w.alloc (.cells #[.int .i64 4,.int .i64 at_,.int .i64 m,.string s] 64):=⟨_,rfl⟩
 obtain ⟨ob,hob⟩:∃ob,ob=w.heap.size:=⟨_,rfl⟩
 have F1:Q w W1:=by rw [mQ]; exact (Fr.refl _ w).alloc _
 have X1:V W1 ob #[.int .i64 4,.int .i64 at_,.int .i64 m,.string s] 64:=by rw [mQ,hob]; exact V.new w _ _
 have L1:=h.keep gK F1
 obtain ⟨g,cap,p,VJ,_,P⟩:=vI L1 hp at_
 obtain ⟨D,d1,d2,d3⟩:=(L1.pk p VJ).ok
 have hsel:=(L1.pk p VJ).AJ
 obtain ⟨q1,⟨q2,q3⟩,q4⟩:=d3.self
 have yf:=q1.lt
 have x1:W1.cell? (aD ob 1)=some (.int .i64 at_):=X1.cell 1
 have x0:W1.cell? (aD ob 0)=some (.int .i64 4):=X1.cell 0
 have b0:=P.l
 have bc:=P.c
 have hj:=P.lt
 have p0:W1.cell? (aD p.gp 0)=some (pT p.gx):=q1.cell 0
 have p1:W1.cell? (aD p.gp 1)=some (pT p.gq):=q1.cell 1
 have XS:Hid (∀W,Q W1 W->Calls prog 37 #[pT p.gx] W (StP p.b p.tt p.xs D W)):=λW kW=>by
  have sm:=Sm.fr d1 kW (λ_ _ x=>x)
  exact Ix (d3 W sm).2.1.1 (λW' s'=>((d3.keep sm) W' s').2.1.2) (λk hk=>aI (d1.lt hk) kW.size) (hE.keep (F1.trans kW))
 have Tp:Hid (∀w':World,Calls prog 43 #[.int .i64 at_,.int .i64 ps.length] w' λr w2=>r=.returned (.int .i64 (ds at_ ps.length:Nat))/\w2=w'):=λw'=>rK at_ ps.length
 have x_:=F1.size
 obtain ⟨fa,fc,PM⟩:=X h.of
 obtain ⟨F,hF⟩:∃F,F=fs.length:=⟨_,rfl⟩
 -- behind both makings
 have xr:Hid (∀W w3 sv,Q W1 W->StP p.b p.tt p.xs D W (.returned sv) w3->Q W1 w3/\∃sb,sv=pT sb/\∀UA,UA=w3.drew.alloc (.cells (ug p.gq ⟨#[]⟩ 0 0 0 false) 156)->∀g4 mW w4,
  w4.ownsRow (gw+1) 97 1 (.slice (sA g4) (F+1) mW) (F+1) (fs.map FX.ptr++[pT UA.heap.size]) ->
  ((UA.alloc (.cells #[pT sb,pT w3.heap.size] 101)).alloc (.cells #[pT UA.heap.size] 97)).grownBy w4 (Value.slice fa F fc).ownBlock->((Value.slice fa F fc).ownBlock=some g4\/g4=UA.heap.size+1+1) ->
  V w4 gw #[r.l,.slice fa F fc,r.ns,r.nm,r.ms,r.mm,.int .i64 (nx:Nat)] 61/\(w4.cell? (aD p.gp 1)=some (pT p.gq)/\(w4.setCell (aD gw 1) (.slice (sA g4) (F+1) mW)).cell? (aD p.gp 1)=some (pT p.gq))/\gI lg gw col ⟨ps.length,fs.length,ns.length,ms.length,nx,b⟩ w (w4.setCell (aD gw 1) (.slice (sA g4) (F+1) mW))):=λW w3 sv kW hst=>by
  obtain ⟨sb,rr,ff,Er,E,e0,s1,s2,s3,s4,s5,s6,s7,s8,s9⟩:=hst
  have k3:Q W1 w3:=kW.trans s9
  refine ⟨k3,sb,by simpa [dW] using e0,λUA VK g4 mW w4 ho hg ha=>?_⟩
  have kA:Q w3 UA:=by rw [VK]; exact ((Fr.refl _ _).drew).alloc _
  have kWA:Q W1 UA:=k3.trans kA
  have sm:Sm D W1 UA:=Sm.fr d1 kWA (λ_ _ x=>x)
  have adn:p.xs.length<=10:=az (lh p.xs (eh _)) hsel
  have hS:=(Ae s1 s2 s3 s4 s5).keep adn hsel (λk hk=>kA.block k ((Ae s1 s2 s3 s4 s5).lt hk) id) kA.size
  have zw:W1.heap.size<=W.heap.size:=kW.size
  have SN:W1.heap.size<=w3.heap.size:=k3.size
  have A:=P_ (gy:=w3.heap.size) (v':=.slice (sA g4) (F+1) mW) L1 (p:=p) hsel (D:=D) kWA (λk hk=>⟨d1.lt hk,d2 k hk⟩) (λW' s'=>by
   have:=(d3.keep sm) W' s'
   exact ⟨this.2.2.1,this.2.2.2.2.2.2⟩) hS (λk hk=>⟨d1.lt hk,d2 k hk⟩) (λk hk=>by
   rcases hk with y | y | y
   ·exact I (I (by have:=s7 k y; omega))
   ·rcases s8 k y with z | z | z
    ·exact Y z
    ·exact I (Y z)
    exact I (I om)
   ·exact I (I om)) (I (I rfl)) (λe=>tY _ ((Ae s1 s2 s3 s4 s5).lt e)) om SN (by rw [VK]; exact V.new w3.drew _ _) (by rw [<-hF]; exact ho) (by rw [PM,<-hF]; exact hg) (by
   rw [PM,<-hF]
   rcases ha with y | y
   ·exact Y y.symm
   exact I (gV some y))
  obtain ⟨A1,dV,f,fp,A2,A3,A4⟩:=A
  rw [PM,<-hF] at A1
  have hpw:p.gp≠gw:=λe=>Kg q1 (e▸h.blk.fr F1 id) de
  have nV:=h.blk.lt
  have c4:w4.cell? (aD p.gp 1)=some (pT p.gq):=by
   have e1:V UA p.gp #[pT p.gx,pT p.gq] 95:=q1.fr kWA id
   have e2:V w4 p.gp #[pT p.gx,pT p.gq] 95:=by
    have e3:=(e1.alloc (.cells #[pT sb,pT w3.heap.size] 101)).alloc (.cells #[pT UA.heap.size] 97)
    refine (hg.block p.gp e3.lt (λy=>?_)).trans e3
    have o:=h.of
    rw [PM,<-hF] at o
    obtain ⟨cs,b⟩:=rH (aS o F1 (λ_ _=>id)) y.symm
    exact Kg q1 b de
   exact e2.cell 1
  refine ⟨A1,⟨c4,?_⟩,?_⟩
  ·rw [World.cell?_setCell_far _ _ _ _ (by show gw≠p.gp; exact λe=>hpw e.symm)]; exact c4
  refine gI.of F1 A2 A3 (λk hk=>A4 k hk) ⟨aP _,gT _⟩ ⟨si,si⟩ (Nat.le_add_right _ _) (Nat.le_add_right _ _) (gT _) (λf2 hf2=>?_)
  rcases gU.1 hf2 with y | y
  ·exact Df f2 y
  rw [dy.1 y,fp]; exact aT _
 have XM:Hid (∀W,Q W1 W->W.ownsRow (gw+1) 97 1 (.slice fa F fc) F (fs.map FX.ptr)/\W.cell? (aD gw 1)=some (.slice fa F fc)):=λW kW=>by
  have o:=aS h.of (F1.trans kW) (λ_ _=>id)
  have c:W.cell? (aD gw 1)=some r.f:=(h.blk.fr (F1.trans kW) id).cell 1
  rw [PM,<-hF] at o c
  exact ⟨o,c⟩
 have hFl:F<=2000000000000:=om
 have GW:Hid (gw<W1.heap.size):=Z (by have:=h.blk.lt; omega)
 have me:=Z mQ
 have Zr:=Z hob
 unfold PX.ptr at bc
 generalize ds at_ ps.length=j at *
 generalize ps.length=N at *
 clear h mQ hob X1 L1 VJ P d1 d2 d3 q1 q2 q3 q4 F1 hE Df hsel PM hF hi hz0 hz1 eE x_ hf
 go_enter func30,ntmps30
 go_upto_region 1 with fail
 rw [<-me.o,<-Zr.o]
 go_wp2_with fail
 go_quiet ((go_at_call 43; exact Calls.quiet_of_same (Tp.o _)))
 go_wp2_with fail
 refine (XS.o _ ((Fr.refl _ _).drewN _)).mono ?_
 rintro e w3 hst
 obtain ⟨XN,he⟩:∃XN,e=.returned XN:=by obtain ⟨sb,_,_,_,_,e0,_⟩:=hst; exact ⟨_,e0⟩
 subst he
 obtain ⟨k3,sb,rfl,AP⟩:=xr.o _ w3 XN ((Fr.refl _ _).drewN _) hst
 have K3:=Z k3
 have Zt:=Z AP
 obtain ⟨UA,VK⟩:∃UA,UA=w3.drew.alloc (.cells (ug p.gq ⟨#[]⟩ 0 0 0 false) 156):=⟨_,rfl⟩
 have Zu:=Z (Zt.o UA VK)
 have HUA:=Z VK
 have KA:Hid (Q W1 UA):=by rw [VK]; exact (k3.drew).alloc _
 have S0:Hid (w3.drew.cell? (aD p.gp 1)=some (pT p.gq)):=(k3.drew.cell (p:=aD p.gp 1) yf id).trans p1
 have S1:Hid (UA.cell? (aD p.gp 1)=some (pT p.gq)):=(KA.o.cell (p:=aD p.gp 1) yf id).trans p1
 have S2:Hid ((UA.alloc (.cells #[pT sb,pT w3.heap.size] 101)).cell? (aD p.gp 1)=some (pT p.gq)):=((KA.o.alloc _).cell (p:=aD p.gp 1) yf id).trans p1
 have S3:Hid (((UA.alloc (.cells #[pT sb,pT w3.heap.size] 101)).alloc (.cells #[pT UA.heap.size] 97)).cell? (aD p.gp 1)=some (pT p.gq)):=(((KA.o.alloc _).alloc _).cell (p:=aD p.gp 1) yf id).trans p1
 have m0:w3.drew.cell? (aD gw 1)=some (.slice fa F fc):=(XM.o _ k3.drew).2
 have m1:UA.cell? (aD gw 1)=some (.slice fa F fc):=(XM.o _ KA.o).2
 have m2:(UA.alloc (.cells #[pT sb,pT w3.heap.size] 101)).cell? (aD gw 1)=some (.slice fa F fc):=(XM.o _ (KA.o.alloc _)).2
 have m3:((UA.alloc (.cells #[pT sb,pT w3.heap.size] 101)).alloc (.cells #[pT UA.heap.size] 97)).cell? (aD gw 1)=some (.slice fa F fc):=(XM.o _ ((KA.o.alloc _).alloc _)).2
 have OWN:=Z (XM.o _ ((KA.o.alloc (.cells #[pT sb,pT w3.heap.size] 101)).alloc (.cells #[pT UA.heap.size] 97))).1
 have AG:Hid (∀u ∈ [pT UA.heap.size],u.oneCell'=true):=by intro u hu; rw [dy.1 hu]; rfl
 have LI:Hid (∀(j:Nat) (u:Value),[pT UA.heap.size][j]?=some u->((UA.alloc (.cells #[pT sb,pT w3.heap.size] 101)).alloc (.cells #[pT UA.heap.size] 97)).cell? (((aD (UA.heap.size+1) 0):Addr).add j)=some u):=by
  intro j u hj
  match j,hj with
  | 0,hj=>simp at hj; subst hj; simp [Addr.add]
 have GSZ:Hid (gw+1<=((UA.alloc (.cells #[pT sb,pT w3.heap.size] 101)).alloc (.cells #[pT UA.heap.size] 97)).heap.size):=by
  have:=GW.o; have:=KA.o.size; simp only [World.size_alloc]; exact Z om
 have q1:w3.cell? (aD p.gp 1)=some (pT p.gq):=S0.o
 clear hst k3 AP VK xr XS Tp XM K3 Zt KA GW
 go_upto_region 13 with fail
 refine wp_region_held_drew (S:=λW=>W.cell? (aD p.gp 1)=some (pT p.gq)) (by kernel_rfl) S0.o (λhS=>?_)
 refine htk 0 ?_
 refine htk 1 ?_
 refine htk 2 ?_
 refine htk 3 ?_
 refine htk 5 ?_
 refine htk 6 ?_
 refine htk 7 ?_
 refine htk 8 ?_
 refine htk 9 ?_
 refine dA [4,10] ?_
 refine AllReadyH.cons rfl (λK hK=>?_) ?_
 focus
  go_simp
  refine hK.out _ _ (by assumption) (λ_=>?_)
  clear hK K
  refine dA [10] ?_
 rotate_left
 all_goals
  refine hone λK hK=>?_
  go_simp
  refine mo (Kh (gq:=p.gq)) λwq hwq=>?_
  rw [<-HUA.o] at hwq
  have hwq:=hwq.symm
  subst hwq
  refine hK.out _ _ S1.o (λ_=>?_)
  clear hK K
  refine htk 11 ?_
 refine dA [4,12] ?_
 refine AllReadyH.cons rfl (λK hK=>?_) ?_
 focus
  go_simp
  refine hK.out _ _ (by assumption) (λ_=>?_)
  clear hK K
  refine dA [12] ?_
 rotate_left 2
 refine dA [12] ?_
 all_goals
  refine hone λK hK=>?_
  go_simp
  refine hK.out _ _ S2.o (λ_=>?_)
  clear hK K
 rotate_left 2
 refine dA [4,13] ?_
 refine AllReadyH.cons rfl (λK hK=>?_) ?_
 focus
  go_simp
  refine hK.out _ _ (by assumption) (λ_=>?_)
  clear hK K
  refine dA [13] ?_
 rotate_left 2
 iterate 2 (refine dA [13] ?_; rotate_left)
 all_goals
  refine hone λK hK=>?_
  go_simp
  refine hK.out _ _ S3.o (λ_=>?_)
  clear hK K
 rotate_left
 focus
  refine dA [4] ?_
  refine hone λK hK=>?_
  go_simp
  refine hK.out _ _ (by assumption) (λ_=>?_)
  clear hK K
 all_goals
  refine dA [14] ?_
  refine hone λK hK=>?_
  refine step_append_lies _ rfl (.tmp 103) (.tmp 112) 57 rfl (gw+1) 97 i0 _ 1 8 underlying57 HI.o iK.o iz.o ja.o rfl de (.slice fa F fc) F (fs.map FX.ptr) rfl OWN.o (aD (UA.heap.size+1) 0) 1 1 [pT UA.heap.size] rfl rfl LI.o AG.o om (by unfold maxLen; omega) om GSZ.o _ rfl ?_
  intro g4 mW w4 ho hg ha _
  rw [World.size_alloc,World.size_alloc] at ha
  obtain ⟨b4,s4,Zv⟩:=Zu.o g4 mW w4 ho hg ha
  have R4:=Z Zv
  have d4:w4.cell? (aD gw 1)=some (.slice fa F fc):=b4.cell 1
  have z4:=b4.fz
  have S5:=Z s4
  clear ho hg ha Zv b4 s4
  refine hK.out _ _ S5.o.1 (λ_=>?_)
  clear hK K
  refine htk 15 ?_
  refine htk 16 ?_
  refine dA [17] ?_
  refine hone λK hK=>?_
  go_simp
  refine hK.out _ _ S5.o.2 (λ_=>?_)
  clear hK K
  try simp only [Act.put,mU]
  refine wpAnyH_done (by kernel_rfl) ?_ _
  go_wp2
  go_ret
  exact ⟨rfl,R4.o⟩
