import Derived.Test.YtcbadebjpogmlaaGreatDoorVsRrF
import Derived.Test.YtcbadebjpogmlaaGreatDoorVsRefF
import Derived.Test.YtcbadebjpogmlaaGreatDoorVsAa
set_option maxHeartbeats 4000000
set_option maxRecDepth 100000
namespace Go.Proofs.YtcbadebjpogmlaaGreatDoor
open Go.RowKit Tr
structure yZ where
 x:Sg
 a:Option Addr
 cp:Nat
 tx:ByteArray
def yZ.v (e:yZ):gW:=⟨e.x.deep,e.a,e.x.l.length,e.cp,e.tx⟩
def yZ.c (e:yZ):List Value:=e.v.cells
def SgF (_:Nat) (w:World) (e:yZ):Prop:=∃ps D,ps.map (·.1)=e.x.l/\bP 189 6 me 0 Na D (.slice e.a e.x.l.length e.cp) ps w
theorem Cx (ls:List yZ):ls.flatMap yZ.c=cellsOf (ls.map yZ.v):=by
 unfold cellsOf
 rw [List.flatMap_map]
 rfl
theorem Xk {w:World} {p:b_×Value} {D:Nat->Prop} {i B:Nat} (ft:Ft D B w) (h:fR D w (λ w=>Na i w p)):Uf w p.1 p.2:=by
 obtain ⟨h1,h2,h3⟩:=h.self
 refine ⟨h1,h2,λ e=>?_⟩
 obtain ⟨g,hg,_⟩:=h3 e
 refine ⟨g,hg,λ w' k A D' hi n t ht=>?_⟩
 obtain ⟨_,_,h4⟩:=h w' (Sm.fr ft k (λ_ _ x=>x))
 obtain ⟨g',hg',hc⟩:=h4 e
 have:g'=g:=by rw [hg] at hg'; simpa using hg'.symm
 subst this
 exact hc A D' hi n t ht
theorem AE {w:World} {ps:List (b_×Value)} {D:Nat->Prop} {sl:Value} {l:List b_} (hl:ps.map (·.1)=l) (h:bP 189 6 me 0 Na D sl ps w):su w sl l:=by
 refine ⟨ps,hl,?_,λ p hp=>?_⟩
 ·have e:l.length=ps.length:=by rw [<-hl]; simp
  rw [e]; exact h.o
 obtain ⟨i,hi,rfl⟩:=List.mem_iff_getElem.1 hp
 exact Xk h.ft (h.ok i hi)
theorem AF {w:World} {ls:List yZ} {D:Nat->Prop} {B:Nat} {v:Value} (h:bP 152 3 yZ.c B SgF D v ls w):rA w v (ls.map (·.x)):=by
 refine ⟨ls.map (λ e=>(e.x,.slice e.a e.x.l.length e.cp,e.tx)),by simp [List.map_map],?_,λ p hp=>?_⟩
 ·have e:(ls.map (λ e:yZ=>(e.x,Value.slice e.a e.x.l.length e.cp,e.tx))).flatMap JE=ls.flatMap yZ.c:=by
   rw [List.flatMap_map]
   rfl
  rw [List.length_map,e]
  exact iG h.o
 obtain ⟨e,he,rfl⟩:=List.mem_map.1 hp
 obtain ⟨i,hi,rfl⟩:=List.mem_iff_getElem.1 he
 obtain ⟨ps,D',h1,h2⟩:=(h.ok i hi).self
 exact AE h1 h2
def PA (z:Nat) (s:List UInt8) (u:St) (l:List gW) (v:Value) (W:World):Prop:=∃ls D m,l=ls.map yZ.v/\bP 152 3 yZ.c z SgF D v ls W/\u=tP ⟨1,0,0⟩ m/\ls.length<=m/\∀N,i_ s (N+ls.length) 1 []=i_ s N u.p (ls.map (·.x))
theorem PA.fr {z:Nat} {s:List UInt8} {u:St} {l:List gW} {v:Value} {W W':World} (h:PA z s u l v W) {K:Nat->Prop} (f:Fr K W W') (hk:∀k,z<=k->¬K k):PA z s u l v W':=by
 obtain ⟨ls,D,m,h1,h2,h3⟩:=h
 exact ⟨ls,D,m,h1,h2.fr f hk,h3⟩
theorem PA.push {z zr:Nat} {s:List UInt8} {u u2:St} {l:List gW} {v:Value} {v2 w3:World} {deep:Bool} {a:Option Addr} {k cp g cap:Nat} {eF:ByteArray} (h:PA z s u l v v2) (d:SgD s u u2 deep k zr (.slice a k cp) v2) (hlt:u.p<s.length) (hA:∀q,v.ownBlock=some q->q<zr) (hz:z<=zr)
 (hown:w3.ownsRow z 152 3 (.slice (some ⟨g,0,none⟩) (l.length+1) cap) (l.length+1) (cellsOf l++[.bool deep,.slice a k cp,.string eF])) (hg:((v2.alloc (.cells #[.bool deep,.slice a k cp,.string eF] 152)).alloc (.cells #[.bool deep,.slice a k cp,.string eF] 152)).drew.grownBy w3 v.ownBlock) (bN:v.ownBlock=some g\/g=((v2.alloc (.cells #[.bool deep,.slice a k cp,.string eF] 152)).alloc (.cells #[.bool deep,.slice a k cp,.string eF] 152)).drew.heap.size) :
 PA z s u2 (l++[⟨deep,a,k,cp,eF⟩]) (.slice (some ⟨g,0,none⟩) (l.length+1) cap) w3:=by
 obtain ⟨ls,D,m,rfl,h2,rfl,h4,h5⟩:=h
 obtain ⟨x,j,ps,D2,hk,rfl,hj,hp,hm,Xl⟩:=d
 subst hk
 have key:=bP.fr (bP.alloc (bP.alloc h2 (.cells #[.bool deep,.slice a x.length cp,.string eF] 152)) (.cells #[.bool deep,.slice a x.length cp,.string eF] 152)) (K:=λ_=>False) ((Fr.refl _ _).drew) (λ_ _ x=>x)
 have Mq:=Xl.Hq (by decide)
 have s1:=iP Mq (.cells #[.bool deep,.slice a x.length cp,.string eF] 152)
 have s2:=iP (Mq.keep s1) (.cells #[.bool deep,.slice a x.length cp,.string eF] 152)
 have f2:=(Mq.keep s1).keep s2
 have o2:fR _ v2 (λ w=>SgF ls.length w ⟨⟨deep,x⟩,a,cp,eF⟩):=λ W sm=>⟨ps,D2,hm,(Xl.sm sm).low (Nat.zero_le _)⟩
 have hl:(ls.map yZ.v).length=ls.length:=List.length_map _
 rw [hl] at hown ⊢
 rw [<-Cx] at hown
 refine ⟨ls++[⟨⟨deep,x⟩,a,cp,eF⟩],_,m+j,by rw [List.map_append]; rfl,key.push (f:=⟨⟨deep,x⟩,a,cp,eF⟩) (A:=zr) hA hz ⟨f2.ge,f2.ty⟩ (λ w' sm=>((o2.keep s1).keep s2) w' sm) hown hg ?_,jP _ _ _,by rw [List.length_append]; show _+1<=_; omega,λ N=>?_⟩
 ·rcases bN with y | y
  ·exact Or.inl y.symm
  exact Or.inr (by rw [y]; rfl)
 rw [List.length_append,List.length_singleton,show N+(ls.length+1)=(N+1)+ls.length by omega,h5,i_,if_pos hlt,hp,List.map_append]
 rfl
def Yx (w:World) (gq:Nat) (v:Value) (l:List gW) (xs:List Sg):Prop:=ay w gq #[v] 148/\w.ownsRow 1 152 3 v l.length (cellsOf l)/\l.length<=121/\(∀g ∈ l,g.tx.size<=200)/\rA w v xs
def CmR (s:ByteArray) (w:World) (r:Ending) (w':World):Prop :=
 ak w w'/\((∃e p,EX (bs s) e p/\r=.returned (.tuple #[.pointer none,.int .i64 (e:Nat),.int .i64 (p:Nat)])) \/
  (bz (bs s)/\10<C (bs s) (s.size+1)/\r=.returned (.tuple #[.pointer none,.int .i64 1,.int .i64 0])) \/
  (bz (bs s)/\C (bs s) (s.size+1)<=10/\∃gq v l D,r=.returned (.tuple #[.pointer (some ⟨gq,0,none⟩),.int .i64 0,.int .i64 0])/\T (bs s) (s.size+1)=[36]++iF l/\Ft D w.heap.size w'/\fR D w' (λ w=>Yx w gq v l (cK (bs s)))))
theorem uE {w:World} {s:ByteArray} (hs:s.size<=120) :
 Calls Tryz.prog 41 #[.string s] w (CmR s w):=by
 obtain ⟨i0,hi,hz0,hz1,dN⟩:=info_parts Tryz.ym
 have HI:=aa hi
 have ia:=aa hz0
 have gO:=aa hz1
 have ic:=aa dN
 clear hi hz0 hz1 dN
 have hd:¬(120:Int)<(s.size:Int):=by omega
 have M0:Hid (aZ ((w.alloc (.cells #[.string s,.int .i64 0,.int .i64 0,.int .i64 0] 145)).alloc (.cells #[.slice none 0 0] 148)) w.heap.size s ⟨0,0,0⟩):=by
  have hm:aZ (w.alloc (.cells #[.string s,.int .i64 0,.int .i64 0,.int .i64 0] 145)) w.heap.size s ⟨0,0,0⟩:=heap_alloc_new w _
  exact hm.alloc _
 have Q0:Hid (ay ((w.alloc (.cells #[.string s,.int .i64 0,.int .i64 0,.int .i64 0] 145)).alloc (.cells #[.slice none 0 0] 148)) (w.heap.size+1) #[.slice none 0 0] 148):=by
  have:=ay.new (w.alloc (.cells #[.string s,.int .i64 0,.int .i64 0,.int .i64 0] 145)) #[.slice none 0 0] 148
  unfold Hid; simpa using this
 have F0:Hid (ak w ((w.alloc (.cells #[.string s,.int .i64 0,.int .i64 0,.int .i64 0] 145)).alloc (.cells #[.slice none 0 0] 148))):=((Fr.refl _ w).alloc _).alloc _
 have HO:=aa (xL (bs s))
 have E1:Hid (bz (bs s)->aN (bs s) ⟨0,0,0⟩ [36]=tP ⟨1,0,0⟩ 0):=aa (λ hf=>(gM (HO.out.resolve_right (λ h=>gR hf h)).e0).2.2)
 go_enter Tryz.func41,Tryz.ntmps41
 go_wp2_with fail
 refine (dS M0.out ⟨#[36]⟩ (by decide) hs).mono ?_
 rintro r v1 ⟨rfl,gg⟩
 rw [D7] at gg
 have M1:=aa gg.m
 have Q1:=aa (Q0.out.rd gg (by omega))
 have F1:=aa (F0.out.new gg.f (λ i hi e=>by unfold PB at e; omega))
 clear gg
 generalize aN (bs s) ⟨0,0,0⟩ [36]=u1 at *
 go_wp2_with fail
 go_loopw [7] (λ_ wr=>∃(u:St) (l:List gW) (v:Value),aZ wr w.heap.size s u/\ay wr (w.heap.size+1) #[v] 148/\wr.ownsRow (w.heap.size+2) 152 3 v l.length (cellsOf l)/\ak w wr/\kJ (bs s) (iO l) ([36]++iF l) u/\(u.e=0->l.length<=u.p)/\l.length<=121/\(∀g ∈ l,g.tx.size<=200)/\(bz (bs s)->PA (w.heap.size+2) (bs s) u l v wr)) (λ_ wr=>kF w.heap.size s.size wr)
 case atStart=>exact ⟨u1,[],_,M1.out,Q1.out,World.ownsRow_nil _ _ _ _,F1.out,HO.out,λ_=>Nat.zero_le _,Nat.zero_le _,λ_ h=>(by simp at h),λ hf=>⟨[],_,0,rfl,bP.nil _ _ _ _ _ _,E1.out hf,Nat.le_refl _,λ_=>by rw [E1.out hf]; rfl⟩⟩
 case round =>
  clear M1 Q1 F1 HO M0 Q0 F0 E1
  obtain ⟨u,l,v,hM,hQ,hown,hF,ho,vo,hl1,hsm,hcd⟩:=hrel
  have hle:u.p<=s.size:=by
   have:u.p<=(bs s).length:=by rcases ho with h | h; exact h.le; exact h.er.le
   rw [an] at this; exact this
  have q1:=hM.c1
  have q2:=hM.c2
  have MM:=aa hM
  have QQ:=aa hQ
  have WW:=aa hown
  have FF:=aa hF
  have OO:=aa ho
  have LP:=aa vo
  have SM:=aa hsm
  have CD:=aa hcd
  clear hM hQ hown hF ho vo hsm hcd
  by_cases he:u.e=0
  ·have Ub:((u.e:Int) == 0)=true:=by rw [he]; rfl
   have HE:=aa he
   clear he
   by_cases hp:u.p<s.size
   ·have rR:decide ((u.p:Int)<(s.size:Int))=true:=by simp; omega
    have HB:Hid (lS (bs s) (iO l) ([36]++iF l) u):=by
     rcases OO.out with h | h
     ·exact h
     exact absurd HE.out h.ne
    go_wp2_with fail
    refine (Ei MM.out hs HB.out hp).mono ?_
    clear q1 q2
    rintro r v2 ⟨deep,a,k,cp,eF,u2,rfl,gg,o2,lt2,tx2,d2⟩
    have M2:=aa gg.m
    have Q2:=aa (QQ.out.rd gg (by omega))
    have W2:=aa (aW WW.out gg.f (λ g hg e=>by unfold PB at e; omega))
    have F2:=aa (FF.out.new gg.f (λ i hi e=>by unfold PB at e; omega))
    have O2:=aa o2
    have L2:=aa lt2
    have T2:=aa tx2
    have CD2:=aa (λ hf=>(CD.out hf).fr gg.f (λ g hg e=>by unfold PB at e; omega))
    have D2:=aa d2
    have E8:w.heap.size+2<=wr.heap.size:=QQ.out.lt
    have hra:Hid (∀k,v.ownBlock=some k->k<wr.heap.size):=λ k hk=>(WW.out.lt k hk).2
    clear gg o2 lt2 tx2 d2
    obtain ⟨a0,c0,rfl⟩:=ah W2.out
    have ZU:w.heap.size+1<v2.heap.size:=Q2.out.lt
    have hm2:w.heap.size<v2.heap.size:=M2.out.lt
    have k0:=Q2.out.cell 0
    simp at k0
    have kf:=Q2.out.fz 0
    have kq:=W2.out
    go_wp2_with fail
    go_region_law (refine step_append_lies _ rfl _ _ 146 rfl (w.heap.size+2) 152 i0 _ 3 48 Tryz.underlying146 HI.out ia.out gO.out ic.out rfl (by decide) (.slice a0 l.length c0) l.length (cellsOf l) rfl (by exact (kq.alloc _).alloc _) ⟨v2.heap.size+1,0,none⟩ 1 1 [.bool deep,.slice a k cp,.string eF] rfl rfl (by
     intro j u hj
     match j,hj with
     | 0,hj=>simp at hj; subst hj; simp [Addr.add]
     | 1,hj=>simp at hj; subst hj; simp [Addr.add]
     | 2,hj=>simp at hj; subst hj; simp [Addr.add]) (by intro u hu; simp at hu; rcases hu with rfl | rfl | rfl<;>rfl) (by omega) (by unfold maxLen; omega) (by omega) (by simp; omega) _ rfl ?_; intro g cap w3 bI ko JF SQ; have Q3:=aa (ay.grown (w':=w3) ((Q2.out.alloc (.cells #[.bool deep,.slice a k cp,.string eF] 152)).alloc (.cells #[.bool deep,.slice a k cp,.string eF] 152)) (mc ko) (λ x hx=>by have:=(kq.lt _ hx).1; omega)); have M3:=aa (aZ.grow (w':=w3) ((M2.out.alloc (.cells #[.bool deep,.slice a k cp,.string eF] 152)).alloc (.cells #[.bool deep,.slice a k cp,.string eF] 152)) (mc ko) (λ x hx=>by have:=(kq.lt _ hx).1; omega)); have F3:=aa (Fr.grown (w':=w3) ((F2.out.alloc (.cells #[.bool deep,.slice a k cp,.string eF] 152)).alloc (.cells #[.bool deep,.slice a k cp,.string eF] 152)) (mc ko) (λ x hx=>by have:=(kq.lt _ hx).1; omega)); have W3:=aa bI; have C3:=aa (λ hf=>(CD2.out hf).push (D2.out hf) (by rw [an]; exact hp) hra.out E8 bI ko JF); clear bI ko JF SQ; have kf3:=Q3.out.fz 0; have YJ:=Q3.out.cell 0; simp at YJ)
    all_goals
     have M4:=aa (M3.out.setOther (w.heap.size+1) (by omega) 0 (.slice (some ⟨g,0,none⟩) (l.length+1) cap))
     have Q4:=aa (Q3.out.set 0 (.slice (some ⟨g,0,none⟩) (l.length+1) cap))
     have F4:=aa (F3.out.setCell ⟨w.heap.size+1,0,none⟩ (Or.inr (by simp)) (.slice (some ⟨g,0,none⟩) (l.length+1) cap))
     have W4:=aa (aW W3.out ((Fr.refl (λ i=>i=w.heap.size+1) w3).setCell ⟨w.heap.size+1,0,none⟩ (Or.inl rfl) (.slice (some ⟨g,0,none⟩) (l.length+1) cap)) (λ i hi e=>by omega))
     have C4:=aa (λ hf=>(C3.out hf).fr ((Fr.refl (λ i=>i=w.heap.size+1) w3).setCell ⟨w.heap.size+1,0,none⟩ (Or.inl rfl) (.slice (some ⟨g,0,none⟩) (l.length+1) cap)) (λ i hi e=>by omega))
     have E6:∃(u':St) (l':List gW) (v':Value),aZ (w3.setCell ⟨w.heap.size+1,0,none⟩ (.slice (some ⟨g,0,none⟩) (l.length+1) cap)) w.heap.size s u'/\ay (w3.setCell ⟨w.heap.size+1,0,none⟩ (.slice (some ⟨g,0,none⟩) (l.length+1) cap)) (w.heap.size+1) #[v'] 148/\(w3.setCell ⟨w.heap.size+1,0,none⟩ (.slice (some ⟨g,0,none⟩) (l.length+1) cap)).ownsRow (w.heap.size+2) 152 3 v' l'.length (cellsOf l')/\ak w (w3.setCell ⟨w.heap.size+1,0,none⟩ (.slice (some ⟨g,0,none⟩) (l.length+1) cap))/\kJ (bs s) (iO l') ([36]++iF l') u'/\(u'.e=0->l'.length<=u'.p)/\l'.length<=121/\(∀g ∈ l',g.tx.size<=200)/\(bz (bs s)->PA (w.heap.size+2) (bs s) u' l' v' (w3.setCell ⟨w.heap.size+1,0,none⟩ (.slice (some ⟨g,0,none⟩) (l.length+1) cap))):=by
      refine ⟨u2,l++[⟨deep,a,k,cp,eF⟩],_,M4.out,Q4.out,?_,F4.out,?_,?_,?_,?_,C4.out⟩
      ·rw [vl,List.length_append]; exact W4.out
      ·rw [tX,yl,<-List.append_assoc]; exact O2.out
      ·intro e
       have:=L2.out e
       have:=LP.out HE.out
       rw [List.length_append]; simp only [List.length_cons,List.length_nil]; omega
      ·have:=LP.out HE.out
       rw [List.length_append]; simp only [List.length_cons,List.length_nil]; omega
      intro x hx
      rw [List.mem_append] at hx
      rcases hx with hx | hx
      ·exact SM.out x hx
      simp at hx; subst hx; exact T2.out
     go_roundw
     case rel=>first | exact E6 | ((repeat apply Exists.intro); exact ⟨E6,rfl⟩)
     case measure =>
      rw [MM.out.kF,if_pos HE.out]
      have e4:=M4.out.kF s.size
      have e5:∀W,W.heap=(w3.setCell ⟨w.heap.size+1,0,none⟩ (.slice (some ⟨g,0,none⟩) (l.length+1) cap)).heap->kF w.heap.size s.size W=kF w.heap.size s.size (w3.setCell ⟨w.heap.size+1,0,none⟩ (.slice (some ⟨g,0,none⟩) (l.length+1) cap)):=λ W hW=>by
       unfold kF mE mP World.cell?; rw [hW]
      rw [e5 _ rfl,e4]
      split
      ·rename_i e
       have:=L2.out e
       omega
      omega
   have rR:decide ((u.p:Int)<(s.size:Int))=false:=by simp; omega
   have HF:Hid (Fin (bs s)/\C (bs s) (s.size+1)=iO l/\T (bs s) (s.size+1)=[36]++iF l):=by
    rcases OO.out with h | h
    ·have:=BU h (by rw [an]; omega)
     rw [an] at this; exact this
    exact absurd HE.out h.ne
   have hsum:iO l<=121:=by
    have:=Le (bs s) (s.size+1)
    rw [HF.out.2.1] at this; omega
   have Lc:((u.e:Int) != 0)=false:=by rw [HE.out]; rfl
   have jS:Hid (C (bs s) (s.size+1)<=10->CmR s w (.returned (.tuple #[.pointer (some ⟨w.heap.size+1,0,none⟩),.int .i64 0,.int .i64 0])) wr):=λ h10=>by
    have hf:=HF.out.1
    obtain ⟨ls,D,m,rfl,row,rfl,hle,hps⟩:=CD.out hf
    have hpm:(tP ⟨1,0,0⟩ m).p=s.size:=by omega
    have ai0:1+m=s.size:=hpm
    have hpq:cK (bs s)=ls.map (·.x):=by
     unfold cK
     have:=hps ((bs s).length+1 - ls.length)
     rw [an] at this ⊢
     rw [show s.size+1 - ls.length+ls.length=s.size+1 by omega] at this
     rw [this,show s.size+1 - ls.length=(s.size - ls.length)+1 by omega,i_,if_neg (by rw [an]; omega)]
    have ft:=row.Hq (by decide)
    have fq:=Ft.one (B:=w.heap.size) QQ.out (by decide) (by omega)
    refine ⟨FF.out,Or.inr (Or.inr ⟨hf,h10,w.heap.size+1,v,ls.map yZ.v,λ k=>(D k\/v.ownBlock=some k)\/k=w.heap.size+1,rfl,HF.out.2.2,(ft.low (by omega)).or fq,λ W sm=>?_⟩)⟩
    have r2:=row.sm (w':=W) (λ k hk=>sm k (Or.inl hk))
    refine ⟨QQ.out.sm sm (Or.inr rfl),?_,hl1,SM.out,by rw [hpq]; exact AF r2⟩
    rw [List.length_map,<-Cx]
    exact pW r2.o (by omega)
   clear CD
   obtain ⟨a0,c0,rfl⟩:=ah WW.out
   have k0:=QQ.out.cell 0
   simp at k0
   go_wp2
   go_loopw [8,9] (λ n i wx=>wx=wr/\∃k:Nat,k<=l.length/\i=.int .i64 k/\n=.int .i64 (iO (l.take k):Nat)) (λ_ i _=>l.length - (intOf i).toNat)
   case atStart=>exact ⟨rfl,0,Nat.zero_le _,rfl,rfl⟩
   case round =>
    obtain ⟨rfl,k,hk,rfl,rfl⟩:=hrel
    by_cases hlt:k<l.length
    ·obtain ⟨g,cap,hv,Bg,qg⟩:=WW.out.form (by omega)
     simp only [Value.slice.injEq,true_and] at hv
     obtain ⟨rfl,rfl⟩:=hv
     have kc:=(WW.out.cellAt (k * 3+1) (by omega)).trans (DY l k hlt)
     have hk2:=DZ l k hlt
     have HK:=aa hk2
     have xH:=Cq l k
     have eK:(l[k]).k<=iO l:=by have:=Cq l (k+1); omega
     clear hk2
     generalize l[k]=gk at *
     go_wp2
     exact ⟨⟨trivial,k+1,by omega,by go_num,by rw [HK.out]; go_num⟩,by simp [intOf]; omega⟩
    have hkl:k=l.length:=by omega
    subst hkl
    have et:l.take l.length=l:=List.take_length
    rw [et]
    clear et
    by_cases h10:10<iO l
    ·have Qj:(10:Int)<(iO l:Int):=by omega
     go_wp2
     go_ret3
     exact ⟨FF.out,Or.inr (Or.inl ⟨HF.out.1,by rw [HF.out.2.1]; exact h10,rfl⟩)⟩
    have Qj:¬(10:Int)<(iO l:Int):=by omega
    go_wp2
    go_ret3
    exact jS.out (by rw [HF.out.2.1]; omega)
  have Ub:=pG he
  have Lc:((u.e:Int) != 0)=true:=by rw [bne_iff_ne]; omega
  have HB:Hid (xQ (bs s) 0 u):=by
   rcases OO.out with h | h
   ·exact absurd h.e0 he
   exact h
  clear he
  go_wp2
  go_quiet (fail)
  go_wp2
  go_ret3
  exact ⟨FF.out.drewN _,Or.inl ⟨u.e,u.p,HB.out.er,rfl⟩⟩
end Go.Proofs.YtcbadebjpogmlaaGreatDoor
