import Derived.Test.YtcbadebjpogmlaaGreatDoorVsRrD
import Derived.Test.YtcbadebjpogmlaaGreatDoorVsRefF
import Derived.Test.YtcbadebjpogmlaaGreatDoorVsVa
import Derived.Test.YtcbadebjpogmlaaGreatDoorVsPi
import Derived.Maps.AppendAt
set_option maxHeartbeats 4000000
set_option maxRecDepth 100000
namespace Go.Proofs.YtcbadebjpogmlaaGreatDoor
open Go.RowKit Tr
def Na (_:Nat) (w:World) (p:b_×Value):Prop:=(1<=p.1.sort/\p.1.sort<=5)/\(-1000<p.1.n/\p.1.n<1000)/\WhC p.1 p.2 w
def SgD (s:List UInt8) (t t':St) (dp:Bool) (k z:Nat) (sl:Value) (w':World):Prop :=
 ∃(l:List b_) (m:Nat) (ps:List (b_×Value)) (D:Nat->Prop),l.length=k/\t'=tP t m/\0<m/\fD s t.p=⟨⟨dp,l⟩,t.p+m⟩/\ps.map (·.1)=l/\bP 189 6 me z Na D sl ps w'
def SgP (b:Nat) (s:ByteArray) (c:Nat) (acc:List UInt8) (t:St) (w:World) (r:Ending) (w':World):Prop :=
 ∃(deep:Bool) (a:Option Addr) (k cp:Nat) (eF:ByteArray) (t':St),r=.returned (.agg #[.bool deep,.slice a k cp,.string eF])/\Rd b s w t' w'/\kJ (bs s) (c+k) (acc++bs eF) t'/\(t'.e=0->t.p<t'.p)/\eF.size<=200/\(bz (bs s)->SgD (bs s) t t' deep k w.heap.size (.slice a k cp) w')
theorem row_one {W:World} {g B:Nat} (hg:W.heap.size=g) (hB:B<=g) {x:b_} (hx:1<=x.sort/\x.sort<=4) (hn:x.n=0):bP 189 6 me B Na (λ_=>False) (.slice (some ⟨g,0,none⟩) 1 1) [(x,.pointer none)] (W.alloc (.cells (rz x (.pointer none)) 189)):=by
 refine ⟨⟨rfl,Or.inr ⟨g,1,rz x (.pointer none),rfl,hB,?_,Nat.le_refl _,by unfold maxLen; decide,rfl,rfl⟩⟩,Ft.none _ _,λ_ h=>h.elim,λ i hi w' _=>?_⟩
 ·rw [<-hg]; exact heap_alloc_new W _
 have e:i=0:=by simpa using hi
 subst e
 exact ⟨⟨hx.1,by show x.sort<=5; omega⟩,⟨by show -1000<x.n; omega,by show x.n<1000; omega⟩,λ e=>by have:x.sort=5:=e; omega⟩
theorem Cw {s:List UInt8} {t t':St} {W:World} {x:b_} {deep:Bool} {m g z:Nat} (he:t'=tP t m) (hm:0<m) (hp:fD s t.p=⟨⟨deep,[x]⟩,t.p+m⟩) (hx:1<=x.sort/\x.sort<=4) (hn:x.n=0) (hg:W.heap.size=g) (hB:z<=g) :
 SgD s t t' deep 1 z (.slice (some ⟨g,0,none⟩) 1 1) (W.alloc (.cells (rz x (.pointer none)) 189)) :=
 ⟨[x],m,[(x,.pointer none)],_,rfl,he,hm,hp,rfl,row_one hg hB hx hn⟩
theorem Nb {s:List UInt8} {t:St} (e0:t.e=0) (he:(bC s t).e=0) (hn:isLet (bt s (bC s t).p)=false):∃m,bC s t=tP t m/\0<m/\bT isLet s t.p=t.p+m:=by
 have hw:bC s t={ t with p:=run isLet s 8 t.p }/\run isLet s 8 t.p≠t.p:=by
  unfold bC at he ⊢
  rw [if_pos e0] at he ⊢
  split
  ·rename_i hr; rw [if_pos hr] at he; cases he
  rename_i hr; exact ⟨rfl,hr⟩
 rw [hw.1] at hn
 obtain ⟨m,e,R⟩:=IB (ok:=isLet) (s:=s) (K:=8) (a:=t.p) hn
 refine ⟨m,by rw [hw.1,e],?_,R.ag ID (Ag.self s t.p m)⟩
 rcases Nat.eq_zero_or_pos m with y | y
 ·exact absurd (by rw [e,y]; rfl) hw.2
 exact y
theorem Nc {s:List UInt8} {t:St} (h1:aj s t 46=true) (h4:aj s (aG t) 42=true):fD s t.p=⟨⟨false,[⟨1,[],0,0,0,λ_=>false⟩]⟩,t.p+2⟩:=by
 have a:=(aE h1).2
 have b:bt s (t.p+1)=42:=(aE h4).2
 unfold fD fE
 rw [if_neg (by omega),if_neg (by omega),if_pos b]
theorem Eg {s:List UInt8} {t:St} (h1:aj s t 46=true) (h2:aj s (aG t) 46=true) (h4:aj s (aG (aG t)) 42=true):fD s t.p=⟨⟨true,[⟨1,[],0,0,0,λ_=>false⟩]⟩,t.p+3⟩:=by
 have a:=(aE h1).2
 have b:bt s (t.p+1)=46:=(aE h2).2
 have c:bt s (t.p+2)=42:=(aE h4).2
 unfold fD fE
 rw [if_neg (by omega),if_pos b,if_neg (by omega),if_pos c]
theorem Nd {s:List UInt8} {t:St} {m:Nat} (h1:aj s t 46=true) (h2:aj s (aG t) 46=false) (h4:aj s (aG t) 42=false) (h5:bT isLet s (aG t).p=(aG t).p+m):fD s t.p=⟨⟨false,[⟨2,sub s (aG t).p ((aG t).p+m),0,0,0,λ_=>false⟩]⟩,t.p+(1+m)⟩:=by
 obtain ⟨e0,a⟩:=aE h1
 have b:bt s (t.p+1)≠46:=jv (t:=aG t) e0 h2
 have d:bt s (t.p+1)≠42:=jv (t:=aG t) e0 h4
 have h6:bT isLet s (t.p+1)=t.p+1+m:=h5
 unfold fD fE
 rw [if_neg (by omega),if_neg b,if_neg d,h6]
 exact congrArg (PS.mk _) (Nat.add_assoc _ _ _)
theorem Eh {s:List UInt8} {t:St} {m:Nat} (h1:aj s t 46=true) (h2:aj s (aG t) 46=true) (h3:aj s (aG (aG t)) 91=false) (h4:aj s (aG (aG t)) 42=false) (h5:bT isLet s (aG (aG t)).p=(aG (aG t)).p+m):fD s t.p=⟨⟨true,[⟨2,sub s (aG (aG t)).p ((aG (aG t)).p+m),0,0,0,λ_=>false⟩]⟩,t.p+(2+m)⟩:=by
 obtain ⟨e0,a⟩:=aE h1
 have b:bt s (t.p+1)=46:=(aE h2).2
 have d:bt s (t.p+2)≠42:=jv (t:=aG (aG t)) e0 h4
 have f:bt s (t.p+2)≠91:=jv (t:=aG (aG t)) e0 h3
 have h6:bT isLet s (t.p+2)=t.p+2+m:=h5
 unfold fD fE
 rw [if_neg (by omega),if_pos b,if_neg f,if_neg d,h6]
 exact congrArg (PS.mk _) (Nat.add_assoc _ _ _)
theorem Xj {s:List UInt8} {p m:Nat} {l:List b_} (hb:bt s p=91) (hp:dY s (s.length+1) (p+1) []=⟨l,p+1+m⟩):fD s p=⟨⟨false,l⟩,p+(1+m+1)⟩:=by
 unfold fD yS
 rw [if_pos hb,hp]
 simp only
 rw [show p+1+m+1=p+(1+m+1) by omega]
theorem Nf {s:List UInt8} {p m:Nat} {l:List b_} (h1:bt s p=46) (h2:bt s (p+1)=46) (hb:bt s (p+2)=91) (hp:dY s (s.length+1) (p+2+1) []=⟨l,p+2+1+m⟩):fD s p=⟨⟨true,l⟩,p+(3+m+1)⟩:=by
 unfold fD yS
 rw [if_neg (by omega),if_pos h2,if_pos hb,hp]
 simp only
 rw [show p+2+1+m+1=p+(3+m+1) by omega]
theorem Si.dat {s:List UInt8} {pre:List UInt8} {t t':St} {dot dp:Bool} (e0:t.e=0) (k:Si s t dot dp pre t'):∃q,t'=tP t q /\
 ((dot && (!aj s t' 91 || !dp))=true->(aj s t' 42=true->fD s t.p=⟨⟨dp,[⟨1,[],0,0,0,λ_=>false⟩]⟩,t.p+(q+1)⟩)/\(aj s t' 42=false->∀m,bT isLet s t'.p=t'.p+m->fD s t.p=⟨⟨dp,[⟨2,sub s t'.p (t'.p+m),0,0,0,λ_=>false⟩]⟩,t.p+(q+m)⟩)) /\
 ((dot && (!aj s t' 91 || !dp))=false->bt s t'.p=91->∀l m,dY s (s.length+1) (t'.p+1) []=⟨l,t'.p+1+m⟩->fD s t.p=⟨⟨dp,l⟩,t.p+(q+(1+m+1))⟩):=by
 obtain ⟨h1,⟨rfl,rfl,rfl,rfl⟩ | ⟨rfl,⟨rfl,rfl,rfl,h2⟩ | ⟨rfl,rfl,rfl,h2⟩⟩⟩:=k
 ·exact ⟨0,rfl,λ e=>(by simp at e),λ_ hb l m hl=>by rw [Xj hb hl,Nat.zero_add]⟩
 ·exact ⟨1,rfl,λ_=>⟨Nc h1,λ h4 m h5=>Nd h1 h2 h4 h5⟩,λ e=>(by simp at e)⟩
 refine ⟨2,rfl,λ e=>⟨Eg h1 h2,λ h4 m h5=>Eh h1 h2 (by simpa using e) h4 h5⟩,λ e hb l m hl=>?_⟩
 rw [Nf (aE h1).2 (aE h2).2 hb hl,show 3+m+1=2+(1+m+1) by omega]
def BrI (s:List UInt8) (t u:St) (k:Nat) (ps:List (b_×Value)):Prop:=∃m,u=tP t m/\ps.length=k/\k<=m/\∀N,dY s (N+k) t.p []=dY s N u.p (ps.map (·.1))
def SN (z:Nat) (s:List UInt8) (t u:St) (k:Nat) (sl:Value) (xs:List Value) (W:World):Prop:=∃D ps,xs=ps.flatMap me/\bP 189 6 me z Na D sl ps W/\BrI s t u k ps
def Py (z:Nat) (s:List UInt8) (t u u6:St) (k:Nat) (sl:Value) (xs:List Value) (W:World):Prop:=∃D ps x bv j,xs=(ps++[(x,bv)]).flatMap me/\bP 189 6 me z Na D sl (ps++[(x,bv)]) W/\BrI s t u k ps/\0<j/\u6=tP u j/\bU s u.p=⟨x,u.p+j⟩
theorem SN.fr {z:Nat} {s:List UInt8} {t u:St} {k:Nat} {sl:Value} {xs:List Value} {W W':World} (h:SN z s t u k sl xs W) {K:Nat->Prop} (f:Fr K W W') (hk:∀k,z<=k->¬K k):SN z s t u k sl xs W':=by
 obtain ⟨D,ps,h1,h2,h3⟩:=h
 exact ⟨D,ps,h1,h2.fr f hk,h3⟩
theorem Py.fr {z:Nat} {s:List UInt8} {t u u6:St} {k:Nat} {sl:Value} {xs:List Value} {W W':World} (h:Py z s t u u6 k sl xs W) {K:Nat->Prop} (f:Fr K W W') (hk:∀k,z<=k->¬K k):Py z s t u u6 k sl xs W':=by
 obtain ⟨D,ps,x,bv,j,h1,h2,h3⟩:=h
 exact ⟨D,ps,x,bv,j,h1,h2.fr f hk,h3⟩
theorem SN.push {z:Nat} {s:List UInt8} {t u u6:St} {k z6:Nat} {sl sl':Value} {xs cs:List Value} {W w7:World} (h:SN z s t u k sl xs W) (d:SlD s u u6 z6 (.agg cs.toArray) W) (hA:∀q,sl.ownBlock=some q->q<z6) (hz:z<=z6) (T1 T2:TypeId)
 (ho:w7.ownsRow z 189 6 sl' (k+1) (xs++cs)) (hg:((W.alloc (.cells cs.toArray T1)).alloc (.cells cs.toArray T2)).grownBy w7 sl.ownBlock) (hb:sl'.ownBlock=sl.ownBlock\/sl'.ownBlock=some ((W.alloc (.cells cs.toArray T1)).alloc (.cells cs.toArray T2)).heap.size):Py z s t u u6 k sl' (xs++cs) w7:=by
 obtain ⟨D,ps,rfl,h2,h3⟩:=h
 obtain ⟨x,pa,m6,D6,e1,e2,p6,s6,so6,n6,ft6,ok6⟩:=d
 have e1:cs=me (x,.pointer pa):=congrArg Array.toList (Value.agg.inj e1)
 have hl:ps.length=k:=by obtain ⟨_,_,y,_⟩:=h3; exact y
 have sA:=iP ft6 (.cells cs.toArray T1)
 have fA:=ft6.keep sA
 have sB:=iP fA (.cells cs.toArray T2)
 have key:=bP.alloc (bP.alloc h2 (.cells cs.toArray T1)) (.cells cs.toArray T2)
 exact ⟨_,ps,x,.pointer pa,m6,by rw [e1]; simp,key.push (f:=(x,.pointer pa)) (A:=z6) hA hz (fA.keep sB) (λ w' sm=>⟨so6,n6,((ok6.keep sA).keep sB) w' sm⟩) (by rw [hl,<-e1]; exact ho) hg hb,h3,p6,e2,s6⟩
theorem Py.comma {z:Nat} {s:List UInt8} {t u u6:St} {k:Nat} {sl:Value} {xs:List Value} {W:World} (h:Py z s t u u6 k sl xs W) (hc:aj s u6 44=true):SN z s t (aG u6) (k+1) sl xs W:=by
 obtain ⟨D,ps,x,bv,j,h1,h2,⟨m,rfl,hl,hle,hp⟩,hj,rfl,hx⟩:=h
 refine ⟨D,_,h1,h2,m+j+1,?_,by simp [hl],by omega,λ N=>?_⟩
 ·show St.mk (t.p+m+j+1) t.e t.n=St.mk (t.p+(m+j+1)) t.e t.n
  congr 1; omega
 have hb:bt s (t.p+m+j)=44:=(aE hc).2
 have hx:bU s (t.p+m)=⟨x,t.p+m+j⟩:=hx
 rw [show N+(k+1)=(N+1)+k by omega,hp,BZ,hx]
 simp only
 rw [if_pos hb,List.map_append]
 rfl
theorem Py.fin {z:Nat} {s:List UInt8} {t u u6:St} {k:Nat} {sl:Value} {xs:List Value} {W:World} (h:Py z s t u u6 k sl xs W) (hc:aj s u6 44=false) (e0:u6.e=0) (hle:u.p<=s.length):∃D ps m,bP 189 6 me z Na D sl ps W/\ps.length=k+1/\u6=tP t m/\dY s (s.length+1) t.p []=⟨ps.map (·.1),t.p+m⟩:=by
 obtain ⟨D,ps,x,bv,j,h1,h2,⟨m,rfl,hl,hm,hp⟩,hj,rfl,hx⟩:=h
 refine ⟨D,_,m+j,h2,by simp [hl],jP _ _ _,?_⟩
 have hb:bt s (t.p+m+j)≠44:=jv e0 hc
 have hx:bU s (t.p+m)=⟨x,t.p+m+j⟩:=hx
 have hle:t.p+m<=s.length:=hle
 have:=hp (s.length+1 - k)
 rw [show s.length+1 - k+k=s.length+1 by omega] at this
 rw [this,show s.length+1 - k=(s.length - k)+1 by omega,BZ,hx]
 simp only
 rw [if_neg hb,List.map_append,Nat.add_assoc]
 rfl
theorem Ei {w:World} {b:Nat} {s:ByteArray} {t:St} {c:Nat} {acc:List UInt8} (h:aZ w b s t) (hs:s.size<=120) (hok:lS (bs s) c acc t) (hp:t.p<s.size) :
 Calls Tryz.prog 65 #[.pointer (some ⟨b,0,none⟩)] w (SgP b s c acc t w):=by
 have dy:=h.lt
 have HR:=aa (((Rd.same h).alloc (.cells #[.bool false,.slice none 0 0,.string ⟨#[]⟩] 152)).alloc (.cells #[.bool false,.slice none 0 0,.string ⟨#[]⟩] 152))
 have B0:=aa ((ay.new w #[.bool false,.slice none 0 0,.string ⟨#[]⟩] 152).alloc (.cells #[.bool false,.slice none 0 0,.string ⟨#[]⟩] 152))
 have X0:Hid (ay ((w.alloc (.cells #[.bool false,.slice none 0 0,.string ⟨#[]⟩] 152)).alloc (.cells #[.bool false,.slice none 0 0,.string ⟨#[]⟩] 152)) (w.heap.size+1) #[.bool false,.slice none 0 0,.string ⟨#[]⟩] 152):=by
  have:=ay.new (w.alloc (.cells #[.bool false,.slice none 0 0,.string ⟨#[]⟩] 152)) #[.bool false,.slice none 0 0,.string ⟨#[]⟩] 152
  unfold Hid; simpa using this
 have xH:b<w.heap.size+1:=by omega
 have E0:=aa hok.e0
 have HP:=aa (λ dot dp pre t'=>Si.all (pre:=pre) (t':=t') (dot:=dot) (dp:=dp) hok (by rw [an]; exact hp))
 obtain ⟨i0,hi,hz0,hz1,dN⟩:=info_parts Tryz.vk
 have HI:=aa hi
 have ia:=aa hz0
 have gO:=aa hz1
 have ic:=aa dN
 clear hi hz0 hz1 dN
 clear h hok hp
 go_enter Tryz.func65,Tryz.ntmps65
 go_wp2_with fail
 refine (jO HR.out.m 46 46 rfl (by omega) hs).mono ?_
 rintro r v1 ⟨rfl,gg⟩
 have R1:=aa (HR.out.trans gg)
 have B1:=aa (B0.out.rd gg dy)
 have X1:=aa (X0.out.rd gg xH)
 clear gg HR B0 X0
 obtain ⟨dot,SP⟩:∃d,aj (bs s) t 46=d:=⟨_,rfl⟩
 rw [SP]
 have HD:=aa SP
 clear SP
 go_upto_if 14 with fail
 go_cut [] from 15 (λ wc=>∃(dp:Bool) (t':St),Si (bs s) t dot dp (if dp then [46,46] else []) t'/\Rd b s w t' wc/\ay wc w.heap.size #[.bool false,.slice none 0 0,.string ⟨#[]⟩] 152/\ay wc (w.heap.size+1) #[.bool dp,.slice none 0 0,.string ⟨#[]⟩] 152)
 case first =>
  cases dot
  ·have e1:has (bs s) t 46=t:=by simp [has,HD.out]
   rw [e1] at R1
   go_wp2
   go_meet
   exact ⟨false,t,⟨HD.out,Or.inl ⟨rfl,rfl,rfl,rfl⟩⟩,R1.out,B1.out,X1.out⟩
  have e1:has (bs s) t 46=aG t:=by simp [has,HD.out]
  rw [e1] at R1
  clear e1
  go_wp2_with fail
  refine (jO R1.out.m 46 46 rfl (by omega) hs).mono ?_
  rintro r v2 ⟨rfl,gg⟩
  have R2:=aa (R1.out.trans gg)
  have B2:=aa (B1.out.rd gg dy)
  have X2:=aa (X1.out.rd gg xH)
  clear gg R1 B1 X1
  have mf:=X2.out.fz
  have m0:=X2.out.cell 0
  have m1:=X2.out.cell 1
  have m2:=X2.out.cell 2
  simp at m0 m1 m2
  obtain ⟨dp,rR⟩:∃d,aj (bs s) (aG t) 46=d:=⟨_,rfl⟩
  rw [rR]
  have HDP:=aa rR
  clear rR
  go_wp2
  go_meet
  have k:Si (bs s) t true dp (if dp then [46,46] else []) (has (bs s) (aG t) 46):=by
   refine ⟨HD.out,Or.inr ⟨rfl,?_⟩⟩
   have:=HDP.out
   unfold has
   rw [this]
   cases dp
   ·exact Or.inl ⟨rfl,rfl,rfl,rfl⟩
   exact Or.inr ⟨rfl,rfl,rfl,rfl⟩
  exact ⟨dp,_,k,R2.out.cM dy (w.heap.size+1) 0 (Nat.le_succ _) _,B2.out.other (by omega) 0 _,X2.out.set 0 _⟩
 case rest =>
 clear R1 B1 X1
 obtain ⟨dp,t',hK,hr,hB,hX⟩:=hcut
 have HK:=aa hK
 have R2:=aa hr
 have B2:=aa hB
 have X2:=aa hX
 clear hK HD hr hB hX
 have mf:=X2.out.fz
 have m0:=X2.out.cell 0
 have m1:=X2.out.cell 1
 have m2:=X2.out.cell 2
 simp at m0 m1 m2
 go_upto_if 19 with fail
 go_cut [] from 20 (λ wc=>∃pre:ByteArray,bs pre=(if dp then [46,46] else [])/\pre.size<=2/\Rd b s w t' wc/\ay wc w.heap.size #[.bool false,.slice none 0 0,.string ⟨#[]⟩] 152/\ay wc (w.heap.size+1) #[.bool dp,.slice none 0 0,.string pre] 152)
 case first =>
  cases dp
  ·go_wp2
   go_meet
   exact ⟨⟨#[]⟩,rfl,by decide,R2.out,B2.out,X2.out⟩
  go_wp2
  go_meet
  exact ⟨⟨#[46,46]⟩,rfl,by decide,R2.out.cM dy (w.heap.size+1) 2 (Nat.le_succ _) _,B2.out.other (by omega) 2 _,X2.out.set 2 _⟩
 case rest =>
 clear R2 B2 X2 mf m0 m1 m2
 obtain ⟨pre,hpre,hps,hr,hB,hX⟩:=hcut
 have hK:=HK.out
 rw [<-hpre] at hK
 have hP:=HP.out _ _ _ _ hK
 obtain ⟨q,hq,Pd,yW⟩:=hK.dat E0.out
 have R3:=aa hr
 have B3:=aa hB
 have X3:=aa hX
 clear hK HK HP hpre hr hB hX
 go_wp2_with fail
 refine (dU R3.out.m 91 91 rfl (by omega)).mono ?_
 rintro r v4 ⟨rfl,gg⟩
 have R4:=aa (R3.out.trans gg)
 have B4:=aa (B3.out.rd gg dy)
 have Y4:=aa (X3.out.rd gg xH)
 clear gg R3 B3 X3
 generalize aj (bs s) t' 91=x4 at *
 obtain ⟨hTT,hFL,hLV,hA,hZ⟩:=hP
 rw [an] at hFL
 have HA:=aa hA
 have HZ:=aa hZ
 have HLV:=aa hLV
 have pE:=aa hFL
 have abt:=aa hTT
 have HQ:=aa hq
 have YV:=aa Pd
 have Pz:=aa yW
 clear hA hZ hLV hTT hFL hq Pd yW
 have mf:=Y4.out.fz
 have m0:=Y4.out.cell 0
 have m1:=Y4.out.cell 1
 have m2:=Y4.out.cell 2
 simp at m0 m1 m2
 go_upto_region 8 with fail
 go_cut [32] from 23 (λ x wc=>x=.bool (dot && (!x4 || !dp))/\wc=v4)
 case first =>
  cases dot<;>cases x4<;>cases dp<;>(go_wp2; go_meet; exact ⟨rfl,rfl⟩)
 case rest =>
 obtain ⟨rfl,rfl⟩:=hcut
 obtain ⟨E,hE⟩:∃E,(dot && (!x4 || !dp))=E:=⟨_,rfl⟩
 rw [hE] at HA HZ YV Pz ⊢
 clear hE mf m0 m1 m2
 cases E
 ·have HO:=aa (HZ.out rfl).1
  have HT:=aa (HZ.out rfl).2
  have Ng:=aa (Pz.out rfl)
  have c1:=R4.out.m.c1
  clear HA HZ YV Pz
  go_wp2_with fail
  clear c1
  refine (dS R4.out.m ⟨#[91]⟩ (by decide) hs).mono ?_
  rintro r v5 ⟨rfl,gg⟩
  rw [MO] at gg
  have R5:=aa (R4.out.trans gg)
  have B5:=aa (B4.out.rd gg dy)
  have X5:=aa (Y4.out.rd gg xH)
  clear gg R4 B4 Y4
  have hF:t'.p<=s.size:=pE.out
  have E5:Hid (bz (bs s)->aN (bs s) t' [91]=tP t' 1):=aa (λ hf=>(gM (aA hf HO.out).e0).2.2)
  generalize aN (bs s) t' [91]=u5 at *
  have HFT:Hid (t.p<=t'.p):=abt.out
  generalize hFe:t'.p=F at *
  have HFE:=aa hFe
  clear hFe
  go_wp2_with fail
  go_loopw [9,10] (λ_ _ wr=>∃(u:St) (k:Nat) (a:Option Addr) (cp:Nat) (xs:List Value),wr.ownsRow (w.heap.size+2) 189 6 (.slice a k cp) k xs/\k<=u.p/\Rd b s w u wr/\ay wr w.heap.size #[.bool false,.slice none 0 0,.string ⟨#[]⟩] 152/\ay wr (w.heap.size+1) #[.bool dp,.slice a k cp,.string pre] 152/\Ok (bs s) (F+1) (c+k+1) 6 [] 0 u/\(u.e=0->u5.e=0)/\(bz (bs s)->SN (w.heap.size+2) (bs s) u5 u k (.slice a k cp) xs wr)) (λ_ _ wr=>kF b s.size wr)
  case atStart=>exact ⟨u5,0,none,0,[],World.ownsRow_nil _ _ _ _,Nat.zero_le _,R5.out,B5.out,X5.out,HO.out,id,λ_=>⟨_,[],rfl,bP.nil _ _ _ _ _ _,0,rfl,rfl,Nat.le_refl _,λ_=>rfl⟩⟩
  case round =>
   clear R5 B5 X5 HO
   obtain ⟨u,k,a,cp,xs,hown,hk,hr,hB,hX,ho,hu5,hbd⟩:=hrel
   have hle:=ho.le
   rw [an] at hle
   have q2:=hr.m.c2
   have R:=aa hr
   have O:=aa ho
   have WN:=aa hown
   have B:=aa hB
   have X:=aa hX
   have HU5:=aa hu5
   have BD:=aa hbd
   have abv:w.heap.size+2<=wr.heap.size:=hX.lt
   clear hr ho hown hB hX hu5 hbd
   by_cases he:u.e=0
   ·have Ub:((u.e:Int) == 0)=true:=by rw [he]; rfl
    have HE:=aa he
    clear he
    go_wp2_with fail
    refine (AB R.out.m hs O.out.mine).mono ?_
    clear q2
    rintro r v6 ⟨v,u6,rfl,⟨x0,x2,x3,x4,x1,x5,rfl⟩,gg,o6,d6⟩
    have R6:=aa (R.out.trans gg)
    have B6:=aa (B.out.rd gg dy)
    have X6:=aa (X.out.rd gg xH)
    have W6:=aa (aW WN.out gg.f (λ g hg e=>by unfold PB at e; omega))
    have O6:=aa (O.out.Ac o6)
    have BD6:=aa (λ hf=>(BD.out hf).fr gg.f (λ g hg e=>by unfold PB at e; omega))
    have D6:=aa d6
    clear gg o6 d6
    have hw6:w.heap.size+1<v6.heap.size:=X6.out.lt
    have hw7:w.heap.size<v6.heap.size:=by omega
    have oK:=W6.out
    have mf:=X6.out.fz
    have m0:=X6.out.cell 0
    have m1:=X6.out.cell 1
    have m2:=X6.out.cell 2
    simp at m0 m1 m2
    go_wp2_with (at_builtin; refine wpList_append_own_at _ rfl _ _ 150 rfl (w.heap.size+2) 189 i0 _ 6 56 Tryz.underlying150 HI.out ia.out gO.out ic.out rfl (by decide) _ _ _ rfl ((oK.alloc _).alloc _) ⟨v6.heap.size+1,0,none⟩ 1 1 [.int .i64 x0,.string x1,.int .i64 x2,.int .i64 x3,.int .i64 x4,.pointer x5] rfl rfl ?c1 (by intro u hu; simp at hu; rcases hu with rfl | rfl | rfl | rfl | rfl | rfl<;>rfl) (by unfold maxLen; omega) (by omega) (by simp; omega) ?_)
    case c1 =>
     intro j u hj
     match j,hj with
     | 0,hj=>simp at hj; subst hj; simp [Addr.add]
     | 1,hj=>simp at hj; subst hj; simp [Addr.add]
     | 2,hj=>simp at hj; subst hj; simp [Addr.add]
     | 3,hj=>simp at hj; subst hj; simp [Addr.add]
     | 4,hj=>simp at hj; subst hj; simp [Addr.add]
     | 5,hj=>simp at hj; subst hj; simp [Addr.add]
    intro v' w7 JD hgrow _ kP
    have R7:=aa (((R6.out.alloc _).alloc _).grown hgrow dy (λ k hk=>by have:=(oK.lt k hk).1; omega))
    have B7:=aa (((B6.out.alloc _).alloc _).grown hgrow (λ k hk=>by have:=(oK.lt k hk).1; omega))
    have X7:=aa (((X6.out.alloc _).alloc _).grown hgrow (λ k hk=>by have:=(oK.lt k hk).1; omega))
    have W7:=aa JD
    have N7:=aa (λ hf=>(BD6.out hf).push (D6.out hf) (λ q hq=>(WN.out.lt q hq).2) abv _ _ JD hgrow (by simpa using kP))
    clear hgrow JD oK kP mf m0 m1 m2 BD6 D6
    obtain ⟨a7,c7,rfl⟩:=ah W7.out
    have hne:w.heap.size≠w.heap.size+1:=by omega
    have mf:=X7.out.fz
    have m0:=X7.out.cell 0
    have m1:=X7.out.cell 1
    have m2:=X7.out.cell 2
    simp at m0 m1 m2
    have R8:=aa (R7.out.cM dy (w.heap.size+1) 1 (Nat.le_succ _) (.slice a7 (k+1) c7))
    have B8:=aa (B7.out.other hne 1 (.slice a7 (k+1) c7))
    have X8:=aa (X7.out.set 1 (.slice a7 (k+1) c7))
    have N8:=aa (λ hf=>(N7.out hf).fr ((Fr.refl (λ g=>g=w.heap.size+1) w7).setCell ⟨w.heap.size+1,1,none⟩ (Or.inl rfl) (.slice a7 (k+1) c7)) (λ g hg e=>by omega))
    have W8:=aa (aW W7.out ((Fr.refl (λ g=>g=w.heap.size+1) w7).setCell ⟨w.heap.size+1,1,none⟩ (Or.inl rfl) (.slice a7 (k+1) c7)) (λ g hg e=>by omega))
    go_wp2_with fail
    clear mf m0 m1 m2
    cases hc:aj (bs s) u6 44
    ·have HC:=aa hc
     clear hc
     refine (jO R8.out.m 44 44 rfl (by omega) hs).mono ?_
     rintro r v9 ⟨rfl,gg⟩
     rw [HC.out]
     have e1:has (bs s) u6 44=u6:=by simp [has,HC.out]
     rw [e1] at gg
     have R9:=aa (R8.out.trans gg)
     have B9:=aa (B8.out.rd gg dy)
     have X9:=aa (X8.out.rd gg xH)
     have N9:=aa (λ hf=>(N8.out hf).fr gg.f (λ g hg e=>by unfold PB at e; omega))
     clear gg e1
     go_wp2_with fail
     refine (dS R9.out.m ⟨#[93]⟩ (by decide) hs).mono ?_
     rintro r va ⟨rfl,gg⟩
     rw [Cp] at gg
     have RA:=aa (R9.out.trans gg)
     have BA:=aa (B9.out.rd gg dy)
     have XA:=aa (X9.out.rd gg xH)
     have NA:=aa (λ hf=>(N9.out hf).fr gg.f (λ g hg e=>by unfold PB at e; omega))
     clear gg
     have OA:=aa (tC O6.out.1 HC.out)
     have HG:Hid (u6.e=0->F+1<=u6.p):=λ e=>(O6.out.1.live e).ge
     have HGM:=aa (vj (bs s) [93] u6)
     have sr:Hid ((aN (bs s) u6 [93]).e=0->u6.e=0):=λ e=>by
      by_cases h:u6.e=0
      ·exact h
      rw [qY _ _ _ h] at e; exact e
     have abx:Hid (bz (bs s)->∃D ps m,bP 189 6 me (w.heap.size+2) Na D (.slice a7 (k+1) c7) ps va/\ps.length=k+1/\aN (bs s) u6 [93]=tP t (q+(1+m+1))/\fD (bs s) t.p=⟨⟨dp,ps.map (·.1)⟩,t.p+(q+(1+m+1))⟩):=λ hf=>by
      have LA:=OA.out.resolve_right (λ h=>gR hf h)
      have e6:u6.e=0:=sr.out LA.e0
      obtain ⟨D,ps,m,y1,y2,y3,y4⟩:=(NA.out hf).fin HC.out e6 (by rw [an]; exact hle)
      have e5:=E5.out hf
      rw [e5] at y3 y4
      rw [show (tP t' 1).p=F+1 by rw [<-HFE.out]] at y4
      refine ⟨D,ps,m,y1,y2,?_,Ng.out (HT.out (HU5.out HE.out)).2 _ _ y4⟩
      rw [(gM LA.e0).2.2,y3,HQ.out]
      show St.mk _ t.e t.n=St.mk _ t.e t.n
      congr 1
      show t.p+q+1+m+1=_
      omega
     generalize aN (bs s) u6 [93]=ua at *
     have hge:F<=ua.p:=by
      rcases OA.out with h | h
      ·have:=HG.out (sr.out h.e0); have:=HGM.out; omega
      exact h.er.ge HLV.out
     have hla:ua.p<=s.size:=by
      have:ua.p<=(bs s).length:=by rcases OA.out with h | h; exact h.le; exact h.er.le
      rw [an] at this; exact this
     have q0:=RA.out.m.c0
     have q1:=RA.out.m.c1
     have mf:=XA.out.fz
     have m0:=XA.out.cell 0
     have m1:=XA.out.cell 1
     have m2:=XA.out.cell 2
     simp at m0 m1 m2
     have kf:=BA.out.fz
     have k0:=BA.out.cell 0
     have k1:=BA.out.cell 1
     have k2:=BA.out.cell 2
     simp at k0 k1 k2
     go_wp2
     go_region
     go_wp2
     refine pV rfl rfl (by exact ((((BA.out.other hne 2 _).set 0 _).set 1 _).set 2 _)) ?_
     refine ⟨dp,a7,k+1,c7,_,ua,rfl,by exact (((RA.out.cM dy _ 2 (Nat.le_succ _) _).xW dy _ (Nat.le_refl _) _ _ _).drew),?_,?_,?_,?_⟩
     ·rw [fS,cP]
      rw [show c+(k+1)=c+k+1 from by omega]
      rcases OA.out with h | h
      ·have h5:=HT.out (HU5.out HE.out)
       exact Se h5.1 h5.2 (by have:=HG.out (sr.out h.e0); have:=HGM.out; omega) OA.out
      exact Or.inr h
     ·intro e
      have:=HG.out (sr.out e); have:=HGM.out; have:=HFT.out; omega
     ·rw [ByteArray.size_append]
      have:=size_extract s F ua.p
      omega
     intro hf
     obtain ⟨D,ps,m,y1,y2,y3,y4⟩:=abx.out hf
     refine ⟨_,_,ps,D,by rw [List.length_map]; exact y2,y3,by omega,y4,rfl,bP.low (bP.fr (K:=λ g=>g=w.heap.size\/g=w.heap.size+1) y1 ?_ (λ g hg e=>by omega)) (by omega)⟩
     exact (((((Fr.refl (λ g=>g=w.heap.size\/g=w.heap.size+1) va).setCell ⟨w.heap.size+1,2,none⟩ (Or.inl (Or.inr rfl)) _).setCell ⟨w.heap.size,0,none⟩ (Or.inl (Or.inl rfl)) _).setCell ⟨w.heap.size,1,none⟩ (Or.inl (Or.inl rfl)) _).setCell ⟨w.heap.size,2,none⟩ (Or.inl (Or.inl rfl)) _).drew
    have HC:=aa hc
    clear hc
    refine (jO R8.out.m 44 44 rfl (by omega) hs).mono ?_
    rintro r v9 ⟨rfl,gg⟩
    rw [HC.out]
    have e1:has (bs s) u6 44=aG u6:=by simp [has,HC.out]
    rw [e1] at gg
    have R9:=aa (R8.out.trans gg)
    have B9:=aa (B8.out.rd gg dy)
    have X9:=aa (X8.out.rd gg xH)
    have W9:=aa (aW W8.out gg.f (λ g hg e=>by unfold PB at e; omega))
    have N9:=aa (λ hf=>((N8.out hf).fr gg.f (λ g hg e=>by unfold PB at e; omega)).comma HC.out)
    clear gg e1
    have hu6:=O6.out.2 (aE HC.out).1
    go_wp2
    go_roundw
    case rel=>exact ⟨aG u6,k+1,a7,c7,_,W9.out,by simp [aG]; omega,R9.out,B9.out,X9.out,by have:=tB O6.out.1 HC.out; rw [show c+(k+1)+1=c+k+1+1 from by omega]; exact this,λ_=>HU5.out HE.out,N9.out⟩
    case measure =>
     rw [R.out.m.kF,R9.out.m.kF,if_pos HE.out]
     split
     ·simp only [aG]; omega
     omega
   have Ub:=pG he
   go_wp2_with fail
   refine (dS R.out.m ⟨#[93]⟩ (by decide) hs).mono ?_
   clear q2
   rintro r va ⟨rfl,gg⟩
   rw [Cp,qY _ _ _ he] at gg
   have RA:=aa (R.out.trans gg)
   have BA:=aa (B.out.rd gg dy)
   have XA:=aa (X.out.rd gg xH)
   clear gg
   have HBD:Hid (xQ (bs s) 0 u):=by
    rcases O.out with h | h
    ·exact absurd h.e0 he
    exact h
   have HE:=aa he
   have hge:F<=u.p:=HBD.out.er.ge HLV.out
   have q0:=RA.out.m.c0
   have q1:=RA.out.m.c1
   have hne:w.heap.size≠w.heap.size+1:=by omega
   have mf:=XA.out.fz
   have m0:=XA.out.cell 0
   have m1:=XA.out.cell 1
   have m2:=XA.out.cell 2
   simp at m0 m1 m2
   have kf:=BA.out.fz
   have k0:=BA.out.cell 0
   have k1:=BA.out.cell 1
   have k2:=BA.out.cell 2
   simp at k0 k1 k2
   clear he Ub
   go_wp2
   go_region
   go_wp2
   refine pV rfl rfl (by exact ((((BA.out.other hne 2 _).set 0 _).set 1 _).set 2 _)) ?_
   refine ⟨dp,a,k,cp,_,u,rfl,by exact (((RA.out.cM dy _ 2 (Nat.le_succ _) _).xW dy _ (Nat.le_refl _) _ _ _).drew),Or.inr HBD.out,λ e=>absurd e HE.out,?_,λ hf=>absurd (aA hf O.out).e0 HE.out⟩
   rw [ByteArray.size_append]
   have:=size_extract s F u.p
   omega
 have hA:=HA.out rfl
 have Ng:=aa (YV.out rfl)
 clear HA HZ YV Pz
 have hlt:=hA.1
 have HO:=aa hA.2
 clear hA
 go_wp2_with fail
 refine (jO R4.out.m 42 42 rfl (by omega) hs).mono ?_
 rintro r v5 ⟨rfl,gg⟩
 have R5:=aa (R4.out.trans gg)
 have B5:=aa (B4.out.rd gg dy)
 have X5:=aa (Y4.out.rd gg xH)
 clear gg R4 B4 Y4
 have hne:w.heap.size≠w.heap.size+1:=by omega
 obtain ⟨st,hst⟩:∃d,aj (bs s) t' 42=d:=⟨_,rfl⟩
 rw [hst]
 rw [hst] at HO Ng
 have wR:=aa hst
 clear hst
 cases st
 ·have Kz:=aa (HO.out.2 rfl)
  have Pz:=aa (Ng.out.2 rfl)
  clear HO Ng
  have e1:has (bs s) t' 42=t':=by simp [has,wR.out]
  rw [e1] at R5
  clear e1
  go_wp2_with fail
  refine (Jg R5.out.m hs pE.out).mono ?_
  rintro r v6 ⟨rfl,gg⟩
  have R6:=aa (R5.out.trans gg)
  have B6:=aa (B5.out.rd gg dy)
  have X6:=aa (X5.out.rd gg xH)
  clear gg R5 B5 X5
  have hst:=size_extract s t'.p (bC (bs s) t').p
  have HS:=aa (cP s t'.p (bC (bs s) t').p)
  generalize s.extract t'.p (bC (bs s) t').p=str at *
  have mf:=X6.out.fz
  have m0:=X6.out.cell 0
  have m1:=X6.out.cell 1
  have m2:=X6.out.cell 2
  simp at m0 m1 m2
  have kf:=B6.out.fz
  have k0:=B6.out.cell 0
  have k1:=B6.out.cell 1
  have k2:=B6.out.cell 2
  simp at k0 k1 k2
  have hw5:w.heap.size+1<v6.heap.size:=X6.out.lt
  have hw6:w.heap.size<v6.heap.size:=by omega
  go_wp2
  refine pV rfl rfl ((((((B6.out.other hne 1 _).other hne 2 _).set 0 _).set 1 _).set 2 _).alloc _) ?_
  refine ⟨dp,_,1,1,_,_,rfl,(((R6.out.cM dy _ 1 (Nat.le_succ _) _).cM dy _ 2 (Nat.le_succ _) _).xW dy _ (Nat.le_refl _) _ _ _).alloc _,?_,λ_=>by have:=yh (bs s) t'; omega,?_,λ hf=>?_⟩
  ·rw [fS,fS,fS,HS.out]
   simpa [bs] using Kz.out
  ·simp only [ByteArray.size_append]
   have e2:(⟨#[91,39]⟩:ByteArray).size=2:=rfl
   have e3:(⟨#[39,93]⟩:ByteArray).size=2:=rfl
   omega
  have LB:=Kz.out.resolve_right (λ h=>gR hf h)
  obtain ⟨m,w1,w2,w3⟩:=Nb (show t'.e=0 by rw [HQ.out]; exact E0.out) LB.e0 (tE hf LB)
  have SX:sb (sub (bs s) t'.p (t'.p+m))=str:=by
   have:=HS.out
   rw [w1] at this
   rw [<-show bs str=sub (bs s) t'.p (t'.p+m) from this,yw]
  subst SX
  exact Cw (m:=q+m) (x:=⟨2,sub (bs s) t'.p (t'.p+m),0,0,0,λ_=>false⟩) (by rw [w1,HQ.out,jP]) (by omega) (Pz.out m w3) ⟨by simp,by simp⟩ rfl (by simp [World.setCell]) (by omega)
 have Kz:=aa (HO.out.1 rfl)
 have Pz:=aa (Ng.out.1 rfl)
 clear HO Ng
 have e1:has (bs s) t' 42=aG t':=by simp [has,wR.out]
 rw [e1] at R5
 clear e1
 have mf:=X5.out.fz
 have m0:=X5.out.cell 0
 have m1:=X5.out.cell 1
 have m2:=X5.out.cell 2
 simp at m0 m1 m2
 have kf:=B5.out.fz
 have k0:=B5.out.cell 0
 have k1:=B5.out.cell 1
 have k2:=B5.out.cell 2
 simp at k0 k1 k2
 have hw5:w.heap.size+1<v5.heap.size:=X5.out.lt
 have hw6:w.heap.size<v5.heap.size:=by omega
 go_wp2
 refine pV rfl rfl ((((((B5.out.other hne 1 _).other hne 2 _).set 0 _).set 1 _).set 2 _).alloc _) ?_
 refine ⟨dp,_,1,1,_,_,rfl,(((R5.out.cM dy _ 1 (Nat.le_succ _) _).cM dy _ 2 (Nat.le_succ _) _).xW dy _ (Nat.le_refl _) _ _ _).alloc _,by rw [fS]; simpa [bs] using Kz.out,λ_=>by simp only [aG]; omega,?_,λ hf=>Cw (m:=q+1) (x:=⟨1,[],0,0,0,λ_=>false⟩) (by rw [HQ.out]; rfl) (by omega) Pz.out ⟨by simp,by simp⟩ rfl (by simp [World.setCell]) (by omega)⟩
 rw [ByteArray.size_append]
 have e3:(⟨#[91,42,93]⟩:ByteArray).size=3:=rfl
 omega
end Go.Proofs.YtcbadebjpogmlaaGreatDoor
