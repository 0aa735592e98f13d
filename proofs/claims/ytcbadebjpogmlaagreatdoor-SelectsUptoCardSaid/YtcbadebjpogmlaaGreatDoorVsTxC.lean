import Derived.Test.YtcbadebjpogmlaaGreatDoorVsTxA
import Derived.Test.YtcbadebjpogmlaaGreatDoorVsRefF
import Derived.Test.YtcbadebjpogmlaaGreatDoorVsLawA
import Derived.Laws.BytesString
import Derived.Deep.Cut
set_option maxHeartbeats 4000000
set_option maxRecDepth 100000
namespace Go.Proofs.YtcbadebjpogmlaaGreatDoor
open Go.RowKit Tr
abbrev sb (l:List UInt8):ByteArray:=⟨l.toArray⟩
theorem yJ (l:List UInt8):bs (sb l)=l:=by simp [bs]
theorem yw (s:ByteArray):sb (bs s)=s:=by simp [bs]
theorem gT (l:List UInt8):(sb l).size=l.length:=by rw [<-an,yJ]
theorem bX (a b:List UInt8):sb a++sb b=sb (a++b):=by
 have:bs (sb a++sb b)=bs (sb (a++b)):=by rw [fS,yJ,yJ,yJ]
 rw [<-yw (sb a++sb b),this,yw]
theorem ud (k:Nat) (h:k<10):(⟨#[48,49,50,51,52,53,54,55,56,57]⟩:ByteArray).extract k (k+1)=sb [UInt8.ofNat (48+k)]:=by
 rcases k with _ | _ | _ | _ | _ | _ | _ | _ | _ | _ | k
 all_goals first | rfl | omega
theorem Ep:∀(n:Nat),n<=4000000->∀w:World,Calls Tryz.prog 217 #[.int .i64 (n:Nat)] w λ r w'=>r=.returned (.string (sb (dec n)))/\∃k,w'=w.drewN k:=by
 intro n
 induction n using Nat.strongRecOn with
 | _ n ih =>
  intro hn w
  by_cases h:n<10
  ·rw [nE h,<-ud n h]
   have hd:(n:Int)<10:=by omega
   go_enter Tryz.func217,Tryz.ntmps217
   go_wp2
   go_ret
   exact ⟨rfl,0,rfl⟩
  have hd:¬(n:Int)<10:=by omega
  rw [nF h,<-bX,<-ud (n % 10) (by omega)]
  have IH:=aa (ih (n / 10) (by omega) (by omega))
  clear ih
  have hl:=mD (n / 10)
  have hz:(sb (dec (n / 10))).size<=400002:=by rw [gT]; omega
  go_enter Tryz.func217,Tryz.ntmps217
  go_wp2
  go_quiet ((go_at_call 217; exact Calls.quiet_of (IH.out _)))
  go_wp2
  go_ret
  exact ⟨rfl,_,rfl⟩
theorem rG (l:List UInt8):(l.flatMap gV).length<=2 * l.length:=by
 induction l with
 | nil=>simp
 | cons a l ih =>
  simp only [List.flatMap_cons,List.length_append,List.length_cons]
  have:(gV a).length<=2:=by unfold gV; split<;>simp
  omega
theorem PG (w:World) (c:Nat):(convert 110 9 (.slice (some ⟨w.heap.size,0,none⟩) 1 1)).run Tryz.prog (w.alloc (.cells #[.int .u8 (c:Int)] 5))=.ok (.string (sb [UInt8.ofNat c])) (w.alloc (.cells #[.int .u8 (c:Int)] 5)):=by
 rw [run_convert_bytes_string _ _ _ _ _ _ _ Tryz.underlying110 Tryz.underlying5 Tryz.underlying9]
 have hc0:(w.alloc (.cells #[.int .u8 (c:Int)] 5)).cell? ⟨w.heap.size,0,none⟩=some (.int .u8 (c:Int)):=(ay.new w #[.int .u8 (c:Int)] 5).cell 0
 rw [run_bytesToString _ _ 1 1 [(c:Int)] (by
  simp [loadCells,hc0,go_sem])]
 simp
 rfl
theorem JV (s:ByteArray) (k:Nat) (h:k<s.size):(bs s)[k]?=some (s[k]'h):=by
 simp [bs,ByteArray.getElem_eq_getElem_data]
theorem abJ (s:ByteArray) (k:Nat) (h:k<s.size):s.extract k (k+1)=sb [s[k]'h]:=by
 have hb:bs (s.extract k (k+1))=[s[k]'h]:=by
  rw [cP]
  unfold sub
  have h1:=JV s k h
  rw [Nat.add_sub_cancel_left,List.take_one,List.head?_drop,h1]
  rfl
 rw [<-yw (s.extract k (k+1)),hb]
theorem JW (s:ByteArray) (k:Nat) (h:k<s.size):((bs s).take (k+1)).flatMap gV=((bs s).take k).flatMap gV++gV (s[k]'h):=by
 rw [List.take_add_one,JV s k h,List.flatMap_append]
 simp
theorem JX {w:World} {s:ByteArray} (hs:s.size<=4000000):Calls Tryz.prog 218 #[.string s] w λ r w'=>r=.returned (.string (sb (iV (bs s))))/\Below w.heap.size w w':=by
 go_enter Tryz.func218,Tryz.ntmps218
 go_wp2
 go_loopw [3,4] (λ o i wr=>∃k:Nat,k<=s.size/\i=.int .i64 k/\o=.string (sb (((bs s).take k).flatMap gV))/\Below w.heap.size w wr) (λ_ i _=>s.size - (intOf i).toNat)
 case atStart=>exact ⟨0,Nat.zero_le _,rfl,rfl,(Fr.refl (λ_=>False) w).below⟩
 case round =>
  obtain ⟨k,hk,rfl,rfl,hb⟩:=hrel
  have HB:=aa hb
  clear hb
  by_cases hlt:k<s.size
  ·have HE:=aa (JW s k hlt)
   have hz:(sb (((bs s).take k).flatMap gV)).size<=8000000:=by
    rw [gT]
    have:=rG ((bs s).take k)
    rw [List.length_take,an] at this
    omega
   have kc:(convert 110 9 (.slice (some ⟨wr.heap.size,0,none⟩) 1 1)).run Tryz.prog (wr.alloc (.cells #[.int .u8 92] 5))=.ok (.string (sb [92])) (wr.alloc (.cells #[.int .u8 92] 5)):=PG wr 92
   have S_:=abJ s k hlt
   have HX:=aa S_
   have T7:=aa (Fr.below (((Fr.aL HB.out:Fr (λ_=>False) w wr)).alloc (.cells #[.int .u8 92] 5)))
   have hx1:(s.extract k (k+1)).size<=1:=by rw [S_,gT]; simp
   clear S_
   obtain ⟨X,hX⟩:∃X,X=sb (((bs s).take k).flatMap gV):=⟨_,rfl⟩
   rw [<-hX] at hz ⊢
   have xG:=aa hX
   clear hX
   have s1:(sb [92]).size=1:=rfl
   have dN:(X++sb [92]).size<=8000001:=by rw [ByteArray.size_append]; omega
   by_cases vJ:s[k]=39
   ·have e39:(s[k].toNat:Int)=39:=by rw [vJ]; rfl
    have HQ:Hid (gV s[k]=[92]++[s[k]]):=by rw [vJ]; rfl
    clear vJ
    go_wp2
    go_roundw
    case rel=>exact ⟨k+1,by omega,by go_num,by rw [HX.out,HE.out,HQ.out,xG.out,bX,bX,List.append_assoc],T7.out⟩
    case measure=>simp [intOf]; omega
   have e39:((s[k].toNat:Int) == 39)=false:=beq_eq_false_iff_ne.2 (λ e=>vJ (UInt8.toNat_inj.1 (by simpa using (show s[k].toNat=39 by omega))))
   by_cases mo:s[k]=92
   ·have e92:(s[k].toNat:Int)=92:=by rw [mo]; rfl
    have HQ:Hid (gV s[k]=[92]++[s[k]]):=by rw [mo]; rfl
    clear mo vJ
    go_wp2
    go_roundw
    case rel=>exact ⟨k+1,by omega,by go_num,by rw [HX.out,HE.out,HQ.out,xG.out,bX,bX,List.append_assoc],T7.out⟩
    case measure=>simp [intOf]; omega
   have e92:((s[k].toNat:Int) == 92)=false:=beq_eq_false_iff_ne.2 (λ e=>mo (UInt8.toNat_inj.1 (by simpa using (show s[k].toNat=92 by omega))))
   have HQ:Hid (gV s[k]=[s[k]]):=by show gV s[k]=[s[k]]; simp [gV,vJ,mo]
   clear mo vJ
   go_wp2
   go_roundw
   case rel=>exact ⟨k+1,by omega,by go_num,by rw [HX.out,HE.out,HQ.out,xG.out,bX],HB.out⟩
   case measure=>simp [intOf]; omega
  have hkl:k=s.size:=by omega
  subst hkl
  have he:(bs s).take s.size=bs s:=by rw [<-an s]; exact List.take_length
  rw [he]
  have hz:=rG (bs s)
  rw [an] at hz
  have dN:(sb ((bs s).flatMap gV)).size<=8000000:=by rw [gT]; omega
  obtain ⟨X,hX⟩:∃X,X=sb ((bs s).flatMap gV):=⟨_,rfl⟩
  rw [<-hX] at dN ⊢
  have xG:=aa hX
  clear hX he hz
  have Xg:(⟨#[39]⟩++X).size<=8000001:=by rw [ByteArray.size_append]; show 1+X.size<=_; omega
  go_wp2
  go_ret
  refine ⟨?_,HB.out⟩
  have e:sb (iV (bs s))=⟨#[39]⟩++X++⟨#[39]⟩:=by
   rw [xG.out]
   unfold iV
   rw [<-bX,<-bX]
  rw [e]
  rfl
theorem PI (w:World) (c:UInt8):(convert 110 9 (.slice (some ⟨w.heap.size,0,none⟩) 1 1)).run Tryz.prog (w.alloc (.cells #[.int .u8 (c.toNat:Int)] 5))=.ok (.string (sb [c])) (w.alloc (.cells #[.int .u8 (c.toNat:Int)] 5)):=by
 have:=PG w c.toNat
 rw [UInt8.ofNat_toNat] at this
 exact this
structure Y3 (b:Nat) (s:ByteArray) (w0:World) (rt:Value) (R:Sr) (n j:Nat) (acc:List UInt8) (wr:World):Prop where
 rr:RR b s w0 j 0 rt wr
 eq:eN (bs s) n j acc=R
 en:(bs s).length<n+j
 le:acc.length<=j
 jl:j<=s.size
theorem Nw {w0 w:World} {b:Nat} {s:ByteArray} {p:Nat} {rt:Value} (h:RR b s w0 p 0 rt w) (hs:s.size<=4000000) (fI:bt (bs s) p=34) :
 Calls Tryz.prog 126 #[.pointer (some ⟨b,0,none⟩)] w λ r w'=>r=.returned (.string (sb (aP (bs s) p).t))/\RR b s w0 (aP (bs s) p).p (aP (bs s) p).e rt w':=by
 have hp:p<s.size:=SY fI (by decide)
 have e1:aP (bs s) p=eN (bs s) ((bs s).length+1) (p+1) []:=by unfold aP; rw [if_pos fI]
 obtain ⟨R,hR⟩:∃R,R=aP (bs s) p:=⟨_,rfl⟩
 rw [<-hR]
 have H:=aa h
 have HE:=aa (e1.symm.trans hR.symm)
 have em:dJ (bs s) p 0 34=p+1:=by simp [dJ,fI]
 have ee:dK (bs s) p 0 34=0:=by simp [dK,fI]
 have HM:=aa em
 have HN:=aa ee
 clear h e1 hR em ee
 go_enter Tryz.func126,Tryz.ntmps126
 go_wp2_with fail
 refine (jz H.out hs 34 _ rfl (by decide)).mono ?_
 rintro r w1 ⟨rfl,h1⟩
 rw [HM.out,HN.out] at h1
 have S:Hid (Y3 b s w0 rt R ((bs s).length+1) (p+1) [] w1):=⟨h1,HE.out,by omega,by simp,by omega⟩
 clear h1 H
 go_wp2
 go_loopw [3] (λ sv wr=>∃n j acc,sv=.string (sb acc)/\Y3 b s w0 rt R n j acc wr) (λ_ wr=>s.size+1 - rP b wr)
 case atStart=>exact ⟨_,_,[],rfl,S.out⟩
 case round =>
  clear S
  obtain ⟨n,j,acc,rfl,hS⟩:=hrel
  have S:=aa hS
  have HP:=aa hS.rr.rP
  have hjl:=hS.jl
  obtain ⟨m,rfl⟩:∃m,n=m+1:=⟨n - 1,by have:=hS.en; rw [an] at this; omega⟩
  have hacc:(sb acc).size<=4000000:=by have:=hS.le; rw [gT]; omega
  have HQ:=aa hS.eq
  clear hS
  by_cases hj:j<s.size
  ·have hmo:=aa (show (decide (0=0) && decide (j<s.size))=true by simp [hj])
   have oo:=dR hj
   go_wp2_with fail
   refine (yH S.out.rr _ hmo.out).mono ?_
   rintro r w2 ⟨rfl,h2⟩
   have R2:=aa h2
   have c0:=h2.c0
   have c1:=h2.c1
   have kz:=h2.k.fz 1
   have hji:(j:Int)<(s.size:Int):=by omega
   clear h2
   go_wp2
   go_quiet (fail)
   have R3:=aa (R2.out.drewN nq)
   clear R2 c0 c1 kz
   generalize w2.drewN nq=w3 at *
   have c0:=R3.out.c0
   have c1:=R3.out.c1
   have kz:=R3.out.k.fz 1
   have H1:=aa (R3.out.jD (j+1))
   have e1:((j+1:Nat):Int)=(j:Int)+1:=by omega
   rw [e1] at H1
   by_cases fI:bt (bs s) j=34
   ·have hq:((s[j]'hj).toNat:Int)=34:=by omega
    have AJ:R=⟨0,j+1,acc⟩:=by
     rw [<-HQ.out]
     unfold eN
     rw [if_pos fI]
    subst AJ
    clear oo fI
    go_wp2
    go_ret
    exact ⟨rfl,H1.out⟩
   have hq:(((s[j]'hj).toNat:Int) == 34)=false:=beq_eq_false_iff_ne.2 (by omega)
   by_cases mo:bt (bs s) j=92
   ·have ZU:((s[j]'hj).toNat:Int)=92:=by omega
    obtain ⟨x1,hx1⟩:∃x1,(decide (0=0) && decide (bt (bs s) (j+1)=34))=x1:=⟨_,rfl⟩
    obtain ⟨x2,hx2⟩:∃x2,(decide (0=0) && decide (bt (bs s) (j+1)=92))=x2:=⟨_,rfl⟩
    have X1:=aa hx1
    have X2:=aa hx2
    by_cases hx:x1=false/\x2=false
    ·have AJ:R=⟨2,j+1,[]⟩:=by
      obtain ⟨rfl,rfl⟩:=hx
      simp at hx1 hx2
      rw [<-HQ.out]
      unfold eN
      rw [if_neg fI,if_pos mo,if_neg (by omega)]
     subst AJ
     obtain ⟨rfl,rfl⟩:=hx
     clear oo fI mo hx1 hx2
     go_wp2_with fail
     refine (kG H1.out 34 _ rfl (by decide) _ X1.out).mono ?_
     rintro r w4 ⟨rfl,h4⟩
     have R4:=aa h4
     clear h4
     go_wp2_with fail
     refine (kG R4.out 92 _ rfl (by decide) _ X2.out).mono ?_
     rintro r w5 ⟨rfl,h5⟩
     have R5:=aa h5
     clear h5 R4
     go_wp2_with fail
     refine (gS R5.out 2 _ rfl).mono ?_
     rintro r w6 ⟨rfl,h6⟩
     rw [if_pos rfl] at h6
     have R6:=aa h6
     clear h6 R5
     go_wp2
     go_ret
     exact ⟨rfl,R6.out⟩
    have Xx:bt (bs s) (j+1)=34\/bt (bs s) (j+1)=92:=by
     by_cases h1:bt (bs s) (j+1)=34
     ·exact Or.inl h1
     by_cases h2:bt (bs s) (j+1)=92
     ·exact Or.inr h2
     exact absurd ⟨by rw [<-hx1]; simp [h1],by rw [<-hx2]; simp [h2]⟩ hx
    obtain ⟨j1,ny⟩:∃j1,j1=j+1:=⟨_,rfl⟩
    rw [<-ny] at Xx hx1 hx2
    have PJ:j1<s.size:=by
     rcases Xx with h | h<;>exact SY h (by decide)
    have Xy:=dR PJ
    have hn:UInt8.ofNat (bt (bs s) j1)=s[j1]'PJ:=by rw [Xy,UInt8.ofNat_toNat]
    have AJ:eN (bs s) m (j1+1) (acc++[s[j1]'PJ])=R:=by
     rw [<-HQ.out,<-hn,ny]
     conv=>rhs; unfold eN
     rw [if_neg fI,if_pos mo,if_pos (by rw [ny] at Xx; exact Xx)]
    have HR:=aa AJ
    have H1':=aa H1.out
    have X1':=aa hx1
    have X2':=aa hx2
    have HJ:=aa ny
    have hx':x1=true\/(x1=false/\x2=true):=by cases x1<;>cases x2<;>simp_all
    have hHJ:Hid (∀W,RR b s w0 (j+1) 0 rt W->RR b s w0 j1 0 rt W):=λ W h=>by rw [ny]; exact h
    clear oo fI mo AJ hn hx1 hx2 hx Xx Xy X1 X2 ny
    go_wp2_with fail
    refine (kG (hHJ.out _ H1.out) 34 _ rfl (by decide) _ X1'.out).mono ?_
    rintro r w4 ⟨rfl,h4⟩
    have R4:=aa h4
    clear h4
    go_wp2_with fail
    refine (kG R4.out 92 _ rfl (by decide) _ X2'.out).mono ?_
    rintro r w5 ⟨rfl,h5⟩
    have R5:=aa h5
    clear h5 R4 c0 c1 kz H1 H1'
    have c0:=R5.out.c0
    have c1:=R5.out.c1
    have ajm:(j1:Int)<(s.size:Int):=by omega
    have s1:(sb [s[j1]'PJ]).size=1:=rfl
    rcases hx' with rfl | ⟨rfl,rfl⟩
    all_goals
     go_wp2
     go_quiet (fail)
     have R6:=aa (R5.out.drewN nq)
     clear R5 c0 c1
     generalize w5.drewN nq=w6 at *
     have kc:=PI w6 (s[j1]'PJ)
     have c1:=R6.out.c1
     have kz:=R6.out.k.fz 1
     have dy:b<w6.heap.size:=R6.out.k.lt
     have h7:=(R6.out.jD (j1+1)).alloc (.cells #[.int .u8 ((s[j1]'PJ).toNat:Int)] 5)
     rw [show ((j1+1:Nat):Int)=(j1:Int)+1 by omega] at h7
     have S2:Hid (Y3 b s w0 rt R m (j1+1) (acc++[s[j1]'PJ]) ((w6.setCell ⟨b,1,none⟩ (.int .i64 ((j1:Int)+1))).alloc (.cells #[.int .u8 ((s[j1]'PJ).toNat:Int)] 5))) :=
      ⟨h7,HR.out,by have:=S.out.en; have:=HJ.out; omega,by have:=S.out.le; have:=HJ.out; simp; omega,by omega⟩
     have Y5:=aa S2.out.rr.rP
     clear h7
     go_wp2
     go_roundw
     case rel=>exact ⟨_,_,_,by rw [bX],S2.out⟩
     case measure=>rw [HP.out,Y5.out]; have:=HJ.out; omega
   have ZU:(((s[j]'hj).toNat:Int) == 92)=false:=beq_eq_false_iff_ne.2 (by omega)
   by_cases hlo:bt (bs s) j<32
   ·have Ys:((s[j]'hj).toNat:Int)<32:=by omega
    have AJ:R=⟨2,j,[]⟩:=by
     rw [<-HQ.out]
     unfold eN
     rw [if_neg fI,if_neg mo,if_pos (Or.inl hlo)]
    subst AJ
    clear oo fI mo
    go_wp2_with fail
    refine (gS R3.out 2 _ rfl).mono ?_
    rintro r w4 ⟨rfl,h4⟩
    rw [if_pos rfl] at h4
    have R4:=aa h4
    clear h4
    go_wp2
    go_ret
    exact ⟨rfl,R4.out⟩
   have Ys:¬((s[j]'hj).toNat:Int)<32:=by omega
   by_cases hhi:126<bt (bs s) j
   ·have hq4:(126:Int)<((s[j]'hj).toNat:Int):=by omega
    have AJ:R=⟨2,j,[]⟩:=by
     rw [<-HQ.out]
     unfold eN
     rw [if_neg fI,if_neg mo,if_pos (Or.inr hhi)]
    subst AJ
    clear oo fI mo
    go_wp2_with fail
    refine (gS R3.out 2 _ rfl).mono ?_
    rintro r w4 ⟨rfl,h4⟩
    rw [if_pos rfl] at h4
    have R4:=aa h4
    clear h4
    go_wp2
    go_ret
    exact ⟨rfl,R4.out⟩
   have hq4:¬(126:Int)<((s[j]'hj).toNat:Int):=by omega
   have hn:UInt8.ofNat (bt (bs s) j)=s[j]'hj:=by rw [oo,UInt8.ofNat_toNat]
   have AJ:eN (bs s) m (j+1) (acc++[s[j]'hj])=R:=by
    rw [<-HQ.out,<-hn]
    conv=>rhs; unfold eN
    rw [if_neg fI,if_neg mo,if_neg (by omega)]
   have HR:=aa AJ
   clear oo fI mo AJ hn
   have kc:=PI w3 (s[j]'hj)
   have S2:Hid (Y3 b s w0 rt R m (j+1) (acc++[s[j]'hj]) ((w3.setCell ⟨b,1,none⟩ (.int .i64 ((j:Int)+1))).alloc (.cells #[.int .u8 ((s[j]'hj).toNat:Int)] 5))) :=
    ⟨H1.out.alloc _,HR.out,by have:=S.out.en; omega,by have:=S.out.le; simp; omega,by omega⟩
   have Y5:=aa S2.out.rr.rP
   have dy:b<w3.heap.size:=R3.out.k.lt
   have s1:(sb [s[j]'hj]).size=1:=rfl
   go_wp2
   go_roundw
   case rel=>exact ⟨_,_,_,by rw [bX],S2.out⟩
   case measure=>rw [HP.out,Y5.out]; omega
  have hmo:=aa (show (decide (0=0) && decide (j<s.size))=false by simp [hj])
  have AJ:R=⟨2,j,[]⟩:=by
   rw [<-HQ.out]
   have hb:bt (bs s) j=256:=gK hj
   unfold eN
   rw [if_neg (by omega),if_neg (by omega),if_pos (by omega)]
  subst AJ
  go_wp2_with fail
  refine (yH S.out.rr _ hmo.out).mono ?_
  rintro r w2 ⟨rfl,h2⟩
  have R2:=aa h2
  clear h2
  go_wp2_with fail
  refine (gS R2.out 2 _ rfl).mono ?_
  rintro r w3 ⟨rfl,h3⟩
  rw [if_pos rfl] at h3
  have R3:=aa h3
  clear h3
  go_wp2
  go_ret
  exact ⟨rfl,R3.out⟩
theorem Nx {w0 w:World} {b:Nat} {s:ByteArray} {p:Nat} {rt:Value} (h:RR b s w0 p 0 rt w) (hs:s.size<=4000000) (fI:bt (bs s) p≠34) :
 Calls Tryz.prog 126 #[.pointer (some ⟨b,0,none⟩)] w λ r w'=>r=.returned (.string (sb []))/\RR b s w0 p 2 rt w':=by
 have H:=aa h
 have em:dJ (bs s) p 0 34=p:=by simp [dJ,fI]
 have ee:dK (bs s) p 0 34=2:=by simp [dK,fI]
 have HM:=aa em
 have HN:=aa ee
 clear h em ee fI
 go_enter Tryz.func126,Tryz.ntmps126
 go_wp2_with fail
 refine (jz H.out hs 34 _ rfl (by decide)).mono ?_
 rintro r w1 ⟨rfl,h1⟩
 rw [HM.out,HN.out] at h1
 have S:=aa h1
 clear h1 H
 go_wp2
 go_loopw [3] (λ_ wr=>RR b s w0 p 2 rt wr) (λ_ _=>0)
 case atStart=>exact S.out
 case round =>
  have R1:=aa hrel
  clear hrel S
  go_wp2_with fail
  refine (yH R1.out false (by simp)).mono ?_
  rintro r w2 ⟨rfl,h2⟩
  have R2:=aa h2
  clear h2
  go_wp2_with fail
  refine (gS R2.out 2 _ rfl).mono ?_
  rintro r w3 ⟨rfl,h3⟩
  rw [if_neg (by decide)] at h3
  have R3:=aa h3
  clear h3
  go_wp2
  go_ret
  exact ⟨rfl,R3.out⟩
theorem JY {w0 w:World} {b:Nat} {s:ByteArray} {p:Nat} {rt:Value} (h:RR b s w0 p 0 rt w) (hs:s.size<=4000000) :
 Calls Tryz.prog 126 #[.pointer (some ⟨b,0,none⟩)] w λ r w'=>r=.returned (.string (sb (aP (bs s) p).t))/\RR b s w0 (aP (bs s) p).p (aP (bs s) p).e rt w':=by
 by_cases fI:bt (bs s) p=34
 ·exact Nw h hs fI
 have e:aP (bs s) p=⟨2,p,[]⟩:=by unfold aP; rw [if_neg fI]
 rw [e]
 exact Nx h hs fI
theorem Ny (q:ByteArray) (k:Nat) (h:k<q.size):((bs q).map UInt8.toNat).drop k=(q[k]'h).toNat::((bs q).map UInt8.toNat).drop (k+1):=by
 have hl:k<((bs q).map UInt8.toNat).length:=by rw [List.length_map,an]; exact h
 rw [List.drop_eq_getElem_cons hl]
 congr 1
 have:=JV q k h
 rw [List.getElem_map]
 obtain ⟨h1,h2⟩:=List.getElem?_eq_some_iff.1 this
 rw [h2]
def Y6 (b:Nat) (s:ByteArray) (w0:World) (rt:Value) (q:ByteArray) (p k:Nat) (wr:World):Prop :=
 (RR b s w0 (p+k) 0 rt wr/\dz (bs s) ((bs q).map UInt8.toNat) p=dz (bs s) (((bs q).map UInt8.toNat).drop k) (p+k)) \/
 (RR b s w0 (dz (bs s) ((bs q).map UInt8.toNat) p) 2 rt wr/\dz (bs s) ((bs q).map UInt8.toNat) p≠p+q.size)
theorem AK {w0 w:World} {b:Nat} {s:ByteArray} {p:Nat} {rt:Value} (h:RR b s w0 p 0 rt w) (hs:s.size<=4000000) (q:ByteArray) (hq:q.size<=5) :
 Calls Tryz.prog 127 #[.pointer (some ⟨b,0,none⟩),.string q] w λ r w'=>r=.returned (.string q)/\RR b s w0 (dz (bs s) ((bs q).map UInt8.toNat) p) (if dz (bs s) ((bs q).map UInt8.toNat) p=p+q.size then 0 else 2) rt w':=by
 have S:Hid (Y6 b s w0 rt q p 0 w):=Or.inl ⟨h,by simp⟩
 obtain ⟨ee,hee⟩:∃ee,ee=(if dz (bs s) ((bs q).map UInt8.toNat) p=p+q.size then 0 else 2):=⟨_,rfl⟩
 rw [<-hee]
 have HEE:=aa hee
 clear h hee
 go_enter Tryz.func127,Tryz.ntmps127
 go_wp2
 go_loopw [5] (λ i wr=>∃k:Nat,k<=q.size/\i=.int .i64 k/\Y6 b s w0 rt q p k wr) (λ i _=>q.size - (intOf i).toNat)
 case atStart=>exact ⟨0,Nat.zero_le _,rfl,S.out⟩
 case round =>
  clear S
  obtain ⟨k,hk,rfl,hS⟩:=hrel
  rcases hS with ⟨hR,hE⟩ | ⟨hR,hE⟩
  ·have R1:=aa hR
   have HE:=aa hE
   have c2:wr.cell? ⟨b,2,none⟩=some (.int .i64 0):=hR.c2
   clear hR hE
   by_cases hlt:k<q.size
   ·have hki:(k:Int)<(q.size:Int):=by omega
    have hd:=Ny q k hlt
    have HD:=aa hd
    clear hd
    go_wp2_with fail
    refine (jz R1.out hs (q[k]'hlt).toNat _ rfl (q[k]'hlt).toNat_lt).mono ?_
    rintro r w2 ⟨rfl,h2⟩
    by_cases hb:bt (bs s) (p+k)=(q[k]'hlt).toNat
    ·have S2:Hid (Y6 b s w0 rt q p (k+1) w2):=by
      refine Or.inl ⟨?_,?_⟩
      ·have e1:dJ (bs s) (p+k) 0 (q[k]'hlt).toNat=p+(k+1):=by simp [dJ,hb]; omega
       have e2:dK (bs s) (p+k) 0 (q[k]'hlt).toNat=0:=by simp [dK,hb]
       rw [e1,e2] at h2; exact h2
      rw [HE.out,HD.out]
      conv=>lhs; unfold dz
      rw [if_pos hb]; rfl
     clear h2 hb
     go_wp2
     go_roundw
     case rel=>exact ⟨k+1,by omega,by go_num,S2.out⟩
     case measure=>simp [intOf]; omega
    have hz:dz (bs s) ((bs q).map UInt8.toNat) p=p+k:=by
     rw [HE.out,HD.out]; unfold dz; rw [if_neg hb]
    have S2:Hid (Y6 b s w0 rt q p (k+1) w2):=by
     refine Or.inr ⟨?_,by omega⟩
     have e1:dJ (bs s) (p+k) 0 (q[k]'hlt).toNat=p+k:=by simp [dJ,hb]
     have e2:dK (bs s) (p+k) 0 (q[k]'hlt).toNat=2:=by simp [dK,hb]
     rw [e1,e2] at h2
     rw [hz]; exact h2
    clear h2 hb hz
    go_wp2
    go_roundw
    case rel=>exact ⟨k+1,by omega,by go_num,S2.out⟩
    case measure=>simp [intOf]; omega
   have hkl:k=q.size:=by omega
   subst hkl
   have hz:dz (bs s) ((bs q).map UInt8.toNat) p=p+q.size:=by
    rw [HE.out,List.drop_of_length_le (by rw [List.length_map,an]; omega)]; rfl
   have hE0:ee=0:=by rw [HEE.out,if_pos hz]
   subst hE0
   have HZ:=aa hz
   clear hz
   go_wp2
   go_ret
   exact ⟨rfl,by rw [HZ.out]; exact R1.out⟩
  have R1:=aa hR
  have c2:wr.cell? ⟨b,2,none⟩=some (.int .i64 2):=hR.c2
  have hE0:ee=2:=by rw [HEE.out,if_neg hE]
  subst hE0
  clear hR hE
  by_cases hlt:k<q.size
  ·have hki:(k:Int)<(q.size:Int):=by omega
   go_wp2
   go_ret
   exact ⟨rfl,R1.out⟩
  have hki:¬(k:Int)<(q.size:Int):=by omega
  go_wp2
  go_ret
  exact ⟨rfl,R1.out⟩
def rH (d:dO) (sv:Value):Array Value:=#[.int .i64 (d.kind:Nat),.int .i64 d.n,.string (sb d.s),.string (sb d.name),.string (sb d.path),.int .i64 (d.ai:Nat),.int .i64 (d.to:Nat),.int .i64 d.cl,sv]
structure RV (rb bv:Nat) (s:ByteArray) (w:World) (p e:Nat) (rt:Value) (d:dO) (sv:Value) (w':World):Prop where
 r:ay w' rb (yG s p e rt) 161
 v:ay w' bv (rH d sv) 195
 f:Fr (λ k=>k=rb\/k=bv) w w'
theorem RV.rr {rb bv:Nat} {s:ByteArray} {w w':World} {p e:Nat} {rt:Value} {d:dO} {sv:Value} (h:RV rb bv s w p e rt d sv w'):RR rb s w' p e rt w':=⟨h.r,Fr.refl _ _⟩
theorem RV.step {rb bv:Nat} {s:ByteArray} {w w' w'':World} {p e p' e':Nat} {rt rt':Value} {d:dO} {sv:Value} (h:RV rb bv s w p e rt d sv w') (k:RR rb s w' p' e' rt' w'') (hne:bv≠rb):RV rb bv s w p' e' rt' d sv w'' :=
 ⟨k.k,h.v.fr k.f hne,h.f.trans (k.f.mono (λ_ _ e=>Or.inl e))⟩
theorem RV.drewN {rb bv:Nat} {s:ByteArray} {w w':World} {p e:Nat} {rt:Value} {d:dO} {sv:Value} (h:RV rb bv s w p e rt d sv w') (n:Nat):RV rb bv s w p e rt d sv (w'.drewN n):=⟨h.r,h.v,h.f.drewN n⟩
theorem RV.iY {rb bv:Nat} {s:ByteArray} {w w':World} {p e:Nat} {rt:Value} {d d':dO} {sv jG:Value} (h:RV rb bv s w p e rt d sv w') (hne:bv≠rb) (i:Nat) (x:Value) (hx:(rH d sv).setIfInBounds i x=rH d' jG):RV rb bv s w p e rt d' jG (w'.setCell ⟨bv,i,none⟩ x) :=
 ⟨h.r.other (λ e=>hne e.symm) i x,by rw [<-hx]; exact h.v.set i x,h.f.setCell ⟨bv,i,none⟩ (Or.inl (Or.inr rfl)) x⟩
theorem AL {s:List UInt8} {p:Nat}:∀k,run af s k p=p+k->iT s p k+1<=10 ^ k
 | 0,_=>by simp [iT]
 | k+1,h=>by
  have h1:run af s k p=p+k:=by
   rw [iL] at h
   split at h
   ·rename_i h2; exact h2.1
   have:=gL af s k p; omega
  have h2:af (bt s (p+k))=true:=fN af s (k+1) p (p+k) (by omega) (by omega)
  have:=AL k h1
  simp [af] at h2
  have e:10 ^ (k+1)=10 * 10 ^ k:=by rw [Nat.pow_succ]; omega
  rw [e]
  simp only [iT]
  omega
theorem Xz {s:List UInt8} {p k:Nat} (hk:k<=9) (h:run af s k p=p+k):iT s p k<1000000000:=by
 have h3:=AL k h
 have:10 ^ k<=10 ^ 9:=Nat.pow_le_pow_right (by omega) (by omega)
 omega
theorem Et {s:List UInt8} {j p:Nat} (h:run af s j p=p+j) (hb:af (bt s (p+j))=true):run af s (j+1) p=p+(j+1):=by rw [iL,if_pos ⟨h,hb⟩]; omega
theorem vB {s:List UInt8} {p j:Nat}:∀K,j<=K->run af s j p=p+j->(j=K\/af (bt s (p+j))=false)->run af s K p=p+j
 | 0,h,hr,_=>by
  have:j=0:=by omega
  subst this; exact hr
 | K+1,h,hr,hs=>by
  rcases Nat.lt_or_ge K j with h1 | h1
  ·have:j=K+1:=by omega
   subst this; exact hr
  have hs':af (bt s (p+j))=false:=hs.resolve_left (by omega)
  rw [iL]
  have ih:=vB K h1 hr (Or.inr hs')
  rw [ih,if_neg]
  rintro ⟨h2,h3⟩
  have:K=j:=by omega
  subst this
  rw [hs'] at h3; cases h3
structure NuI (rb bv:Nat) (s:ByteArray) (w:World) (rt:Value) (d:dO) (sv:Value) (p0 j:Nat) (wr:World):Prop where
 rv:RV rb bv s w (p0+j) 0 rt d sv wr
 run:run af (bs s) j p0=p0+j
 le:j<=9
 lq:p0+j<=s.size
theorem JZ {w:World} {rb bv:Nat} {s:ByteArray} {p:Nat} {rt:Value} {d:dO} {sv:Value} (h:RV rb bv s w p 0 rt d sv w) (hne:bv≠rb) (hs:s.size<=4000000) (hpl:p<=s.size) :
 Calls Tryz.prog 128 #[.pointer (some ⟨rb,0,none⟩),.pointer (some ⟨bv,0,none⟩)] w λ r w'=>r=.returned (.tuple #[]) /\
  ((uR (bs s) p=true/\RV rb bv s w (lT (bs s) p) 0 rt ⟨1,pF (bs s) p,d.s,d.name,d.path,d.ai,lT (bs s) p,d.cl⟩ sv w')\/(uR (bs s) p=false/\RV rb bv s w (cW (bs s) p) 2 rt d sv w')):=by
 obtain ⟨p0,Bi⟩:∃p0,p0=cW (bs s) p:=⟨_,rfl⟩
 obtain ⟨ng,Ui⟩:∃ng,decide (bt (bs s) p=45)=ng:=⟨_,rfl⟩
 obtain ⟨xd,Y7⟩:∃xd,af (bt (bs s) p0)=xd:=⟨_,rfl⟩
 obtain ⟨xz,hxz⟩:∃xz,decide (bt (bs s) p0=48)=xz:=⟨_,rfl⟩
 obtain ⟨nt,hnt⟩:∃nt,nt=lT (bs s) p:=⟨_,rfl⟩
 obtain ⟨nv,Iq⟩:∃nv,nv=pF (bs s) p:=⟨_,rfl⟩
 have Ta:Hid (uR (bs s) p=!(!xd || (ng && xz))):=by
  unfold Hid uR
  rw [<-Bi,Y7]
  rw [show (bt (bs s) p == 45)=ng by rw [<-Ui]; rfl,show (bt (bs s) p0 == 48)=xz by rw [<-hxz]; rfl]
  cases xd<;>cases ng<;>cases xz<;>rfl
 have HP:Hid (p0=if ng=true then p+1 else p):=by
  unfold Hid
  rw [Bi]; unfold cW; rw [<-Ui]; simp
 have ajn:p0<=s.size:=by
  rw [HP.out]
  cases ng
  ·exact hpl
  have:=SY (of_decide_eq_true Ui) (by decide); simp; omega
 have HNV:Hid (∀j,nt=p0+j->nv=if ng=true then -((iT (bs s) p0 j:Nat):Int) else ((iT (bs s) p0 j:Nat):Int)):=λ j e=>by
  have e1:lT (bs s) p - cW (bs s) p=j:=by rw [<-hnt,<-Bi]; omega
  rw [Iq]
  unfold pF
  rw [e1,<-Bi,<-Ui]
  simp
 have Uj:Hid (nt=if xz=true then p0+1 else run af (bs s) 9 p0):=by
  unfold Hid
  rw [hnt]; unfold lT; rw [<-Bi,<-hxz]; simp
 rw [<-Bi,<-hnt,<-Iq]
 have HM:Hid ((decide (0=0) && decide (bt (bs s) p=45))=ng):=by unfold Hid; simpa using Ui
 have HD:Hid ((decide (0=0) && af (bt (bs s) p0))=xd):=by unfold Hid; simpa using Y7
 have HZ:Hid ((decide (0=0) && decide (bt (bs s) p0=48))=xz):=by unfold Hid; simpa using hxz
 have Y8:=aa Y7
 have M0:=aa h
 clear h Bi Ui Y7 hxz hnt Iq
 go_enter Tryz.func128,Tryz.ntmps128
 go_wp2_with fail
 refine (kG M0.out.rr 45 _ rfl (by decide) ng HM.out).mono ?_
 rintro r w1 ⟨rfl,h1⟩
 have M1:=aa (M0.out.step h1 hne)
 have k1:=h1.c1
 have kz:=h1.k.fz 1
 have K1:=aa h1
 clear h1
 go_upto_if 12 with fail
 go_cut [] from 13 (λ wc=>RV rb bv s w p0 0 rt d sv wc)
 case first =>
  cases ng
  ·have e:p0=p:=HP.out
   have E:=aa e
   clear e
   go_wp2
   go_meet
   rw [E.out]
   exact M1.out
  have e:p0=p+1:=HP.out
  have E:=aa e
  clear e
  have h1':=K1.out.jD (p+1)
  rw [show ((p+1:Nat):Int)=(p:Int)+1 by omega] at h1'
  have H1:=aa (M0.out.step h1' hne)
  clear h1'
  go_wp2
  go_meet
  rw [E.out]
  exact H1.out
 case rest =>
 have M:=aa hcut
 clear hcut M0 M1 K1 k1 kz HM HP
 go_wp2_with fail
 refine (JS M.out.rr _ HD.out).mono ?_
 rintro r w2 ⟨rfl,h2⟩
 have M2:=aa (M.out.step h2 hne)
 clear h2 M
 go_wp2_with fail
 refine (kG M2.out.rr 48 _ rfl (by decide) _ HZ.out).mono ?_
 rintro r w3 ⟨rfl,h3⟩
 have M3:=aa (M2.out.step h3 hne)
 clear h3 M2 HD HZ
 go_upto_region 5 with fail
 go_cut [31] from 24 (λ x wc=>x=.bool (!xd || (ng && xz))/\wc=w3)
 case first =>
  cases xd<;>cases xz<;>cases ng<;>(go_wp2; go_meet; exact ⟨rfl,rfl⟩)
 case rest =>
 obtain ⟨rfl,hw⟩:=hcut
 have hw:=hw.symm
 subst hw
 obtain ⟨B,hB⟩:∃B,(!xd || (ng && xz))=B:=⟨_,rfl⟩
 rw [hB] at Ta ⊢
 cases B
 ·have hd:xd=true:=by cases xd<;>simp at hB ⊢
  subst hd
  clear hB
  go_wp2
  go_loopw [7,8] (λ n k wr=>∃j:Nat,k=.int .i64 j/\n=.int .i64 (iT (bs s) p0 j:Nat)/\NuI rb bv s w rt d sv p0 j wr/\(xz=true->j<=1)) (λ_ k _=>9 - (intOf k).toNat)
  case atStart=>exact ⟨0,rfl,rfl,⟨M3.out,rfl,by decide,by omega⟩,λ_=>by decide⟩
  case round =>
   clear M3
   obtain ⟨j,rfl,rfl,hI,hz1⟩:=hrel
   have I:=aa hI
   have gO:=aa hz1
   have hle:=hI.le
   have hlq:=hI.lq
   have hbd:(iT (bs s) p0 j:Int)<1000000000:=by have:=Xz hI.le hI.run; omega
   clear hI hz1
   obtain ⟨q,Fb⟩:∃q,q=p0+j:=⟨_,rfl⟩
   have HQE:=aa Fb
   have M4:Hid (RV rb bv s w q 0 rt d sv wr):=by rw [Fb]; exact I.out.rv
   have hqs:q<=s.size:=by omega
   by_cases hlt:j<9
   ·have abN:(j:Int)<9:=by omega
    obtain ⟨xe,KC⟩:∃xe,af (bt (bs s) q)=xe:=⟨_,rfl⟩
    have Tz:Hid ((decide (0=0) && af (bt (bs s) q))=xe):=by unfold Hid; simpa using KC
    have C:(xe=true/\(¬(0:Int)<(j:Int)\/((0:Int)<(j:Int)/\xz=false)))\/(nt=q/\(xe=false\/((0:Int)<(j:Int)/\xz=true))):=by
     cases xe
     ·refine Or.inr ⟨?_,Or.inl rfl⟩
      have hj0:xz=true->0<j:=λ_=>by
       rcases Nat.eq_zero_or_pos j with h0 | h0
       ·subst h0; rw [Fb,Nat.add_zero,Y8.out] at KC; cases KC
       exact h0
      rw [Uj.out]
      cases xz
      ·simp only [Bool.false_eq_true,if_false]
       rw [Fb]
       exact vB 9 I.out.le I.out.run (Or.inr (by rw [<-Fb]; exact KC))
      have:=hj0 rfl; have:=gO.out rfl
      simp only [if_true]; omega
     by_cases hj0:(0:Int)<(j:Int)
     ·cases xz
      ·exact Or.inl ⟨rfl,Or.inr ⟨hj0,rfl⟩⟩
      refine Or.inr ⟨?_,Or.inr ⟨hj0,rfl⟩⟩
      have:=gO.out rfl
      rw [Uj.out]
      simp only [if_true]; omega
     exact Or.inl ⟨rfl,Or.inl hj0⟩
    rcases C with ⟨rfl,C⟩ | ⟨XC,C⟩
    ·have hin:q<s.size:=by
      have:=Tr.cD (eo KC); rw [an] at this; exact this
     have ajo:(q:Int)<(s.size:Int):=by omega
     have si:=dR hin
     have hlo:48<=((s[q]'hin).toNat:Int):=by simp [af,si] at KC; omega
     have hhi:((s[q]'hin).toNat:Int)<=57:=by simp [af,si] at KC; omega
     have hvv:(10 * (iT (bs s) p0 j:Int)+(((s[q]'hin).toNat:Int) - 48))=((iT (bs s) p0 (j+1):Nat):Int):=by
      simp only [iT]; rw [<-Fb,si]; omega
     have HVV:=aa hvv
     have HRM:=aa (Et I.out.run (by rw [<-Fb]; exact KC))
     have ajr:(iT (bs s) p0 j:Int)<100000000:=by
      have h3:=AL j I.out.run
      have:10 ^ j<=10 ^ 8:=Nat.pow_le_pow_right (by omega) (by omega)
      omega
     have HX:Hid (xz=true->j+1<=1):=λ e=>by
      rcases C with C | ⟨_,C⟩
      ·omega
      rw [e] at C; cases C
     clear KC si hvv Fb Uj HNV Y8 Ta
     generalize iT (bs s) p0 j=dj at *
     have C3:((¬(0:Int)<(j:Int)/\j=0)/\xz=false)\/((¬(0:Int)<(j:Int)/\j=0)/\xz=true)\/(((0:Int)<(j:Int)/\0<j)/\xz=false):=by
      rcases C with h | h
      ·cases xz
       ·exact Or.inl ⟨⟨h,by omega⟩,rfl⟩
       exact Or.inr (Or.inl ⟨⟨h,by omega⟩,rfl⟩)
      exact Or.inr (Or.inr ⟨⟨h.1,by omega⟩,h.2⟩)
     clear C
     rcases C3 with ⟨⟨hj0,hjn⟩,rfl⟩ | ⟨⟨hj0,hjn⟩,rfl⟩ | ⟨⟨hj0,hjn⟩,rfl⟩
     all_goals
      go_wp2_with fail
      refine (JS M4.out.rr _ Tz.out).mono ?_
      rintro r w5 ⟨rfl,h5⟩
      have M5:=aa (M4.out.step h5 hne)
      have c0:=h5.c0
      have c1:=h5.c1
      clear h5 M4
      go_wp2
      go_quiet (fail)
      have M6:=aa (M5.out.drewN nq)
      clear M5 c0 c1
      generalize w5.drewN nq=w6 at *
      have c1:w6.cell? ⟨rb,1,none⟩=some (.int .i64 (q:Nat)):=M6.out.r.cell 1
      have kz:=M6.out.r.fz 1
      have h7:=M6.out.step (M6.out.rr.jD (q+1)) hne
      rw [show ((q+1:Nat):Int)=(q:Int)+1 by omega] at h7
      have I2:Hid (NuI rb bv s w rt d sv p0 (j+1) (w6.setCell ⟨rb,1,none⟩ (.int .i64 ((q:Int)+1)))) :=
       ⟨by
        have e:p0+(j+1)=q+1:=by have:=HQE.out; omega
        rw [e]; exact h7,HRM.out,by omega,by have:=HQE.out; omega⟩
      clear h7
      go_wp2
      go_roundw
      case rel=>exact ⟨j+1,by go_num,by rw [<-HVV.out],I2.out,HX.out⟩
      case measure=>first | (simp [intOf]; done) | (simp [intOf]; omega)
    have HQ2:=aa Fb
    have XD:=aa (XC.trans Fb)
    clear XC Fb Uj Y8 KC
    have C3:(xe=false/\xz=false)\/(xe=false/\xz=true)\/(xe=true/\((0:Int)<(j:Int)/\0<j)/\xz=true):=by
     rcases C with rfl | ⟨h,rfl⟩
     ·cases xz
      ·exact Or.inl ⟨rfl,rfl⟩
      exact Or.inr (Or.inl ⟨rfl,rfl⟩)
     cases xe
     ·exact Or.inr (Or.inl ⟨rfl,rfl⟩)
     exact Or.inr (Or.inr ⟨rfl,⟨h,by omega⟩,rfl⟩)
    clear C
    rcases C3 with ⟨rfl,rfl⟩ | ⟨rfl,rfl⟩ | ⟨rfl,⟨hj0,hjn⟩,rfl⟩
    all_goals
     go_wp2_with fail
     refine (JS M4.out.rr _ Tz.out).mono ?_
     rintro r w5 ⟨rfl,h5⟩
     have M5:=aa (M4.out.step h5 hne)
     have c0:=h5.c0
     have c1:=h5.c1
     clear h5 M4
     have I2:Hid (NuI rb bv s w rt d sv p0 j w5):=⟨by rw [<-HQ2.out]; exact M5.out,I.out.run,I.out.le,I.out.lq⟩
     clear c0 c1 M5 I
     have hv:=HNV.out j XD.out
     have M:Hid (RV rb bv s w nt 0 rt d sv w5):=by rw [XD.out]; exact I2.out.rv
     clear I2
     have v0:=M.out.v.fz 0
     have v1:=M.out.v.fz 1
     have v6:=M.out.v.fz 6
     have y0:w5.cell? ⟨bv,0,none⟩=some (.int .i64 (d.kind:Nat)):=M.out.v.cell 0
     have y1:w5.cell? ⟨bv,1,none⟩=some (.int .i64 d.n):=M.out.v.cell 1
     have y6:w5.cell? ⟨bv,6,none⟩=some (.int .i64 (d.to:Nat)):=M.out.v.cell 6
     have c1:w5.cell? ⟨rb,1,none⟩=some (.int .i64 (nt:Nat)):=M.out.r.cell 1
     have F:Hid (RV rb bv s w nt 0 rt ⟨1,nv,d.s,d.name,d.path,d.ai,nt,d.cl⟩ sv (((w5.setCell ⟨bv,0,none⟩ (.int .i64 1)).setCell ⟨bv,1,none⟩ (.int .i64 nv)).setCell ⟨bv,6,none⟩ (.int .i64 (nt:Nat)))) :=
      (((M.out.iY (d':={ d with kind:=1 }) hne 0 (.int .i64 1) rfl).iY (d':={ d with kind:=1,n:=nv }) hne 1 (.int .i64 nv) rfl).iY (d':=⟨1,nv,d.s,d.name,d.path,d.ai,nt,d.cl⟩) hne 6 (.int .i64 (nt:Nat)) rfl)
     have Tc:rb≠bv:=λ e=>hne e.symm
     clear M
     generalize iT (bs s) p0 j=dj at *
     cases ng
     all_goals
      have V:nv=_:=hv
      simp only [Bool.false_eq_true,if_false,if_true] at V
      rw [V] at F
      have HV:=aa V
      clear V hv
      go_wp2
      go_end0
      exact ⟨rfl,Or.inl ⟨Ta.out,by rw [HV.out]; exact F.out⟩⟩
   have abN:¬(j:Int)<9:=by omega
   have XC:nt=p0+j:=by
    rw [Uj.out]
    cases xz
    ·simp only [Bool.false_eq_true,if_false]
     exact vB 9 I.out.le I.out.run (Or.inl (by omega))
    have:=gO.out rfl; omega
   have XD:=aa XC
   clear XC Fb Uj Y8
   have hv:=HNV.out j XD.out
   have M:Hid (RV rb bv s w nt 0 rt d sv wr):=by rw [XD.out]; exact I.out.rv
   clear I M4
   have v0:=M.out.v.fz 0
   have v1:=M.out.v.fz 1
   have v6:=M.out.v.fz 6
   have y0:wr.cell? ⟨bv,0,none⟩=some (.int .i64 (d.kind:Nat)):=M.out.v.cell 0
   have y1:wr.cell? ⟨bv,1,none⟩=some (.int .i64 d.n):=M.out.v.cell 1
   have y6:wr.cell? ⟨bv,6,none⟩=some (.int .i64 (d.to:Nat)):=M.out.v.cell 6
   have c1:wr.cell? ⟨rb,1,none⟩=some (.int .i64 (nt:Nat)):=M.out.r.cell 1
   have F:Hid (RV rb bv s w nt 0 rt ⟨1,nv,d.s,d.name,d.path,d.ai,nt,d.cl⟩ sv (((wr.setCell ⟨bv,0,none⟩ (.int .i64 1)).setCell ⟨bv,1,none⟩ (.int .i64 nv)).setCell ⟨bv,6,none⟩ (.int .i64 (nt:Nat)))) :=
    (((M.out.iY (d':={ d with kind:=1 }) hne 0 (.int .i64 1) rfl).iY (d':={ d with kind:=1,n:=nv }) hne 1 (.int .i64 nv) rfl).iY (d':=⟨1,nv,d.s,d.name,d.path,d.ai,nt,d.cl⟩) hne 6 (.int .i64 (nt:Nat)) rfl)
   have Tc:rb≠bv:=λ e=>hne e.symm
   clear M
   generalize iT (bs s) p0 j=dj at *
   cases ng
   all_goals
    have V:nv=_:=hv
    simp only [Bool.false_eq_true,if_false,if_true] at V
    rw [V] at F
    have HV:=aa V
    clear V hv
    go_wp2
    go_end0
    exact ⟨rfl,Or.inl ⟨Ta.out,by rw [HV.out]; exact F.out⟩⟩
 clear hB
 go_wp2_with fail
 refine (gS M3.out.rr 2 _ rfl).mono ?_
 rintro r w4 ⟨rfl,h4⟩
 rw [if_pos rfl] at h4
 have M4:=aa (M3.out.step h4 hne)
 clear h4
 go_wp2
 (try simp only [Exit.inBlock,Exit.then]); refine bodyPost_ret (results_none rfl _ _ _) rfl ?_
 exact ⟨rfl,Or.inr ⟨Ta.out,M4.out⟩⟩
theorem iQ {x c:Nat} (h:x≠c):((x:Int) == (c:Int))=false:=beq_eq_false_iff_ne.2 (by omega)
theorem sE {w0 w:World} {rb bv:Nat} {s:ByteArray} {p:Nat} {rt:Value} {d:dO} {sv:Value} (h:RV rb bv s w0 p 0 rt d sv w) (hp:s.size<=p) (ip:Option Addr) :
 Calls Tryz.prog 129 #[.pointer (some ⟨rb,0,none⟩),.pointer ip,.pointer (some ⟨bv,0,none⟩)] w λ r w'=>r=.returned (.tuple #[])/\RV rb bv s w0 p 0 rt d sv w':=by
 have H:=aa h
 have c0:=h.rr.c0
 have c1:=h.rr.c1
 clear h
 have hd:decide ((s.size:Int)<=(p:Int))=true:=by simp; omega
 go_enter Tryz.func129,Tryz.ntmps129
 go_wp2
 go_quiet (fail)
 have H2:=aa (H.out.drewN nq)
 clear H c0 c1
 generalize w.drewN nq=w2 at *
 go_wp2
 (try simp only [Exit.inBlock,Exit.then]); refine bodyPost_ret (results_none rfl _ _ _) rfl ?_
 exact ⟨rfl,H2.out⟩
theorem Eu {w0 w:World} {rb bv:Nat} {s:ByteArray} {p:Nat} {rt:Value} {d:dO} {sv:Value} {ip:Option Addr} {cG:Nat} (h:RV rb bv s w0 p 0 rt d sv w) (hne:bv≠rb) (hp:p<s.size) (hk:(ip=none/\cG=0)\/∃bi,ip=some ⟨bi,0,none⟩/\w.cell? ⟨bi,0,none⟩=some (.int .i64 (cG:Nat))/\(cG=4\/cG=5)) :
 Calls Tryz.prog 129 #[.pointer (some ⟨rb,0,none⟩),.pointer ip,.pointer (some ⟨bv,0,none⟩)] w λ r w'=>r=.returned (.tuple #[])/\RV rb bv s w0 p 0 rt { d with cl:=if fH cG (bt (bs s) p)=true then (p:Int) else d.cl } sv w':=by
 have H:=aa h
 have HK:=aa hk
 have c0:=h.rr.c0
 have c1:=h.rr.c1
 have hd:decide ((s.size:Int)<=(p:Int))=false:=by simp; omega
 have Xv:(p:Int)<(s.size:Int):=by omega
 have oo:=dR hp
 have Tc:rb≠bv:=λ e=>hne e.symm
 obtain ⟨c,hc0⟩:∃c,(s[p]'hp).toNat=c:=⟨_,rfl⟩
 rw [oo,hc0]
 have HC0:=aa hc0
 obtain ⟨xo,hxo⟩:∃xo,fH cG c=xo:=⟨_,rfl⟩
 rw [hxo]
 have HXO:=aa hxo
 clear hxo
 clear h hk oo hc0
 go_enter Tryz.func129,Tryz.ntmps129
 go_wp2
 go_quiet (fail)
 have H2:=aa (H.out.drewN nq)
 have YF:Hid ((ip=none/\cG=0)\/∃bi,ip=some ⟨bi,0,none⟩/\(w.drewN nq).cell? ⟨bi,0,none⟩=some (.int .i64 (cG:Nat))/\(cG=4\/cG=5)):=HK.out
 clear H HK c0 c1
 generalize w.drewN nq=w2 at *
 have c0:=H2.out.rr.c0
 have c1:=H2.out.rr.c1
 go_wp2
 go_quiet (fail)
 have H3:=aa (H2.out.drewN nq)
 have HK3:Hid ((ip=none/\cG=0)\/∃bi,ip=some ⟨bi,0,none⟩/\(w2.drewN nq).cell? ⟨bi,0,none⟩=some (.int .i64 (cG:Nat))/\(cG=4\/cG=5)):=YF.out
 clear H2 YF c0 c1
 generalize w2.drewN nq=w3 at *
 rw [HC0.out]
 clear HC0
 have yW:decide (s.size<=p)=false:=by simp; omega
 rw [yW]
 clear yW
 go_upto_region 2 with fail
 go_cut [7] from 27 (λ x wc=>x=.bool (c == 32 || c == 10)/\wc=w3)
 case first =>
  by_cases h1:c=32
  ·subst h1
   go_wp2
   go_meet
   exact ⟨rfl,rfl⟩
  have e1:((c:Int) == 32)=false:=iQ h1
  have f1:(c == 32)=false:=by simpa using h1
  by_cases h2:c=10
  ·subst h2
   go_wp2
   go_meet
   exact ⟨rfl,rfl⟩
  have e2:((c:Int) == 10)=false:=iQ h2
  have f2:(c == 10)=false:=by simpa using h2
  have HF:=aa (And.intro f1 f2)
  clear f1 f2
  go_wp2
  go_meet
  exact ⟨by rw [HF.out.1,HF.out.2]; rfl,rfl⟩
 case rest =>
 obtain ⟨rfl,hw⟩:=hcut
 have hw:=hw.symm
 subst hw
 have Uk:Hid (xo=((c == 32 || c == 10) || (cG != 0 && (c == 44 || (cG == 4 && c == 93) || (cG == 5 && c == 125))))):=HXO.out.symm
 clear HXO
 generalize (c == 32 || c == 10)=sp at *
 go_upto_if 34 with fail
 go_cut [7] from 33 (λ x wc=>x=.bool xo/\wc=w3)
 case first =>
  rcases HK3.out with ⟨rfl,rfl⟩ | ⟨bi,rfl,hc,hi⟩
  ·go_wp2
   go_meet
   exact ⟨by rw [Uk.out]; simp,rfl⟩
  obtain ⟨b1,h1⟩:∃b1,((c:Int) == 44)=b1:=⟨_,rfl⟩
  obtain ⟨b2,h2⟩:∃b2,((c:Int) == 93)=b2:=⟨_,rfl⟩
  obtain ⟨b3,h3⟩:∃b3,((c:Int) == 125)=b3:=⟨_,rfl⟩
  have g1:(c == 44)=b1:=by rw [<-h1,Bool.eq_iff_iff]; simp; omega
  have g2:(c == 93)=b2:=by rw [<-h2,Bool.eq_iff_iff]; simp; omega
  have g3:(c == 125)=b3:=by rw [<-h3,Bool.eq_iff_iff]; simp; omega
  rw [g1,g2,g3] at Uk
  clear g1 g2 g3 HK3
  rcases hi with rfl | rfl
  all_goals
   cases sp
   ·cases b1
    ·cases b2<;>cases b3
     all_goals
      go_wp2
      go_meet
      exact ⟨by rw [Uk.out]; rfl,rfl⟩
    go_wp2
    go_meet
    exact ⟨by rw [Uk.out]; rfl,rfl⟩
   go_wp2
   go_meet
   exact ⟨by rw [Uk.out]; rfl,rfl⟩
 case rest =>
 obtain ⟨rfl,hw⟩:=hcut
 have hw:=hw.symm
 subst hw
 have c1:=H3.out.rr.c1
 have y7:w3.cell? ⟨bv,7,none⟩=some (.int .i64 d.cl):=H3.out.v.cell 7
 have z7:=H3.out.v.fz 7
 have F:=aa (H3.out.iY (d':={ d with cl:=(p:Int) }) (jG:=sv) hne 7 (.int .i64 (p:Nat)) rfl)
 clear Uk HK3
 cases xo
 ·go_wp2
  go_end0
  exact ⟨rfl,H3.out⟩
 go_wp2
 go_end0
 exact ⟨rfl,F.out⟩
end Go.Proofs.YtcbadebjpogmlaaGreatDoor
