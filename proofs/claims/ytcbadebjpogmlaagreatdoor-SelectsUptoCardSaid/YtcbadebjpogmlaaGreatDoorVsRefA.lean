import Derived.Test.YtcbadebjpogmlaaGreatDoorVsBase
import Derived.Deep.Cut
import Derived.Test.YtcbadebjpogmlaaGreatDoorVsPlain
set_option maxHeartbeats 2000000
set_option maxRecDepth 100000
namespace Go.Proofs.YtcbadebjpogmlaaGreatDoor
open Go.RowKit Tr
def PB (b:Nat):Nat->Prop:=λ k=>k=b
structure Rd (b:Nat) (s:ByteArray) (w:World) (t':St) (w':World):Prop where
 m:aZ w' b s t'
 f:Fr (PB b) w w'
theorem Rd.same {b:Nat} {s:ByteArray} {w:World} {t:St} (h:aZ w b s t):Rd b s w t w:=⟨h,Fr.refl _ _⟩
theorem Rd.drewN {b:Nat} {s:ByteArray} {w w':World} {t:St} (h:Rd b s w t w') (n:Nat):Rd b s w t (w'.drewN n):=⟨h.m,h.f.drewN n⟩
theorem Rd.drew {b:Nat} {s:ByteArray} {w w':World} {t:St} (h:Rd b s w t w'):Rd b s w t w'.drew:=⟨h.m,h.f.drew⟩
theorem Rd.trans {b:Nat} {s:ByteArray} {w w' w'':World} {t t':St} (h:Rd b s w t w') (k:Rd b s w' t' w''):Rd b s w t' w'':=⟨k.m,h.f.trans k.f⟩
theorem Rd.jD {b:Nat} {s:ByteArray} {w w':World} {t:St} (h:Rd b s w t w') (p:Nat):Rd b s w { t with p:=p } (w'.setCell ⟨b,1,none⟩ (.int .i64 p)):=⟨h.m.jD p,h.f.setCell ⟨b,1,none⟩ (Or.inl rfl) _⟩
theorem Rd.FH {b:Nat} {s:ByteArray} {w w':World} {t:St} (h:Rd b s w t w') (p:Nat):Rd b s w { t with e:=p } (w'.setCell ⟨b,2,none⟩ (.int .i64 p)):=⟨h.m.FH p,h.f.setCell ⟨b,2,none⟩ (Or.inl rfl) _⟩
theorem Rd.lZ {b:Nat} {s:ByteArray} {w w':World} {t:St} (h:Rd b s w t w') (p:Nat):Rd b s w { t with n:=p } (w'.setCell ⟨b,3,none⟩ (.int .i64 p)):=⟨h.m.lZ p,h.f.setCell ⟨b,3,none⟩ (Or.inl rfl) _⟩
theorem Rd.alloc {b:Nat} {s:ByteArray} {w w':World} {t:St} (h:Rd b s w t w') (o:Obj):Rd b s w t (w'.alloc o):=⟨h.m.alloc o,h.f.alloc o⟩
theorem Rd.lt {b:Nat} {s:ByteArray} {w w':World} {t:St} (h:Rd b s w t w'):b<w'.heap.size:=h.m.lt
theorem pG {e:Nat} (h:¬e=0):((e:Int) == 0)=false:=cU
theorem pT {w:World} {b:Nat} {s:ByteArray} {t:St} (h:aZ w b s t) (e:Nat) (ei:Int) (hei:ei=e) :
 Calls Tryz.prog 91 #[.pointer (some ⟨b,0,none⟩),.int .i64 ei] w λ r w'=>r=.returned (.tuple #[])/\Rd b s w (wrong t e) w':=by
 subst hei
 obtain ⟨p,e0,n⟩:=t
 have h2:=h.c2
 have hz:=h.fz 2
 by_cases he:e0=0
 ·subst he
  have hf:wrong ⟨p,0,n⟩ e=⟨p,e,n⟩:=by simp [wrong]
  have hr:Rd b s w (wrong ⟨p,0,n⟩ e) (w.setCell ⟨b,2,none⟩ (.int .i64 e)):=by rw [hf]; exact (Rd.same h).FH e
  clear h hf
  simp only [Int.natCast_zero] at h2
  have HR:Hid _:=hr
  clear hr
  go_enter Tryz.func91,Tryz.ntmps91
  go_wp2
  go_end0
  exact ⟨rfl,HR⟩
 have hf:wrong ⟨p,e0,n⟩ e=⟨p,e0,n⟩:=by simp [wrong,he]
 have HR:Hid (Rd b s w (wrong ⟨p,e0,n⟩ e) w):=by unfold Hid; rw [hf]; exact Rd.same h
 have hq:=pG he
 clear h hf
 go_enter Tryz.func91,Tryz.ntmps91
 go_wp2
 go_end0
 exact ⟨rfl,HR⟩
theorem Ar {w:World} {b:Nat} {s:ByteArray} {t:St} (h:aZ w b s t) (c:Nat) (ci:Int) (Jf:ci=c) (hc:c<256) :
 Calls Tryz.prog 92 #[.pointer (some ⟨b,0,none⟩),.int .u8 ci] w λ r w'=>r=.returned (.bool (aj (bs s) t c))/\∃n,w'=w.drewN n:=by
 subst Jf
 obtain ⟨p,e,n⟩:=t
 have h0:=h.c0
 have h1:=h.c1
 have h2:=h.c2
 clear h
 simp only at h1 h2
 by_cases he:e=0
 ·subst he
  by_cases hp:p<s.size
  ·have hf:aj (bs s) ⟨p,0,n⟩ c=((s[p].toNat:Int) == (c:Int)):=by
    simp only [aj,dR hp]
    rw [Bool.eq_iff_iff]; simp; omega
   rw [hf]
   have hd:decide ((p:Int)<(s.size:Int))=true:=by simp; omega
   clear hf
   go_enter Tryz.func92,Tryz.ntmps92
   go_wp2
   go_quiet (fail)
   go_wp2
   go_ret
   exact ⟨rfl,_,rfl⟩
  have hf:aj (bs s) ⟨p,0,n⟩ c=false:=by
   simp only [aj,gK hp]; simp; omega
  rw [hf]
  have hd:decide ((p:Int)<(s.size:Int))=false:=by simp; omega
  clear hf
  go_enter Tryz.func92,Tryz.ntmps92
  go_wp2
  go_quiet (fail)
  go_wp2
  go_ret
  exact ⟨rfl,_,rfl⟩
 have hf:aj (bs s) ⟨p,e,n⟩ c=false:=by simp [aj,he]
 rw [hf]
 have hq:=pG he
 clear hf
 go_enter Tryz.func92,Tryz.ntmps92
 go_wp2
 go_quiet (fail)
 go_wp2
 go_ret
 exact ⟨rfl,_,rfl⟩
theorem jO {w:World} {b:Nat} {s:ByteArray} {t:St} (h:aZ w b s t) (c:Nat) (ci:Int) (Jf:ci=c) (hc:c<256) (hs:s.size<=120) :
 Calls Tryz.prog 90 #[.pointer (some ⟨b,0,none⟩),.int .u8 ci] w λ r w'=>r=.returned (.bool (aj (bs s) t c))/\Rd b s w (has (bs s) t c) w':=by
 subst Jf
 have h1:=h.c1
 have hz:=h.fz 1
 have HH:Hid (aZ w b s t):=h
 clear h
 by_cases hb:aj (bs s) t c=true
 ·have hlt:t.p<s.size:=by
   simp [aj] at hb
   have:=cD (s:=bs s) (p:=t.p) (by omega)
   rw [an] at this; exact this
  have HF:Hid (has (bs s) t c=aG t):=by unfold Hid; simp [has,hb]
  have HB:Hid (aj (bs s) t c=true):=hb
  clear hb
  go_enter Tryz.func90,Tryz.ntmps90
  go_wp2_with fail
  refine (Ar HH.out c _ rfl hc).mono ?_
  rintro r w1 ⟨rfl,nn,rfl⟩
  rw [HB.out]
  go_wp2
  go_ret
  refine ⟨by rw [HB.out]; rfl,?_⟩
  rw [HF.out]
  exact ((Rd.same HH.out).drewN nn).jD (t.p+1)
 have hb':aj (bs s) t c=false:=by simpa using hb
 have HF:Hid (has (bs s) t c=t):=by unfold Hid; simp [has,hb']
 have HB:Hid (aj (bs s) t c=false):=hb'
 clear hb hb'
 go_enter Tryz.func90,Tryz.ntmps90
 go_wp2_with fail
 refine (Ar HH.out c _ rfl hc).mono ?_
 rintro r w1 ⟨rfl,nn,rfl⟩
 rw [HB.out]
 go_wp2
 go_ret
 refine ⟨by rw [HB.out]; rfl,?_⟩
 rw [HF.out]
 exact (Rd.same HH.out).drewN nn
def nb (s:ByteArray):List Nat:=(bs s).map UInt8.toNat
theorem zM (s:ByteArray):(nb s).length=s.size:=by simp [nb,an]
theorem Cl (s:ByteArray) (k:Nat) (h:k<s.size):(nb s).take (k+1)=(nb s).take k++[s[k].toNat]:=by
 rw [List.take_succ_eq_append_getElem (by rw [zM]; exact h)]
 simp [nb,bs,ByteArray.getElem_eq_getElem_data]
theorem tU (s:List UInt8) (t:St) (l:List Nat) (c:Nat):aN s t (l++[c])=aH s (aN s t l) c:=by simp [aN]
theorem qY (s:List UInt8) (t:St) (l:List Nat) (h:¬t.e=0):aN s t l=t:=by
 induction l with
 | nil=>rfl
 | cons a r ih =>
  have:aH s t a=t:=by simp [aH,aj,wrong,h]
  simp only [aN,List.foldl_cons,this]; exact ih
theorem As (s:List UInt8) (t:St) (l r:List Nat):aN s t (l++r)=aN s (aN s t l) r:=by simp [aN]
theorem DU (sa:ByteArray) (s:List UInt8) (t:St) (k:Nat) (h:k<sa.size) (hb:aj s (aN s t ((nb sa).take k)) sa[k].toNat=false) :
 aN s t (nb sa)=wrong (aN s t ((nb sa).take k)) 2:=by
 have e:nb sa=(nb sa).take (k+1)++(nb sa).drop (k+1):=(List.take_append_drop _ _).symm
 have e0:aN s t (nb sa)=aN s t ((nb sa).take (k+1)++(nb sa).drop (k+1)):=by rw [<-e]
 rw [e0,As,Cl sa k h,tU]
 have e1:aH s (aN s t ((nb sa).take k)) sa[k].toNat=wrong (aN s t ((nb sa).take k)) 2:=by simp [aH,hb]
 rw [e1]
 exact qY s (wrong (aN s t ((nb sa).take k)) 2) _ (by unfold wrong; split; simp; assumption)
theorem dS {w:World} {b:Nat} {s:ByteArray} {t:St} (h:aZ w b s t) (sa:ByteArray) (ha:sa.size<=120) (hs:s.size<=120) :
 Calls Tryz.prog 64 #[.pointer (some ⟨b,0,none⟩),.string sa] w λ r w'=>r=.returned (.tuple #[])/\Rd b s w (aN (bs s) t (nb sa)) w':=by
 have HH:Hid (aZ w b s t):=h
 clear h
 go_enter Tryz.func64,Tryz.ntmps64
 go_wp2
 go_loopw [4] (λ i wr=>∃k:Nat,k<=sa.size/\i=.int .i64 k/\Rd b s w (aN (bs s) t ((nb sa).take k)) wr) (λ i _=>sa.size - (intOf i).toNat)
 case atStart=>exact ⟨0,Nat.zero_le _,rfl,Rd.same HH.out⟩
 case round =>
  obtain ⟨k,hk,rfl,hr⟩:=hrel
  have HR:Hid _:=hr
  clear hr
  by_cases hlt:k<sa.size
  ·by_cases hb:aj (bs s) (aN (bs s) t ((nb sa).take k)) sa[k].toNat=true
   ·have HB:Hid _:=hb
    clear hb
    go_wp2_with fail
    refine (jO HR.out.m sa[k].toNat _ rfl (UInt8.toNat_lt _) hs).mono ?_
    rintro r w1 ⟨rfl,yY⟩
    rw [HB.out]
    have Ua:Hid _:=yY
    clear yY
    go_wp2
    go_roundw
    case rel =>
     refine ⟨k+1,by omega,by go_num,?_⟩
     rw [Cl sa k hlt,tU]
     have:=HR.out.trans Ua.out
     have e:has (bs s) (aN (bs s) t ((nb sa).take k)) sa[k].toNat=aH (bs s) (aN (bs s) t ((nb sa).take k)) sa[k].toNat:=by simp [has,aH,HB.out]
     rw [e] at this
     exact this
    case measure=>simp [intOf]; omega
   have hb':aj (bs s) (aN (bs s) t ((nb sa).take k)) sa[k].toNat=false:=by simpa using hb
   have HB:Hid _:=hb'
   clear hb hb'
   go_wp2_with fail
   refine (jO HR.out.m sa[k].toNat _ rfl (UInt8.toNat_lt _) hs).mono ?_
   rintro r w1 ⟨rfl,yY⟩
   rw [HB.out]
   have Ua:Hid _:=yY
   clear yY
   go_wp2_with fail
   refine (pT Ua.out.m 2 _ rfl).mono ?_
   rintro r w2 ⟨rfl,hr2⟩
   have HR2:Hid _:=hr2
   clear hr2
   go_wp2
   (try simp only [Exit.inBlock,Exit.then]); refine bodyPost_ret (results_none rfl _ _ _) rfl ?_
   refine ⟨rfl,?_⟩
   have:=(HR.out.trans Ua.out).trans HR2.out
   have e:has (bs s) (aN (bs s) t ((nb sa).take k)) sa[k].toNat=aN (bs s) t ((nb sa).take k):=by simp [has,HB.out]
   rw [e] at this
   rw [DU sa (bs s) t k hlt HB.out]
   exact this
  go_wp2
  go_end0
  refine ⟨rfl,?_⟩
  have:=HR.out
  rw [List.take_of_length_le (by rw [zM]; omega)] at this
  exact this
theorem qZ {w:World} {b:Nat} {s:ByteArray} {t:St} (h:aZ w b s t) :
 Calls Tryz.prog 117 #[.pointer (some ⟨b,0,none⟩)] w λ r w'=>r=.returned (.bool (letter (bs s) t))/\∃n,w'=w.drewN n:=by
 obtain ⟨p,e,n⟩:=t
 have h0:=h.c0
 have h1:=h.c1
 have h2:=h.c2
 clear h
 simp only at h1 h2
 by_cases he:e=0
 ·subst he
  by_cases hp:p<s.size
  ·have hd:decide ((p:Int)<(s.size:Int))=true:=by simp; omega
   by_cases h3:97<=(s[p].toNat:Int)
   ·have d3:decide (97<=(s[p].toNat:Int))=true:=by simpa using h3
    by_cases h4:(s[p].toNat:Int)<=122
    ·have d4:decide ((s[p].toNat:Int)<=122)=true:=by simpa using h4
     have hf:letter (bs s) ⟨p,0,n⟩=true:=by simp [letter,dR hp,isLet]; omega
     rw [hf]
     clear hf
     go_enter Tryz.func117,Tryz.ntmps117
     go_wp2
     go_quiet (fail)
     go_wp2
     go_ret
     exact ⟨rfl,_,rfl⟩
    have d4:decide ((s[p].toNat:Int)<=122)=false:=by simpa using h4
    have hf:letter (bs s) ⟨p,0,n⟩=false:=by simp [letter,dR hp,isLet]; omega
    rw [hf]
    clear hf
    go_enter Tryz.func117,Tryz.ntmps117
    go_wp2
    go_quiet (fail)
    go_wp2
    go_ret
    exact ⟨rfl,_,rfl⟩
   have d3:decide (97<=(s[p].toNat:Int))=false:=by simpa using h3
   have hf:letter (bs s) ⟨p,0,n⟩=false:=by simp [letter,dR hp,isLet]; omega
   rw [hf]
   clear hf
   go_enter Tryz.func117,Tryz.ntmps117
   go_wp2
   go_quiet (fail)
   go_wp2
   go_ret
   exact ⟨rfl,_,rfl⟩
  have hf:letter (bs s) ⟨p,0,n⟩=false:=by
   simp [letter,gK hp,isLet]
  rw [hf]
  have hd:decide ((p:Int)<(s.size:Int))=false:=by simp; omega
  clear hf
  go_enter Tryz.func117,Tryz.ntmps117
  go_wp2
  go_quiet (fail)
  go_wp2
  go_ret
  exact ⟨rfl,_,rfl⟩
 have hf:letter (bs s) ⟨p,e,n⟩=false:=by simp [letter,he]
 rw [hf]
 have hq:=pG he
 clear hf
 go_enter Tryz.func117,Tryz.ntmps117
 go_wp2
 go_quiet (fail)
 go_wp2
 go_ret
 exact ⟨rfl,_,rfl⟩
theorem MI {w:World} {b:Nat} {s:ByteArray} {t:St} (h:aZ w b s t) :
 Calls Tryz.prog 121 #[.pointer (some ⟨b,0,none⟩)] w λ r w'=>r=.returned (.bool (digit (bs s) t))/\∃n,w'=w.drewN n:=by
 obtain ⟨p,e,n⟩:=t
 have h0:=h.c0
 have h1:=h.c1
 have h2:=h.c2
 clear h
 simp only at h1 h2
 by_cases he:e=0
 ·subst he
  by_cases hp:p<s.size
  ·have hd:decide ((p:Int)<(s.size:Int))=true:=by simp; omega
   by_cases h3:48<=(s[p].toNat:Int)
   ·have d3:decide (48<=(s[p].toNat:Int))=true:=by simpa using h3
    by_cases h4:(s[p].toNat:Int)<=57
    ·have d4:decide ((s[p].toNat:Int)<=57)=true:=by simpa using h4
     have hf:digit (bs s) ⟨p,0,n⟩=true:=by simp [digit,dR hp,af]; omega
     rw [hf]
     clear hf
     go_enter Tryz.func121,Tryz.ntmps121
     go_wp2
     go_quiet (fail)
     go_wp2
     go_ret
     exact ⟨rfl,_,rfl⟩
    have d4:decide ((s[p].toNat:Int)<=57)=false:=by simpa using h4
    have hf:digit (bs s) ⟨p,0,n⟩=false:=by simp [digit,dR hp,af]; omega
    rw [hf]
    clear hf
    go_enter Tryz.func121,Tryz.ntmps121
    go_wp2
    go_quiet (fail)
    go_wp2
    go_ret
    exact ⟨rfl,_,rfl⟩
   have d3:decide (48<=(s[p].toNat:Int))=false:=by simpa using h3
   have hf:digit (bs s) ⟨p,0,n⟩=false:=by simp [digit,dR hp,af]; omega
   rw [hf]
   clear hf
   go_enter Tryz.func121,Tryz.ntmps121
   go_wp2
   go_quiet (fail)
   go_wp2
   go_ret
   exact ⟨rfl,_,rfl⟩
  have hf:digit (bs s) ⟨p,0,n⟩=false:=by
   simp [digit,gK hp,af]
  rw [hf]
  have hd:decide ((p:Int)<(s.size:Int))=false:=by simp; omega
  clear hf
  go_enter Tryz.func121,Tryz.ntmps121
  go_wp2
  go_quiet (fail)
  go_wp2
  go_ret
  exact ⟨rfl,_,rfl⟩
 have hf:digit (bs s) ⟨p,e,n⟩=false:=by simp [digit,he]
 rw [hf]
 have hq:=pG he
 clear hf
 go_enter Tryz.func121,Tryz.ntmps121
 go_wp2
 go_quiet (fail)
 go_wp2
 go_ret
 exact ⟨rfl,_,rfl⟩
theorem dU {w:World} {b:Nat} {s:ByteArray} {t:St} (h:aZ w b s t) (c:Nat) (ci:Int) (Jf:ci=c) (hc:c<256) :
 Calls Tryz.prog 92 #[.pointer (some ⟨b,0,none⟩),.int .u8 ci] w λ r w'=>r=.returned (.bool (aj (bs s) t c))/\Rd b s w t w' :=
 (Ar h c ci Jf hc).mono λ_ _ ⟨h1,_,h2⟩=>⟨h1,by subst h2; exact (Rd.same h).drewN _⟩
theorem yg {w:World} {b:Nat} {s:ByteArray} {t:St} (h:aZ w b s t) :
 Calls Tryz.prog 117 #[.pointer (some ⟨b,0,none⟩)] w λ r w'=>r=.returned (.bool (letter (bs s) t))/\Rd b s w t w' :=
 (qZ h).mono λ_ _ ⟨h1,_,h2⟩=>⟨h1,by subst h2; exact (Rd.same h).drewN _⟩
theorem jm {w:World} {b:Nat} {s:ByteArray} {t:St} (h:aZ w b s t) :
 Calls Tryz.prog 121 #[.pointer (some ⟨b,0,none⟩)] w λ r w'=>r=.returned (.bool (digit (bs s) t))/\Rd b s w t w' :=
 (MI h).mono λ_ _ ⟨h1,_,h2⟩=>⟨h1,by subst h2; exact (Rd.same h).drewN _⟩
theorem aa {p:Prop} (h:p):Hid p:=h
def mP (b:Nat) (w:World):Nat:=(intOf ((w.cell? ⟨b,1,none⟩).getD (.int .i64 0))).toNat
theorem aZ.mP {w:World} {b:Nat} {s:ByteArray} {t:St} (h:aZ w b s t):mP b w=t.p:=by
 unfold Go.Proofs.YtcbadebjpogmlaaGreatDoor.mP; rw [h.c1]; simp [intOf]
theorem tW {ok:Nat->Bool} {s:List UInt8} {p k:Nat} (h:run ok s k p=p+k) (hb:ok (bt s (p+k))=false):∀K,k<=K->run ok s K p=p+k:=by
 intro K hK
 induction K with
 | zero =>
  have:k=0:=by omega
  subst this; rfl
 | succ K ih =>
  by_cases e:k=K+1
  ·subst e; exact h
  have i:=ih (by omega)
  rw [iL,if_neg]
  ·exact i
  rintro ⟨h1,h2⟩
  have:k=K:=by omega
  subst this
  rw [hb] at h2; cases h2
theorem q_ {ok:Nat->Bool} {s:List UInt8} {p k:Nat} (h:run ok s k p=p+k) (hb:ok (bt s (p+k))=true):run ok s (k+1) p=p+(k+1):=by
 rw [iL,if_pos ⟨h,hb⟩]; rfl
theorem ri {s:List UInt8} {t:St} {k:Nat} (hk:t.e=0\/k=0) (h8:k<=8) (h:run isLet s k t.p=t.p+k) (hb:k=8\/letter s { t with p:=t.p+k }=false) :
 bC s t=if k=0 then wrong t 2 else { t with p:=t.p+k }:=by
 by_cases he:t.e=0
 ·have hr:run isLet s 8 t.p=t.p+k:=by
   rcases hb with rfl | hb
   ·exact h
   exact tW h (by simpa [letter,he] using hb) 8 h8
  unfold bC
  rw [if_pos he,hr]
  by_cases Bl:k=0
  ·subst Bl; simp [wrong,he]
  rw [if_neg (by omega),if_neg Bl]
 have Bl:k=0:=by rcases hk with x | x; exact absurd x he; exact x
 subst Bl
 unfold bC wrong
 simp [he]
theorem Jg {w:World} {b:Nat} {s:ByteArray} {t:St} (h:aZ w b s t) (hs:s.size<=120) (hp:t.p<=s.size) :
 Calls Tryz.prog 93 #[.pointer (some ⟨b,0,none⟩)] w λ r w'=>r=.returned (.string (s.extract t.p (bC (bs s) t).p))/\Rd b s w (bC (bs s) t) w':=by
 have h1:=h.c1
 have HH:=aa h
 clear h
 go_enter Tryz.func93,Tryz.ntmps93
 go_wp2
 go_loopw [4] (λ_ wr=>∃k:Nat,k<=8/\(t.e=0\/k=0)/\run isLet (bs s) k t.p=t.p+k/\Rd b s w { t with p:=t.p+k } wr) (λ_ wr=>t.p+8 - mP b wr)
 case atStart=>exact ⟨0,by omega,Or.inr rfl,rfl,Rd.same HH.out⟩
 case round =>
  obtain ⟨k,hk,WL,hrun,hr⟩:=hrel
  have HR:=aa hr
  have q1:=hr.m.c1
  have q0:=hr.m.c0
  have qz:=hr.m.fz 1
  have hle:t.p+k<=s.size:=by
   have:=mU (ok:=isLet) (s:=bs s) (λ b h=>iK h) k t.p (by rw [an]; exact hp)
   rw [an] at this; omega
  have HE:=aa WL
  have HU:=aa hrun
  clear hr WL hrun h1
  simp only at q1
  by_cases hlt:k<8
  ·by_cases hb:letter (bs s) { t with p:=t.p+k }=true
   ·have HB:=aa hb
    clear hb
    go_wp2_with fail
    refine (qZ HR.out.m).mono ?_
    rintro r w1 ⟨rfl,nn,rfl⟩
    rw [HB.out]
    go_wp2
    go_roundw
    case rel =>
     have hb:=HB.out
     simp only [letter,Bool.and_eq_true,beq_iff_eq] at hb
     exact ⟨k+1,by omega,Or.inl hb.1,q_ HU.out hb.2,(HR.out.drewN nn).jD (t.p+k+1)⟩
    case measure =>
     have e1:=HR.out.m.mP
     have e2:=((HR.out.drewN nn).jD (t.p+k+1)).m.mP
     simp only at e1 e2
     rw [e1]
     have:mP b ((wr.drewN nn).setCell ⟨b,1,none⟩ (.int .i64 (t.p+k+1:Nat)))=t.p+k+1:=e2
     simp at this ⊢
     omega
   have hb':letter (bs s) { t with p:=t.p+k }=false:=by simpa using hb
   have HW:=aa (ri (s:=bs s) HE.out hk HU.out (Or.inr hb'))
   have HB:=aa hb'
   clear hb hb'
   go_wp2_with fail
   refine (qZ HR.out.m).mono ?_
   rintro r w1 ⟨rfl,nn,rfl⟩
   rw [HB.out]
   by_cases Bl:k=0
   ·subst Bl
    go_wp2_with fail
    refine (pT (HR.out.m.drewN nn) 2 _ rfl).mono ?_
    rintro r w2 ⟨rfl,hr2⟩
    have HR2:=aa ((HR.out.drewN nn).trans hr2)
    have q3:=hr2.m.c1
    have q4:=hr2.m.c0
    have e3:(wrong { t with p:=t.p+0 } 2).p=t.p:=by unfold wrong; split<;>rfl
    simp only [e3] at q3
    clear hr2 q0 q1 qz e3
    go_wp2
    go_quiet (fail)
    go_wp2
    go_ret
    have hw:=HW.out
    simp only [if_true] at hw
    rw [hw]
    have e4:(wrong t 2).p=t.p:=by unfold wrong; split<;>rfl
    rw [e4]
    exact ⟨by simp,HR2.out.drewN _⟩
   have hkz:(((t.p:Int)+k) == t.p)=false:=cU
   go_wp2
   go_quiet (fail)
   go_wp2
   go_ret
   have hw:=HW.out
   rw [if_neg Bl] at hw
   rw [hw]
   exact ⟨rfl,(HR.out.drewN nn).drewN _⟩
  have h8:k=8:=by omega
  subst h8
  have HW:=aa (ri (s:=bs s) HE.out hk HU.out (Or.inl rfl))
  go_wp2
  go_quiet (fail)
  go_wp2
  go_ret
  have hw:=HW.out
  rw [if_neg (by omega)] at hw
  rw [hw]
  exact ⟨rfl,HR.out.drewN _⟩
theorem vh (s:List UInt8) (t:St):aN s t (nb ⟨#[39]⟩)=aH s t 39:=rfl
theorem Jh {s:List UInt8} {t:St} {c:Nat} (hc:c<256) (h:t.p<=s.length):(aH s t c).p<=s.length:=by
 unfold aH; split
 ·rename_i hb
  simp [aj] at hb
  have:=cD (s:=s) (p:=t.p) (by omega)
  simp [aG]; omega
 unfold wrong; split<;>exact h
theorem Ji {s:List UInt8} {t:St} (h:t.e=0):aO (bt s t.p)=(letter s t || digit s t || aj s t 32):=by
 simp [aO,letter,digit,aj,h]
theorem DV {s:List UInt8} {t:St} (h1:letter s t=false) (h2:digit s t=false) (h3:aj s t 32=false):¬t.e=0\/aO (bt s t.p)=false:=by
 by_cases h:t.e=0
 ·right; rw [Ji h,h1,h2,h3]; rfl
 left; exact h
theorem lG {ok:Nat->Bool} {s:List UInt8} {t:St} {k K:Nat} (hK:k<=K) (hk:t.e=0\/k=0) (h:run ok s k t.p=t.p+k) (hb:k=K\/¬t.e=0\/ok (bt s (t.p+k))=false) :
 dH ok s K t={ t with p:=t.p+k }:=by
 unfold dH
 by_cases he:t.e=0
 ·rw [if_pos he]
  rcases hb with rfl | hb | hb
  ·rw [h]
  ·exact absurd he hb
  rw [tW h hb K hK]
 rw [if_neg he]
 have Bl:k=0:=by rcases hk with x | x; exact absurd x he; exact x
 subst Bl; rfl
theorem Cm {w:World} {b:Nat} {s:ByteArray} {t:St} (h:aZ w b s t) (hs:s.size<=120) (hp:t.p<=s.size) :
 Calls Tryz.prog 118 #[.pointer (some ⟨b,0,none⟩)] w λ r w'=>r=.returned (.string (s.extract (aH (bs s) t 39).p (dH aO (bs s) 8 (aH (bs s) t 39)).p))/\Rd b s w (eU (bs s) t) w':=by
 have HH:=aa h
 clear h
 have hp1:(aH (bs s) t 39).p<=s.size:=by
  have:=Jh (s:=bs s) (t:=t) (c:=39) (by omega) (by rw [an]; exact hp)
  rw [an] at this; exact this
 have hq:eU (bs s) t=aH (bs s) (dH aO (bs s) 8 (aH (bs s) t 39)) 39:=rfl
 rw [hq]
 clear hq
 generalize hu:aH (bs s) t 39=u at *
 have HX:=aa hu
 clear hu
 go_enter Tryz.func118,Tryz.ntmps118
 go_wp2_with fail
 refine (dS HH.out ⟨#[39]⟩ (by decide) hs).mono ?_
 rintro r w1 ⟨rfl,yY⟩
 rw [vh,HX.out] at yY
 have Ua:=aa yY
 have u1:=yY.m.c1
 clear yY
 go_wp2
 go_loopw [4,5,6] (λ_ _ _ wr=>∃k:Nat,k<=8/\(u.e=0\/k=0)/\run aO (bs s) k u.p=u.p+k/\Rd b s w { u with p:=u.p+k } wr) (λ_ _ _ wr=>u.p+8 - mP b wr)
 case atStart=>exact ⟨0,by omega,Or.inr rfl,rfl,Ua.out⟩
 case round =>
  obtain ⟨k,hk,WL,hrun,hr⟩:=hrel
  have HR:=aa hr
  have q1:=hr.m.c1
  have q0:=hr.m.c0
  have qz:=hr.m.fz 1
  have hle:u.p+k<=s.size:=by
   have:=mU (ok:=aO) (s:=bs s) (λ b h=>xP h) k u.p (by rw [an]; exact hp1)
   rw [an] at this; omega
  have HE:=aa WL
  have HU:=aa hrun
  clear hr WL hrun u1
  simp only at q1
  by_cases hlt:k<8
  ·cases ha:letter (bs s) { u with p:=u.p+k }<;>cases hb:digit (bs s) { u with p:=u.p+k }<;>cases hc:aj (bs s) { u with p:=u.p+k } 32
   case false.false.false =>
    have HA:=aa ha
    have HB:=aa hb
    have HC:=aa hc
    have HF:=aa (DV ha hb hc)
    have HS:=aa (lG (ok:=aO) (s:=bs s) hk HE.out HU.out (Or.inr HF.out))
    clear ha hb hc q0 qz
    go_wp2_with fail
    refine (yg HR.out.m).mono ?_
    clear q1
    rintro r v1 ⟨rfl,g1⟩
    rw [HA.out]
    have G1:=aa (HR.out.trans g1)
    clear g1
    go_wp2_with fail
    refine (jm G1.out.m).mono ?_
    rintro r v2 ⟨rfl,g2⟩
    rw [HB.out]
    have G2:=aa (G1.out.trans g2)
    clear g2
    go_wp2_with fail
    refine (dU G2.out.m 32 32 rfl (by omega)).mono ?_
    rintro r v3 ⟨rfl,g3⟩
    rw [HC.out]
    have G3:=aa (G2.out.trans g3)
    have q1:=G3.out.m.c1
    have q0:=G3.out.m.c0
    simp only at q1
    clear g3
    go_wp2
    go_quiet (fail)
    go_wp2_with fail
    refine (dS (G3.out.m.drewN _) ⟨#[39]⟩ (by decide) hs).mono ?_
    rintro r v4 ⟨rfl,g4⟩
    have G4:=aa ((G3.out.drewN _).trans g4)
    rw [vh] at G4
    clear g4
    go_wp2
    go_ret
    rw [HS.out]
    exact ⟨rfl,G4.out⟩
   all_goals
    have HQ:Hid (u.e=0/\aO (bt (bs s) (u.p+k))=true):=by
     have he:u.e=0:=by
      simp only [letter,digit,aj,Bool.and_eq_true,beq_iff_eq] at ha hb hc
      first | exact ha.1 | exact hb.1 | exact hc.1
     refine ⟨he,?_⟩
     have:=Ji (s:=bs s) (t:={ u with p:=u.p+k }) he
     simp only at this
     rw [this,ha,hb,hc]; rfl
    have HA:=aa ha
    have HB:=aa hb
    have HC:=aa hc
    clear ha hb hc q0 qz
    go_wp2_with fail
    refine (yg HR.out.m).mono ?_
    clear q1
    rintro r v1 ⟨rfl,g1⟩
    rw [HA.out]
    have G1:=aa (HR.out.trans g1)
    clear g1
    go_wp2_with fail
    refine (jm G1.out.m).mono ?_
    rintro r v2 ⟨rfl,g2⟩
    rw [HB.out]
    have G2:=aa (G1.out.trans g2)
    clear g2
    go_wp2_with fail
    refine (dU G2.out.m 32 32 rfl (by omega)).mono ?_
    rintro r v3 ⟨rfl,g3⟩
    rw [HC.out]
    have G3:=aa (G2.out.trans g3)
    have q1:=G3.out.m.c1
    have q0:=G3.out.m.c0
    have qz:=G3.out.m.fz 1
    simp only at q1
    clear g3
    go_wp2
    go_roundw
    case rel=>exact ⟨k+1,by omega,Or.inl HQ.out.1,q_ HU.out HQ.out.2,G3.out.jD (u.p+k+1)⟩
    case measure =>
     have e1:=HR.out.m.mP
     have e2:=(G3.out.jD (u.p+k+1)).m.mP
     simp only at e1 e2
     rw [e1]
     have:mP b (v3.setCell ⟨b,1,none⟩ (.int .i64 (u.p+k+1:Nat)))=u.p+k+1:=e2
     simp at this ⊢
     omega
  have h8:k=8:=by omega
  subst h8
  have HS:=aa (lG (ok:=aO) (s:=bs s) hk HE.out HU.out (Or.inl rfl))
  go_wp2
  go_quiet (fail)
  go_wp2_with fail
  refine (dS (HR.out.m.drewN _) ⟨#[39]⟩ (by decide) hs).mono ?_
  rintro r v4 ⟨rfl,g4⟩
  have G4:=aa ((HR.out.drewN _).trans g4)
  rw [vh] at G4
  clear g4
  go_wp2
  go_ret
  rw [HS.out]
  exact ⟨rfl,G4.out⟩
def dv (s:List UInt8) (p:Nat):Nat->Nat
 | 0=>0
 | k+1=>10 * dv s p k+(bt s (p+k) - 48)
theorem Co {s:List UInt8} {p:Nat}:∀k,run af s k p=p+k->dv s p k+1<=10 ^ k
 | 0,_=>by simp [dv]
 | k+1,h=>by
  have h1:run af s k p=p+k:=by
   rw [iL] at h
   split at h
   ·rename_i h2; exact h2.1
   have:=gL af s k p; omega
  have h2:af (bt s (p+k))=true:=fN af s (k+1) p (p+k) (by omega) (by omega)
  have:=Co k h1
  simp [af] at h2
  have e:10 ^ (k+1)=10 * 10 ^ k:=by rw [Nat.pow_succ]; omega
  rw [e]
  simp only [dv]
  omega
def mW (s:List UInt8) (u T:St) (mi:Bool):Int :=
 if u.e=0 then (if mi=true then -(dv s T.p (u.p - T.p):Int) else (dv s T.p (u.p - T.p):Int)) else 0
theorem MJ {t:St}:¬(wrong t 2).e=0:=by unfold wrong; split; simp; assumption
theorem vi {t:St} {e:Nat}:(wrong t e).p=t.p:=by unfold wrong; split<;>rfl
theorem Jj {w:World} {b:Nat} {s:ByteArray} {t u:St} {m ng:Bool} (h:aZ w b s t) (hs:s.size<=120) (hpT:u.p<=s.size) (hu:(m=false/\u=t/\ng=false)\/(m=true/\has (bs s) t 45=u/\aj (bs s) t 45=ng)) :
 Calls Tryz.prog 120 #[.pointer (some ⟨b,0,none⟩),.bool m] w λ r w'=>r=.returned (.int .i64 (mW (bs s) (aX (bs s) u ng) u ng))/\Rd b s w (aX (bs s) u ng) w':=by
 have YR:=aa (Rd.same h)
 have HU0:=aa hu
 clear h hu
 go_enter Tryz.func120,Tryz.ntmps120
 go_upto_if 10 with fail
 go_cut [5] from 11 (λ x wc=>x=.bool ng/\Rd b s w u wc)
 case first =>
  rcases HU0.out with ⟨rfl,rfl,rfl⟩ | ⟨rfl,h1,h2⟩
  ·go_wp2
   go_meet
   exact ⟨rfl,YR.out⟩
  have H1:=aa h1
  have H2:=aa h2
  clear h1 h2 HU0
  go_wp2_with fail
  refine (jO YR.out.m 45 45 rfl (by omega) hs).mono ?_
  rintro r v0 ⟨rfl,g0⟩
  rw [H2.out]
  rw [H1.out] at g0
  have HR:=aa (YR.out.trans g0)
  clear g0
  go_wp2
  go_meet
  exact ⟨rfl,HR.out⟩
 case rest =>
 obtain ⟨rfl,hr⟩:=hcut
 have HR:=aa hr
 clear hr YR HU0
 go_wp2_with fail
 refine (jm HR.out.m).mono ?_
 rintro r v1 ⟨rfl,g1⟩
 have G1:=aa (HR.out.trans g1)
 clear g1
 obtain ⟨d,hd⟩:∃d,digit (bs s) u=d:=⟨_,rfl⟩
 obtain ⟨z,hz⟩:∃z,aj (bs s) u 48=z:=⟨_,rfl⟩
 rw [hd]
 have HD:=aa hd
 have HZ:=aa hz
 clear hd hz
 go_wp2_with fail
 refine (dU G1.out.m 48 48 rfl (by omega)).mono ?_
 rintro r v2 ⟨rfl,g2⟩
 rw [HZ.out]
 have G2:=aa (G1.out.trans g2)
 clear g2
 go_upto_region 6 with fail
 go_cut [24] from 17 (λ x wc=>x=.bool (!d || (ng && z))/\wc=v2)
 case first =>
  cases d<;>cases z<;>cases ng<;>(go_wp2; go_meet; exact ⟨rfl,rfl⟩)
 case rest =>
 obtain ⟨rfl,hw⟩:=hcut
 have hw:=hw.symm
 subst hw
 obtain ⟨B,hB⟩:∃B,(!d || (ng && z))=B:=⟨_,rfl⟩
 rw [hB]
 cases B
 ·have hd:d=true:=by cases d<;>simp at hB ⊢
  subst hd
  have oo:af (bt (bs s) u.p)=true/\u.e=0:=by have hd:=HD.out; simp [digit] at hd; exact ⟨hd.2,hd.1⟩
  have HT:=aa oo
  clear oo
  cases z
  ·have HQ:Hid (aX (bs s) u ng=dH af (bs s) 3 u):=by unfold Hid aX; rw [if_neg (by simp [HD.out,HZ.out]),if_neg (by simp [HZ.out])]
   clear hB
   go_wp2
   go_loopw [6,8,9] (λ_ n k wr=>∃j:Nat,j<=3/\k=.int .i64 j/\n=.int .i64 (dv (bs s) u.p j:Nat)/\run af (bs s) j u.p=u.p+j/\Rd b s w { u with p:=u.p+j } wr) (λ_ _ k _=>3 - (intOf k).toNat)
   case atStart=>exact ⟨0,by omega,rfl,rfl,rfl,G2.out⟩
   case round =>
    obtain ⟨j,hj,rfl,rfl,hrun,hr⟩:=hrel
    have HJ:=aa hr
    have hle:u.p+j<=s.size:=by
     have:=mU (ok:=af) (s:=bs s) (λ b h=>eo h) j u.p (by rw [an]; exact hpT)
     rw [an] at this; omega
    have HU:=aa hrun
    clear hr hrun
    by_cases hlt:j<3
    ·cases hb:digit (bs s) { u with p:=u.p+j }
     ·have HB:=aa hb
      have HS:=aa (lG (ok:=af) (s:=bs s) (K:=3) hj (Or.inl HT.out.2) HU.out (Or.inr (by
       right; simpa [digit,HT.out.2] using hb)))
      clear hb
      have HV:Hid (mW (bs s) { u with p:=u.p+j } u ng=if ng=true then -(dv (bs s) u.p j:Int) else (dv (bs s) u.p j:Int)):=by
       unfold Hid mW; rw [if_pos (by exact HT.out.2)]; simp
      have hbd:(dv (bs s) u.p j:Int)<1000:=by
       have h3:=Co j HU.out
       have:10 ^ j<=10 ^ 3:=Nat.pow_le_pow_right (by omega) (by omega)
       omega
      generalize dv (bs s) u.p j=dj at *
      go_wp2_with fail
      refine (jm HJ.out.m).mono ?_
      rintro r v3 ⟨rfl,g3⟩
      rw [HB.out]
      have G3:=aa (HJ.out.trans g3)
      clear g3
      cases ng
      all_goals
       go_wp2
       go_ret
       rw [HQ.out,HS.out]
       refine ⟨?_,G3.out⟩
       rw [HV.out]
       rfl
     have HB:=aa hb
     have eK:af (bt (bs s) (u.p+j))=true:=by simp [digit] at hb; exact hb.2
     have hin:u.p+j<s.size:=by
      have:=cD (eo eK); rw [an] at this; exact this
     have si:bt (bs s) (u.p+j)=s[u.p+j].toNat:=dR hin
     have hlo:48<=(s[u.p+j].toNat:Int):=by simp [af,si] at eK; omega
     have hhi:(s[u.p+j].toNat:Int)<=57:=by simp [af,si] at eK; omega
     have HV:Hid ((10 * (dv (bs s) u.p j:Int)+((s[u.p+j].toNat:Int) - 48))=((dv (bs s) u.p (j+1):Nat):Int)):=by
      unfold Hid; simp only [dv,si]; omega
     have HM:=aa (q_ HU.out eK)
     have hbd:(dv (bs s) u.p j:Int)<100:=by
      have h3:=Co j HU.out
      have:10 ^ j<=10 ^ 2:=Nat.pow_le_pow_right (by omega) (by omega)
      omega
     clear hb eK si
     generalize dv (bs s) u.p j=dj at *
     have HP:Hid (u.p+(j+1)=u.p+j+1):=rfl
     rw [HP.out] at HM
     generalize u.p+j=q at *
     go_wp2_with fail
     refine (jm HJ.out.m).mono ?_
     rintro r v3 ⟨rfl,g3⟩
     rw [HB.out]
     have G3:=aa (HJ.out.trans g3)
     have q0:=G3.out.m.c0
     have q1:=G3.out.m.c1
     have qz:=G3.out.m.fz 1
     simp only at q1
     clear g3
     go_wp2
     go_quiet (fail)
     go_wp2
     go_roundw
     case rel =>
      refine ⟨j+1,by omega,by go_num,by rw [<-HV.out],?_,?_⟩
      ·rw [HP.out]; exact HM.out
      rw [HP.out]; exact (G3.out.drewN _).jD (q+1)
     case measure=>simp [intOf]; omega
    have h3:j=3:=by omega
    subst h3
    have HS:=aa (lG (ok:=af) (s:=bs s) (K:=3) hj (Or.inl HT.out.2) HU.out (Or.inl rfl))
    have HV:Hid (mW (bs s) { u with p:=u.p+3 } u ng=if ng=true then -(dv (bs s) u.p 3:Int) else (dv (bs s) u.p 3:Int)):=by
     unfold Hid mW; rw [if_pos (by exact HT.out.2)]; simp
    have hbd:(dv (bs s) u.p 3:Int)<1000:=by
     have h3:=Co 3 HU.out
     omega
    generalize dv (bs s) u.p 3=dj at *
    have G3:=HJ
    cases ng
    all_goals
     go_wp2
     go_ret
     rw [HQ.out,HS.out]
     refine ⟨?_,G3.out⟩
     rw [HV.out]
     rfl
  have hn:ng=false:=by cases ng<;>simp at hB ⊢
  subst hn
  have HQ:Hid (aX (bs s) u false=aG u):=by unfold Hid aX; rw [if_neg (by simp [HD.out]),if_pos HZ.out]
  clear hB
  go_wp2
  go_loopw [6,8,9] (λ_ n k wr=>∃j:Nat,j<=1/\k=.int .i64 j/\n=.int .i64 0/\Rd b s w { u with p:=u.p+j } wr) (λ_ _ k _=>3 - (intOf k).toNat)
  case atStart=>exact ⟨0,by omega,rfl,rfl,G2.out⟩
  case round =>
   obtain ⟨j,hj,rfl,rfl,hr⟩:=hrel
   have HJ:=aa hr
   clear hr
   by_cases hlt:j=0
   ·subst hlt
    have eK:bt (bs s) u.p=48:=by have:=HZ.out; simp [aj] at this; exact this.2
    have hin:u.p<s.size:=by
     have:=cD (s:=bs s) (p:=u.p) (by omega); rw [an] at this; exact this
    have si:(s[u.p].toNat:Int)=48:=by have:=dR hin; omega
    clear eK
    go_wp2_with fail
    refine (jm HJ.out.m).mono ?_
    rintro r v3 ⟨rfl,g3⟩
    have e0:digit (bs s) { u with p:=u.p+0 }=true:=HD.out
    rw [e0]
    have G3:=aa (HJ.out.trans g3)
    have q0:=G3.out.m.c0
    have q1:=G3.out.m.c1
    have qz:=G3.out.m.fz 1
    simp only [Nat.add_zero] at q1
    clear g3 e0
    go_wp2
    go_quiet (fail)
    go_wp2
    go_roundw
    case rel=>exact ⟨1,by omega,by go_num,rfl,(G3.out.drewN _).jD (u.p+1)⟩
    case measure=>simp [intOf]
   have h1:j=1:=by omega
   subst h1
   have HV:Hid (mW (bs s) (aG u) u false=0):=by
    have:=HZ.out
    simp [aj] at this
    unfold Hid mW aG
    simp [dv,this.2]
   clear hlt
   go_wp2_with fail
   refine (jm HJ.out.m).mono ?_
   rintro r v3 ⟨rfl,g3⟩
   have G3:=aa (HJ.out.trans g3)
   clear g3
   cases hb:digit (bs s) { u with p:=u.p+1 }
   ·clear hb
    go_wp2
    go_ret
    rw [HQ.out,HV.out]
    exact ⟨rfl,G3.out⟩
   clear hb
   go_wp2
   go_ret
   rw [HQ.out,HV.out]
   exact ⟨rfl,G3.out⟩
 have HQ:Hid (aX (bs s) u ng=wrong u 2):=by
  unfold Hid aX
  rw [if_pos]
  rw [HD.out,HZ.out]
  cases d<;>cases ng<;>cases z<;>simp at hB ⊢
 clear hB
 go_wp2_with fail
 refine (pT G2.out.m 2 2 rfl).mono ?_
 rintro r v3 ⟨rfl,g3⟩
 have G3:=aa (G2.out.trans g3)
 clear g3
 go_wp2
 go_ret
 rw [HQ.out]
 refine ⟨?_,G3.out⟩
 unfold mW
 rw [if_neg MJ]
 rfl
theorem Sa {s:List UInt8} {t:St} {c:Nat} (hc:c<256) (h:t.p<=s.length):(has s t c).p<=s.length:=by
 unfold has; split
 ·rename_i hb
  simp [aj] at hb
  have:=cD (s:=s) (p:=t.p) (by omega)
  simp [aG]; omega
 exact h
def eI (s:List UInt8) (t:St) (m:Bool):Int:=mW s (countP s t m) (dx s t m) (m && aj s t 45)
theorem pU {w:World} {b:Nat} {s:ByteArray} {t:St} (h:aZ w b s t) (m:Bool) (hs:s.size<=120) (hp:t.p<=s.size) :
 Calls Tryz.prog 120 #[.pointer (some ⟨b,0,none⟩),.bool m] w λ r w'=>r=.returned (.int .i64 (eI (bs s) t m))/\Rd b s w (countP (bs s) t m) w':=by
 have e:eI (bs s) t m=mW (bs s) (aX (bs s) (dx (bs s) t m) (m && aj (bs s) t 45)) (dx (bs s) t m) (m && aj (bs s) t 45):=rfl
 rw [e]
 refine Jj h hs ?_ ?_
 ·unfold dx
  cases m
  ·exact hp
  have:=Sa (s:=bs s) (t:=t) (c:=45) (by omega) (by rw [an]; exact hp)
  rw [an] at this; exact this
 cases m
 ·exact Or.inl ⟨rfl,rfl,rfl⟩
 exact Or.inr ⟨rfl,rfl,by simp⟩
theorem aW {K:Nat->Prop} {w w':World} {base:Nat} {e:TypeId} {sz:Nat} {v:Value} {n:Nat} {xs:List Value} (h:w.ownsRow base e sz v n xs) (f:Fr K w w') (hK:∀g,base<=g->¬K g):w'.ownsRow base e sz v n xs:=by
 refine ⟨h.1,?_⟩
 rcases h.2 with h2 | ⟨g,cap,cur,hv,hb,hg,r⟩
 ·exact Or.inl h2
 exact Or.inr ⟨g,cap,cur,hv,hb,(f.block g (bH hg) (hK g hb)).trans hg,r⟩
theorem Fr.grown {K:Nat->Prop} {a w w':World} {row:Option Nat} (h:Fr K a w) (hg:w.grownBy w' row) (hr:∀k,row=some k->a.heap.size<=k\/K k):Fr K a w' :=
 ⟨hg.os.trans h.os,hg.tape.trans h.tape,hg.output.trans h.output,Nat.le_trans h.size hg.size,λ k hk hK=>by
  rw [hg.block k (Nat.lt_of_lt_of_le hk h.size) (λ e=>by rcases hr k e.symm with x | x; omega; exact hK x)]; exact h.block k hk hK⟩
theorem Rd.grown {b:Nat} {s:ByteArray} {w w1 w2:World} {t:St} {row:Option Nat} (h:Rd b s w t w1) (hg:w1.grownBy w2 row) (hb:b<w.heap.size) (hr:∀k,row=some k->w.heap.size<=k):Rd b s w t w2 :=
 ⟨(hg.block b h.m.lt (λ e=>by have:=hr b e.symm; omega)).trans h.m,h.f.grown hg (λ k hk=>Or.inl (hr k hk))⟩
theorem ah {w:World} {base:Nat} {e:TypeId} {sz:Nat} {v:Value} {n:Nat} {xs:List Value} (h:w.ownsRow base e sz v n xs):∃a c,v=.slice a n c:=by
 rcases h.2 with ⟨h1,h2⟩ | ⟨g,cap,cur,hv,_⟩
 ·subst h2; exact ⟨_,_,h1⟩
 exact ⟨_,_,hv⟩
theorem fO {b:Nat} {s:ByteArray} {w v1 v2:World} {t:St} {e:TypeId} {sz:Nat} {v:Value} {n:Nat} {xs:List Value} (h:v1.ownsRow w.heap.size e sz v n xs) (g:Rd b s v1 t v2) (hb:b<w.heap.size):v2.ownsRow w.heap.size e sz v n xs :=
 aW h g.f (λ k hk he=>by unfold PB at he; omega)
theorem yh (s:List UInt8) (t:St):t.p<=(bC s t).p:=by
 unfold bC; split
 ·split
  ·exact Nat.le_refl _
  exact eG _ _ _ _
 exact Nat.le_refl _
theorem Sb (s:List UInt8) (t:St) (b:Nat):t.p<=(has s t b).p:=by unfold has; split; simp [aG]; exact Nat.le_refl _
theorem yj (s:List UInt8) (t:St) (b:Nat):t.p<=(aH s t b).p:=by
 unfold aH; split
 ·simp [aG]
 rw [vi]; exact Nat.le_refl _
theorem DW (s:List UInt8) (t:St) (m:Bool):t.p<=(aX s t m).p:=by
 unfold aX; split
 ·rw [vi]; exact Nat.le_refl _
 split
 ·simp [aG]
 unfold dH; split
 ·exact eG _ _ _ _
 exact Nat.le_refl _
theorem DX (s:List UInt8) (t:St) (m:Bool):t.p<=(countP s t m).p:=by
 unfold countP
 refine Nat.le_trans ?_ (DW _ _ _)
 unfold dx; split
 ·exact Sb _ _ _
 exact Nat.le_refl _
theorem Tryz.Jk:(Tryz.prog.info? 292).map (λ i=>(i.zero,i.size,i.bytes))=some (some (.agg #[.string ⟨#[]⟩,.int .i64 0,.bool false]),3,32):=by kernel_rfl
theorem MK (s:List UInt8) (t:St):aN s t (nb ⟨#[93]⟩)=aH s t 93:=rfl
theorem ML:nb ⟨#[116,114,117,101]⟩=([116,114,117,101]:List UInt8).map UInt8.toNat:=rfl
theorem Jl:nb ⟨#[102,97,108,115,101]⟩=([102,97,108,115,101]:List UInt8).map UInt8.toNat:=rfl
theorem MN:nb ⟨#[110,117,108,108]⟩=([110,117,108,108]:List UInt8).map UInt8.toNat:=rfl
theorem Au {s:List UInt8} {t:St} {a b:Nat} (h:aj s t a=true) (hab:a≠b):aj s t b=false:=by
 obtain ⟨he,hb⟩:=aE h
 rw [aK he,hb]; simpa using hab
def ay (w:World) (g:Nat) (cs:Array Value) (T:TypeId):Prop:=w.heap[g]?=some (.cells cs T)
theorem ay.lt {w:World} {g:Nat} {cs:Array Value} {T:TypeId} (h:ay w g cs T):g<w.heap.size:=bH h
theorem ay.cell {w:World} {g:Nat} {cs:Array Value} {T:TypeId} (h:ay w g cs T) (i:Nat):w.cell? ⟨g,i,none⟩=cs[i]?:=by unfold ay at h; simp [World.cell?,h]
theorem ay.fz {w:World} {g:Nat} {cs:Array Value} {T:TypeId} (h:ay w g cs T) (i:Nat):w.frozen? ⟨g,i,none⟩=false:=by unfold ay at h; simp [World.frozen?,h]
theorem ay.new (w:World) (cs:Array Value) (T:TypeId):ay (w.alloc (.cells cs T)) w.heap.size cs T:=by unfold ay; exact heap_alloc_new w _
theorem ay.alloc {w:World} {g:Nat} {cs:Array Value} {T:TypeId} (h:ay w g cs T) (o:Obj):ay (w.alloc o) g cs T:=(Below.heap_alloc _ _ _ h.lt).trans h
theorem ay.fr {K:Nat->Prop} {w w':World} {g:Nat} {cs:Array Value} {T:TypeId} (h:ay w g cs T) (f:Fr K w w') (hK:¬K g):ay w' g cs T:=(f.block g h.lt hK).trans h
theorem ay.set {w:World} {g:Nat} {cs:Array Value} {T:TypeId} (h:ay w g cs T) (i:Nat) (v:Value):ay (w.setCell ⟨g,i,none⟩ v) g (cs.setIfInBounds i v) T:=by
 unfold ay at *; simp [World.setCell,Array.getElem?_modify,h]
theorem ay.other {w:World} {g g':Nat} {cs:Array Value} {T:TypeId} (h:ay w g cs T) (hg:g≠g') (i:Nat) (v:Value):ay (w.setCell ⟨g',i,none⟩ v) g cs T:=(Below.heap_setCell _ _ _ _ hg).trans h
theorem Rd.cM {b:Nat} {s:ByteArray} {w w':World} {t:St} (h:Rd b s w t w') (hb:b<w.heap.size) (g i:Nat) (hg:w.heap.size<=g) (v:Value):Rd b s w t (w'.setCell ⟨g,i,none⟩ v) :=
 ⟨(Below.heap_setCell _ _ _ _ (by simp only; omega)).trans h.m,h.f.setCell ⟨g,i,none⟩ (Or.inr hg) v⟩
theorem ay.rd {b:Nat} {s:ByteArray} {v1 v2:World} {t:St} {g:Nat} {cs:Array Value} {T:TypeId} (h:ay v1 g cs T) (r:Rd b s v1 t v2) (hg:b<g):ay v2 g cs T :=
 h.fr r.f (λ e=>by unfold PB at e; omega)
theorem WM:nb ⟨#[64]⟩=[64]:=rfl
theorem WO:nb ⟨#[61,61]⟩=[61,61]:=rfl
theorem WQ:nb ⟨#[33,61]⟩=[33,61]:=rfl
theorem WS:nb ⟨#[60]⟩=[60]:=rfl
end Go.Proofs.YtcbadebjpogmlaaGreatDoor
