import Derived.Test.YtcbadebjpogmlaaGreatDoorVsMkA
import Derived.Test.YtcbadebjpogmlaaGreatDoorVsVa
import Derived.Test.YtcbadebjpogmlaaGreatDoorVsVf
set_option maxHeartbeats 1000000
namespace Go.Proofs.YtcbadebjpogmlaaGreatDoor
open Go.RowKit Tr
theorem cI {w0 w:World} {g:Nat} {q:ByteArray} {a:Nat} {p v:Value} {n:Nat} (h:Qt g q p v n w0 a w) (hq:q.size<=1000) (sign:ByteArray) (ht:tk q a sign=false) :
 Calls Tryz.prog 85 #[.pointer (some ⟨g,0,none⟩),.string sign] w λ r w'=>r=.returned (.bool false)/\Qt g q p v n w0 a w':=by
 refine (lB h hq sign).mono ?_
 rintro r w' ⟨rfl,h1⟩
 rw [ht] at h1 ⊢
 exact ⟨rfl,h1⟩
theorem de {w0 w:World} {g:Nat} {q:ByteArray} {a:Nat} {p v:Value} {n:Nat} (h:Qt g q p v n w0 a w) (hq:q.size<=1000) (sign:ByteArray) (ht:tk q a sign=true) (b:Nat) (hb:b=a+sign.size) :
 Calls Tryz.prog 85 #[.pointer (some ⟨g,0,none⟩),.string sign] w λ r w'=>r=.returned (.bool true)/\Qt g q p v n w0 b w':=by
 refine (lB h hq sign).mono ?_
 rintro r w' ⟨rfl,h1⟩
 rw [ht] at h1 ⊢
 rw [hb]
 exact ⟨rfl,h1⟩
theorem Qt.alloc {g:Nat} {q:ByteArray} {p v:Value} {n:Nat} {w0 w:World} {a:Nat} (h:Qt g q p v n w0 a w) (o:Obj):Qt g q p v n w0 a (w.alloc o):=⟨h.b.alloc o,h.f.alloc o,h.le⟩
def Q8 (g:Nat) (q:ByteArray) (p v:Value) (n:Nat) (w0:World) (a:Nat) (cs:Array Value) (r:Ending) (w':World):Prop:=(∃b,r=.returned (.pointer (some ⟨b,0,none⟩))/\w0.heap.size<=b/\ay w' b cs 130)/\Qt g q p v n w0 a w'
def GZ (k:Int) (m:Int) (s:ByteArray):Array Value:=#[.int .i64 k,.int .i64 0,.int .i64 0,.int .i64 m,.string s,.pointer none,.int .i64 0,.string ⟨#[]⟩,.slice none 0 0]
theorem c_.VO {q:ByteArray} {a k:Nat} (h:c_ af q a k) (hk:k<=a+18):bY (bs q) a k<1000000000000000000:=by
 have:=zL (s:=bs q) (a:=a) (k - a) (λ i h1 h2=>h.all i h1 (by have:=h.ge; omega))
 have e:(10:Nat) ^ (k - a)<=10 ^ 18:=Nat.pow_le_pow_right (by omega) (by omega)
 unfold bY
 omega
theorem j3 (s:List UInt8) (a k:Nat):(if k=a then (0:Int) else ((bY s a k:Nat):Int))=((bY s a k:Nat):Int):=by
 split
 ·rename_i h; rw [h]; simp [bY,iT]
 rfl
theorem L9 {w0 w:World} {g:Nat} {q:ByteArray} {a:Nat} {p v:Value} {n:Nat} (h:Qt g q p v n w0 a w) (hq:q.size<=1000) (T0:tk q a ⟨#[116,114,117,101]⟩=true) :
 Calls Tryz.prog 283 #[.pointer (some ⟨g,0,none⟩)] w (Q8 g q p v n w0 (a+4) (GZ 2 0 ⟨#[]⟩)):=by
 have H:=aa h
 clear h
 go_enter Tryz.func283,Tryz.ntmps283
 go_wp2_with fail
 refine (de H.out hq _ T0 (a+4) rfl).mono ?_
 rintro r w1 ⟨rfl,h1⟩
 clear H
 have H:=aa h1
 clear h1
 go_wp2
 go_ret
 exact ⟨⟨_,rfl,H.out.f.size,ay.new _ _ _⟩,H.out.alloc _⟩
theorem G0 {w0 w:World} {g:Nat} {q:ByteArray} {a:Nat} {p v:Value} {n:Nat} (h:Qt g q p v n w0 a w) (hq:q.size<=1000) (T0:tk q a ⟨#[116,114,117,101]⟩=false) (T1:tk q a ⟨#[102,97,108,115,101]⟩=true) :
 Calls Tryz.prog 283 #[.pointer (some ⟨g,0,none⟩)] w (Q8 g q p v n w0 (a+5) (GZ 1 0 ⟨#[]⟩)):=by
 have H:=aa h
 clear h
 go_enter Tryz.func283,Tryz.ntmps283
 go_wp2_with fail
 refine (cI H.out hq _ T0).mono ?_
 rintro r w1 ⟨rfl,h1⟩
 clear H
 have H:=aa h1
 clear h1
 go_wp2_with fail
 refine (de H.out hq _ T1 (a+5) rfl).mono ?_
 rintro r w1 ⟨rfl,h1⟩
 clear H
 have H:=aa h1
 clear h1
 go_wp2
 go_ret
 exact ⟨⟨_,rfl,H.out.f.size,ay.new _ _ _⟩,H.out.alloc _⟩
theorem L_ {w0 w:World} {g:Nat} {q:ByteArray} {a:Nat} {p v:Value} {n:Nat} (h:Qt g q p v n w0 a w) (hq:q.size<=1000) (T0:tk q a ⟨#[116,114,117,101]⟩=false) (T1:tk q a ⟨#[102,97,108,115,101]⟩=false) (T2:tk q a ⟨#[110,117,108,108]⟩=true) :
 Calls Tryz.prog 283 #[.pointer (some ⟨g,0,none⟩)] w (Q8 g q p v n w0 (a+4) (GZ 0 0 ⟨#[]⟩)):=by
 have H:=aa h
 clear h
 go_enter Tryz.func283,Tryz.ntmps283
 go_wp2_with fail
 refine (cI H.out hq _ T0).mono ?_
 rintro r w1 ⟨rfl,h1⟩
 clear H
 have H:=aa h1
 clear h1
 go_wp2_with fail
 refine (cI H.out hq _ T1).mono ?_
 rintro r w1 ⟨rfl,h1⟩
 clear H
 have H:=aa h1
 clear h1
 go_wp2_with fail
 refine (de H.out hq _ T2 (a+4) rfl).mono ?_
 rintro r w1 ⟨rfl,h1⟩
 clear H
 have H:=aa h1
 clear h1
 go_wp2
 go_ret
 exact ⟨⟨_,rfl,H.out.f.size,ay.new _ _ _⟩,H.out.alloc _⟩
theorem G_ {w0 w:World} {g:Nat} {q:ByteArray} {a:Nat} {p v:Value} {n:Nat} (h:Qt g q p v n w0 a w) (hq:q.size<=1000) (T0:tk q a ⟨#[116,114,117,101]⟩=false) (T1:tk q a ⟨#[102,97,108,115,101]⟩=false) (T2:tk q a ⟨#[110,117,108,108]⟩=false) (T3:tk q a ⟨#[39]⟩=true) :
 Calls Tryz.prog 283 #[.pointer (some ⟨g,0,none⟩)] w (λ r w'=>∃k,c_ aO q (a+1) k/\Q8 g q p v n w0 (if tk q k ⟨#[39]⟩ then k+1 else k) (GZ 4 0 (q.extract (a+1) k)) r w'):=by
 have H:=aa h
 clear h
 go_enter Tryz.func283,Tryz.ntmps283
 go_wp2_with fail
 refine (cI H.out hq _ T0).mono ?_
 rintro r w1 ⟨rfl,h1⟩
 clear H
 have H:=aa h1
 clear h1
 go_wp2_with fail
 refine (cI H.out hq _ T1).mono ?_
 rintro r w1 ⟨rfl,h1⟩
 clear H
 have H:=aa h1
 clear h1
 go_wp2_with fail
 refine (cI H.out hq _ T2).mono ?_
 rintro r w1 ⟨rfl,h1⟩
 clear H
 have H:=aa h1
 clear h1
 go_wp2_with fail
 refine (de H.out hq _ T3 (a+1) rfl).mono ?_
 rintro r w1 ⟨rfl,h1⟩
 clear H
 have H:=aa h1
 clear h1
 go_wp2_with fail
 refine (wU H.out hq).mono ?_
 rintro r w1 ⟨k,hk,rfl,h1⟩
 have HK:=aa hk
 clear H hk
 have H:=aa h1
 clear h1
 go_wp2
 go_ret
 exact ⟨k,HK.out,⟨_,rfl,H.out.f.size,ay.new _ _ _⟩,H.out.alloc _⟩
theorem He {w0 w:World} {g:Nat} {q:ByteArray} {a:Nat} {p v:Value} {n:Nat} (h:Qt g q p v n w0 a w) (hq:q.size<=1000) (T0:tk q a ⟨#[116,114,117,101]⟩=false) (T1:tk q a ⟨#[102,97,108,115,101]⟩=false) (T2:tk q a ⟨#[110,117,108,108]⟩=false) (T3:tk q a ⟨#[39]⟩=false) (T4:tk q a ⟨#[45]⟩=true) (he:Er g w0) (qB:∀k,c_ af q (a+1) k->k<=a+1+18) :
 Calls Tryz.prog 283 #[.pointer (some ⟨g,0,none⟩)] w (λ r w'=>∃k,c_ af q (a+1) k/\Q8 g q p v n w0 k (GZ 3 (-((bY (bs q) (a+1) k:Nat):Int)) ⟨#[]⟩) r w'):=by
 have H:=aa h
 have HE:=aa he
 have yV:=aa qB
 clear he qB
 clear h
 go_enter Tryz.func283,Tryz.ntmps283
 go_wp2_with fail
 refine (cI H.out hq _ T0).mono ?_
 rintro r w1 ⟨rfl,h1⟩
 clear H
 have H:=aa h1
 clear h1
 go_wp2_with fail
 refine (cI H.out hq _ T1).mono ?_
 rintro r w1 ⟨rfl,h1⟩
 clear H
 have H:=aa h1
 clear h1
 go_wp2_with fail
 refine (cI H.out hq _ T2).mono ?_
 rintro r w1 ⟨rfl,h1⟩
 clear H
 have H:=aa h1
 clear h1
 go_wp2_with fail
 refine (cI H.out hq _ T3).mono ?_
 rintro r w1 ⟨rfl,h1⟩
 clear H
 have H:=aa h1
 clear h1
 go_wp2_with fail
 refine (de H.out hq _ T4 (a+1) rfl).mono ?_
 rintro r w1 ⟨rfl,h1⟩
 clear H
 have H:=aa h1
 clear h1
 go_wp2_with fail
 refine (jc H.out hq HE.out yV.out _).mono ?_
 rintro r w1 ⟨k,m,⟨hk,hm⟩,rfl,h1⟩
 rw [j3] at hm
 subst hm
 have aar:=hk.VO (yV.out k hk)
 have HK:=aa hk
 clear H hk
 obtain ⟨m,OT⟩:∃m,m=bY (bs q) (a+1) k:=⟨_,rfl⟩
 rw [<-OT] at aar ⊢
 have HMM:=aa OT
 clear OT
 have hwr:IntKind.i64.wrap (-(m:Int))=-(m:Int):=IntWalk.i64_in _ (by omega)
 have H:=aa h1
 clear h1
 go_wp2
 go_ret
 exact ⟨k,HK.out,⟨_,rfl,H.out.f.size,by rw [<-HMM.out]; exact ay.new _ _ _⟩,H.out.alloc _⟩
theorem Hf {w0 w:World} {g:Nat} {q:ByteArray} {a:Nat} {p v:Value} {n:Nat} (h:Qt g q p v n w0 a w) (hq:q.size<=1000) (T0:tk q a ⟨#[116,114,117,101]⟩=false) (T1:tk q a ⟨#[102,97,108,115,101]⟩=false) (T2:tk q a ⟨#[110,117,108,108]⟩=false) (T3:tk q a ⟨#[39]⟩=false) (T4:tk q a ⟨#[45]⟩=false) (he:Er g w0) (qB:∀k,c_ af q a k->k<=a+18) :
 Calls Tryz.prog 283 #[.pointer (some ⟨g,0,none⟩)] w (λ r w'=>∃k,c_ af q a k/\Q8 g q p v n w0 k (GZ 3 ((bY (bs q) a k:Nat):Int) ⟨#[]⟩) r w'):=by
 have H:=aa h
 have HE:=aa he
 have yV:=aa qB
 clear he qB
 clear h
 go_enter Tryz.func283,Tryz.ntmps283
 go_wp2_with fail
 refine (cI H.out hq _ T0).mono ?_
 rintro r w1 ⟨rfl,h1⟩
 clear H
 have H:=aa h1
 clear h1
 go_wp2_with fail
 refine (cI H.out hq _ T1).mono ?_
 rintro r w1 ⟨rfl,h1⟩
 clear H
 have H:=aa h1
 clear h1
 go_wp2_with fail
 refine (cI H.out hq _ T2).mono ?_
 rintro r w1 ⟨rfl,h1⟩
 clear H
 have H:=aa h1
 clear h1
 go_wp2_with fail
 refine (cI H.out hq _ T3).mono ?_
 rintro r w1 ⟨rfl,h1⟩
 clear H
 have H:=aa h1
 clear h1
 go_wp2_with fail
 refine (cI H.out hq _ T4).mono ?_
 rintro r w1 ⟨rfl,h1⟩
 clear H
 have H:=aa h1
 clear h1
 go_wp2_with fail
 refine (jc H.out hq HE.out yV.out _).mono ?_
 rintro r w1 ⟨k,m,⟨hk,hm⟩,rfl,h1⟩
 rw [j3] at hm
 subst hm
 have HK:=aa hk
 clear H hk
 have H:=aa h1
 clear h1
 go_wp2
 go_ret
 exact ⟨k,HK.out,⟨_,rfl,H.out.f.size,ay.new _ _ _⟩,H.out.alloc _⟩
theorem fm {q:ByteArray} {t:St} {sign:ByteArray} {c:Nat} {l:List Nat} (he:t.e=0) (hs:nb sign=c::l) (h:aj (bs q) t c=false):tk q t.p sign=false:=by
 rw [jZ,hs]
 have:(bt (bs q) t.p == c)=false:=by simpa [aj,he] using h
 simp [pfx,this]
theorem gQ {q:ByteArray} {t:St} {sign:ByteArray} (h:(aN (bs q) t (nb sign)).e=0):tk q t.p sign=true/\aN (bs q) t (nb sign)={ t with p:=t.p+sign.size }:=by
 obtain ⟨_,h2,h3⟩:=gM h
 rw [zM] at h3
 exact ⟨by rw [jZ]; exact h2,h3⟩
def CnM (g:Nat) (q:ByteArray) (p v:Value) (n:Nat) (w0:World) (q0 c X:Nat) (o:List UInt8) (d:Nat) (a:Nat) (r:Ending) (w':World):Prop :=
 ∃t' kt,Live (bs q) q0 c X o d t'/\a_ (bs q) a=⟨kt,t'.p⟩/\qC kt/\Q8 g q p v n w0 t'.p (ld (cQ kt) (.pointer none) 0 (.slice none 0 0)) r w'
theorem Ma:GZ 2 0 ⟨#[]⟩=ld (cQ ⟨3,0,lN⟩) (.pointer none) 0 (.slice none 0 0):=by rfl
theorem Hg:GZ 1 0 ⟨#[]⟩=ld (cQ ⟨3,0,jq⟩) (.pointer none) 0 (.slice none 0 0):=by rfl
theorem Mb:GZ 0 0 ⟨#[]⟩=ld (cQ ⟨3,0,qd⟩) (.pointer none) 0 (.slice none 0 0):=by rfl
theorem Hh (m:Int):GZ 3 m ⟨#[]⟩=ld (cQ ⟨1,m,[]⟩) (.pointer none) 0 (.slice none 0 0):=by rfl
theorem Q9 (q:ByteArray):bZ (bs q)=q:=by
 unfold bZ bs
 exact congrArg ByteArray.mk Array.toArray_toList
theorem Q_ {q:ByteArray} {l:List UInt8} (h:bs q=l) (hl:l.length<=8):GZ 4 0 q=ld (cQ ⟨2,0,l⟩) (.pointer none) 0 (.slice none 0 0):=by
 have e:jX (cQ ⟨2,0,l⟩)=l:=by simp only [jX,cQ,if_true]; exact List.take_of_length_le (by omega)
 unfold ld
 rw [e,<-h,Q9]
 rfl
theorem qC.num (m:Int):qC ⟨1,m,[]⟩:=⟨Or.inl rfl,(λ h=>by cases h),λ_=>rfl,(λ h=>by rcases h with h | h<;>cases h),by show 0<=8; decide⟩
theorem qC.word {l:List UInt8} (h:l=lN\/l=jq\/l=qd):qC ⟨3,0,l⟩:=⟨Or.inr (Or.inr rfl),λ_=>h,(λ h=>by cases h),λ_=>rfl,by rcases h with rfl | rfl | rfl<;>decide⟩
theorem qC.str {l:List UInt8} (h:l.length<=8):qC ⟨2,0,l⟩:=⟨Or.inr (Or.inl rfl),(λ h=>by cases h),(λ h=>by cases h),λ_=>rfl,h⟩
theorem cX {s:List UInt8} {t:St} {b:Nat} (h:aj s t b=true):bt s t.p=b:=(aE h).2
theorem aT {s:List UInt8} {t:St} {b:Nat} (he:t.e=0) (h:aj s t b=false):bt s t.p≠b:=by simpa [aj,he] using h
theorem Hj {q:ByteArray} {t:St} {k:Nat} (h:aH (bs q) (dH aO (bs q) 8 t) 39={ t with p:=k+1 }) (he:t.e=0):k<=t.p+8:=by
 have h1:=congrArg St.p h
 have e1:(dH aO (bs q) 8 t)={ t with p:=run aO (bs q) 8 t.p }:=by unfold dH; rw [if_pos he]
 rw [e1] at h1
 have h3:=gL aO (bs q) 8 t.p
 unfold aH at h1
 split at h1
 ·simp [aG] at h1; omega
 unfold wrong at h1; split at h1<;>simp at h1<;>omega
theorem BC (s:List UInt8) (a b:Nat):(sub s a b).length<=b - a:=by unfold sub; exact List.length_take_le _ _
theorem j5 {w0 w:World} {g:Nat} {q:ByteArray} {p v:Value} {n:Nat} (hq:q.size<=1000) (hf:bz (bs q)) (he:Er g w0) {q0 c d:Nat} {o:List UInt8} {t:St} (hok:Live (bs q) q0 c 17 o d t) (h:Qt g q p v n w0 t.p w) :
 Calls Tryz.prog 283 #[.pointer (some ⟨g,0,none⟩)] w (CnM g q p v n w0 q0 c 18 o d t.p):=by
 have e0:=hok.e0
 have word:∀(x a:UInt8) (l:List UInt8) (sign:ByteArray),nb sign=(x::a::l).map UInt8.toNat->aj (bs q) t x.toNat=true->nx (cS 17 o) x.toNat=⟨24,18,0,a::l,o⟩ ->
  tk q t.p sign=true/\Live (bs q) q0 c 18 o d { t with p:=t.p+sign.size }:=by
  intro x a l sign hs hx hn
  have h1:=aA hf (qD x a l (Or.inl hok) hx hn)
  rw [<-hs] at h1
  obtain ⟨h2,h3⟩:=gQ h1.e0
  rw [h3] at h1
  exact ⟨h2,h1⟩
 by_cases h1:aj (bs q) t 116=true
 ·obtain ⟨a1,a2⟩:=word 116 114 [117,101] ⟨#[116,114,117,101]⟩ rfl h1 (by rw [show (116:UInt8).toNat=116 from rfl,Dj (by decide)]; rfl)
  exact (Ma▸L9 h hq a1).mono (λ r w' hr=>⟨_,_,a2,by unfold a_; rw [if_pos (cX h1)]; rfl,qC.word (Or.inl rfl),hr⟩)
 have h1:aj (bs q) t 116=false:=by simpa using h1
 have T0:=fm (sign:=⟨#[116,114,117,101]⟩) e0 rfl h1
 by_cases h2:aj (bs q) t 102=true
 ·obtain ⟨a1,a2⟩:=word 102 97 [108,115,101] ⟨#[102,97,108,115,101]⟩ rfl h2 (by rw [show (102:UInt8).toNat=102 from rfl,Dj (by decide)]; rfl)
  exact (Hg▸G0 h hq T0 a1).mono (λ r w' hr=>⟨_,_,a2,by unfold a_; rw [if_neg (aT e0 h1),if_pos (cX h2)]; rfl,qC.word (Or.inr (Or.inl rfl)),hr⟩)
 have h2:aj (bs q) t 102=false:=by simpa using h2
 have T1:=fm (sign:=⟨#[102,97,108,115,101]⟩) e0 rfl h2
 by_cases h3:aj (bs q) t 110=true
 ·obtain ⟨a1,a2⟩:=word 110 117 [108,108] ⟨#[110,117,108,108]⟩ rfl h3 (by rw [show (110:UInt8).toNat=110 from rfl,Dj (by decide)]; rfl)
  exact (Mb▸L_ h hq T0 T1 a1).mono (λ r w' hr=>⟨_,_,a2,by unfold a_; rw [if_neg (aT e0 h1),if_neg (aT e0 h2),if_pos (cX h3)]; rfl,qC.word (Or.inr (Or.inr rfl)),hr⟩)
 have h3:aj (bs q) t 110=false:=by simpa using h3
 have T2:=fm (sign:=⟨#[110,117,108,108]⟩) e0 rfl h3
 by_cases h4:aj (bs q) t 39=true
 ·have a1:=aA hf (nS (Or.inl hok) h4)
  have e1:aH (bs q) t 39=aG t:=by unfold aH; rw [if_pos h4]
  unfold eU at a1
  rw [e1] at a1
  have T3:tk q t.p ⟨#[39]⟩=true:=(s_ q e0 39).trans h4
  refine (G_ h hq T0 T1 T2 T3).mono ?_
  rintro r w' ⟨k,hk,hr⟩
  obtain ⟨b1,b2⟩:=wY (t:=aG t) a1.e0 hk
  rw [b2,if_pos rfl] at hr
  have hle:=Hj b1 e0
  rw [b1] at a1
  have Kr:=BC (bs q) (t.p+1) k
  have ha:(aG t).p=t.p+1:=rfl
  rw [Q_ (cP q (t.p+1) k) (by omega)] at hr
  refine ⟨_,_,a1,?_,qC.str (by omega),hr⟩
  unfold a_
  rw [if_neg (aT e0 h1),if_neg (aT e0 h2),if_neg (aT e0 h3),if_pos (cX h4),hk.eq (by decide)]
 have h4:aj (bs q) t 39=false:=by simpa using h4
 have T3:=fm (sign:=⟨#[39]⟩) e0 rfl h4
 have a1:=aA hf (nT (Or.inl hok) h4 h1 h2 h3)
 unfold countP dx at a1
 simp only [if_true,Bool.true_and] at a1
 by_cases h5:aj (bs q) t 45=true
 ·have e1:has (bs q) t 45=aG t:=by unfold has; rw [if_pos h5]
  rw [e1] at a1
  have T4:tk q t.p ⟨#[45]⟩=true:=(s_ q e0 45).trans h5
  refine (He h hq T0 T1 T2 T3 T4 he (λ k hk=>?_)).mono ?_
  ·have:=(j0 hf (t:=aG t) e0 a1 (Or.inr (Or.inr (Or.inr rfl))) hk).2
   simp only [aG] at this
   omega
  rintro r w' ⟨k,hk,hr⟩
  rw [(j0 hf (t:=aG t) e0 a1 (Or.inr (Or.inr (Or.inr rfl))) hk).1] at a1
  rw [Hh] at hr
  refine ⟨_,_,a1,?_,qC.num _,hr⟩
  unfold a_
  rw [if_neg (aT e0 h1),if_neg (aT e0 h2),if_neg (aT e0 h3),if_neg (aT e0 h4),if_pos (cX h5),hk.eq (by decide)]
 have h5:aj (bs q) t 45=false:=by simpa using h5
 have e1:has (bs q) t 45=t:=by unfold has; rw [if_neg (by rw [h5]; decide)]
 rw [e1] at a1
 have T4:=fm (sign:=⟨#[45]⟩) e0 rfl h5
 refine (Hf h hq T0 T1 T2 T3 T4 he (λ k hk=>?_)).mono ?_
 ·have:=(j0 hf e0 a1 (Or.inr (Or.inr (Or.inr rfl))) hk).2
  omega
 rintro r w' ⟨k,hk,hr⟩
 rw [(j0 hf e0 a1 (Or.inr (Or.inr (Or.inr rfl))) hk).1] at a1
 rw [Hh] at hr
 refine ⟨_,_,a1,?_,qC.num _,hr⟩
 unfold a_
 rw [if_neg (aT e0 h1),if_neg (aT e0 h2),if_neg (aT e0 h3),if_neg (aT e0 h4),if_neg (aT e0 h5),hk.eq (by decide)]
theorem BE {q:ByteArray} {t:St} {m:Bool} (he:t.e=0) (L8:(aX (bs q) t m).e=0) (hnd:af (bt (bs q) (aX (bs q) t m).p)=false)
 {k:Nat} (hk:c_ af q t.p k):aX (bs q) t m={ t with p:=k }/\k<=t.p+3:=by
 unfold aX at hnd L8 ⊢
 split at hnd
 ·rename_i hc
  rw [if_pos hc] at L8
  simp [wrong,he] at L8
 rename_i hc
 rw [if_neg hc] at L8
 rw [if_neg hc]
 have hd:af (bt (bs q) t.p)=true:=by
  simp only [not_or] at hc
  have:=hc.1
  simpa [digit,he] using this
 split at hnd
 ·rename_i h48
  rw [if_pos h48]
  have e1:run af (bs q) 1 t.p=t.p+1:=by simp [run,hd]
  have:=nR (K:=1) hk (by decide) (by rw [e1]; exact hnd)
  rw [e1] at this
  subst this
  exact ⟨rfl,by omega⟩
 rename_i h48
 rw [if_neg h48]
 have e1:(dH af (bs q) 3 t)={ t with p:=run af (bs q) 3 t.p }:=by unfold dH; rw [if_pos he]
 rw [e1] at hnd ⊢
 have:=nR (K:=3) hk (by decide) hnd
 have h3:=gL af (bs q) 3 t.p
 rw [this] at h3 ⊢
 exact ⟨rfl,h3⟩
def FnP (g:Nat) (q:ByteArray) (p v:Value) (n:Nat) (w0:World) (a:Nat) (P:World->Value->Prop) (r:Ending) (w':World):Prop:=(∃f D,r=.returned f/\Ft D w0.heap.size w'/\fR D w' (λ w''=>P w'' f))/\Qt g q p v n w0 a w'
theorem wZ {s:List UInt8} {t:St} {m:Bool} (he:t.e=0) (h0:(aX s t m).e=0):af (bt s t.p)=true/\(m=true->bt s t.p≠48):=by
 unfold aX at h0
 split at h0
 ·simp [wrong,he] at h0
 rename_i hc
 simp only [not_or,not_and] at hc
 refine ⟨by have:=hc.1; simpa [digit,he] using this,λ hm x=>?_⟩
 have:=hc.2 hm
 simp [aj,he,x] at this
theorem Hl {w0 w:World} {g:Nat} {q:ByteArray} {a:Nat} {p v:Value} {n:Nat} (h:Qt g q p v n w0 a w) (hq:q.size<=1000) (T0:tk q a ⟨#[45]⟩=true) (he:Er g w0) (qB:∀k,c_ af q (a+1) k->k<=a+1+18) :
 Calls Tryz.prog 288 #[.pointer (some ⟨g,0,none⟩)] w (λ r w'=>∃k,c_ af q (a+1) k/\(0<bY (bs q) (a+1) k/\bY (bs q) (a+1) k<=1000->FnP g q p v n w0 k (λ w f=>je w f ⟨false,[],-(bY (bs q) (a+1) k:Int)⟩) r w')):=by
 have H:=aa h
 have HE:=aa he
 have yV:=aa qB
 clear he qB
 clear h
 go_enter Tryz.func288,Tryz.ntmps288
 go_wp2_with fail
 refine (de H.out hq _ T0 (a+1) rfl).mono ?_
 rintro r w1 ⟨rfl,h1⟩
 clear H
 have H:=aa h1
 clear h1
 go_wp2_with fail
 refine (jc H.out hq HE.out yV.out _).mono ?_
 rintro r w1 ⟨k,m,⟨hk,hm⟩,rfl,h1⟩
 rw [j3] at hm
 subst hm
 have HK:=aa hk
 clear H hk
 have H:=aa h1
 clear h1
 go_wp2
 go_ret
 refine ⟨k,HK.out,λ hb=>⟨⟨_,λ x=>x=w1.heap.size,rfl,Ft.one (ay.new _ _ _) (by decide) H.out.f.size,λ w'' s=>?_⟩,H.out.alloc _⟩⟩
 exact Dk hb ((ay.new w1 _ _).sm s rfl)
theorem Ho {w0 w:World} {g:Nat} {q:ByteArray} {a:Nat} {p v:Value} {n:Nat} (h:Qt g q p v n w0 a w) (hq:q.size<=1000) (T0:tk q a ⟨#[45]⟩=false) (he:Er g w0) (qB:∀k,c_ af q a k->k<=a+18) :
 Calls Tryz.prog 288 #[.pointer (some ⟨g,0,none⟩)] w (λ r w'=>∃k,c_ af q a k/\FnP g q p v n w0 k (λ w f=>je w f ⟨false,[],(bY (bs q) a k:Int)⟩) r w'):=by
 have H:=aa h
 have HE:=aa he
 have yV:=aa qB
 clear he qB
 clear h
 go_enter Tryz.func288,Tryz.ntmps288
 go_wp2_with fail
 refine (cI H.out hq _ T0).mono ?_
 rintro r w1 ⟨rfl,h1⟩
 clear H
 have H:=aa h1
 clear h1
 go_wp2_with fail
 refine (jc H.out hq HE.out yV.out _).mono ?_
 rintro r w1 ⟨k,m,⟨hk,hm⟩,rfl,h1⟩
 rw [j3] at hm
 subst hm
 have HK:=aa hk
 clear H hk
 have H:=aa h1
 clear h1
 go_wp2
 go_ret
 refine ⟨k,HK.out,⟨_,λ x=>x=w1.heap.size,rfl,Ft.one (ay.new _ _ _) (by decide) H.out.f.size,λ w'' s=>?_⟩,H.out.alloc _⟩
 exact Ra ((ay.new w1 _ _).sm s rfl)
theorem Dl {w0 w:World} {g:Nat} {q:ByteArray} {p v:Value} {n:Nat} (hq:q.size<=1000) (hf:bz (bs q)) (he:Er g w0) {q0 c d:Nat} {o:List UInt8} {t:St} (hok:Live (bs q) q0 c 11 o d t) (hb:aj (bs q) t 91=true) (h:Qt g q p v n w0 (t.p+1) w) :
 Calls Tryz.prog 288 #[.pointer (some ⟨g,0,none⟩)] w (λ r w'=>∃k,t.p<k/\tk q k ⟨#[93]⟩=true/\Live (bs q) q0 c 11 o d { t with p:=k+1 }/\∃st,FnP g q p v n w0 k (λ w f=>je w f st) r w'/\∀m l,bA (bs q) (m+1) t.p l=bA (bs q) m (k+1) (l++[st])):=by
 have e0:=hok.e0
 have a1:=aA hf (zN (Or.inl hok) hb)
 obtain ⟨s1,s2⟩:=jd a1.e0
 rw [s2] at a1
 obtain ⟨s3,s4⟩:=aE s1
 unfold countP dx at a1 s1 s3 s4
 simp only [if_true,Bool.true_and] at a1 s1 s3 s4
 by_cases h5:aj (bs q) (aG t) 45=true
 ·have e1:has (bs q) (aG t) 45=aG (aG t):=by unfold has; rw [if_pos h5]
  rw [e1] at a1 s1 s3 s4
  have T0:tk q (t.p+1) ⟨#[45]⟩=true:=(s_ q (t:=aG t) e0 45).trans h5
  have fact:∀k,c_ af q (t.p+1+1) k->_:=λ k hk=>BE (t:=aG (aG t)) e0 s3 (by rw [s4]; decide) hk
  refine (Hl h hq T0 he (λ k hk=>?_)).mono ?_
  ·have:=(fact k hk).2
   simp only [aG] at this
   omega
  rintro r w' ⟨k,hk,hr⟩
  have f1:=(fact k hk).1
  have f2:=(fact k hk).2
  have hd:=wZ (t:=aG (aG t)) e0 s3
  rw [f1] at a1 s1
  have hge:=hk.ge
  have hlt:t.p+1+1<k:=by
   rcases Nat.lt_or_ge (t.p+1+1) k with x | x
   ·exact x
   exfalso
   have hkk:k=t.p+1+1:=by omega
   have:=(aE s1).2
   simp only at this
   rw [hkk] at this
   have h2:=hd.1
   rw [show (aG (aG t)).p=t.p+1+1 from rfl,this] at h2
   exact absurd h2 (by decide)
  refine ⟨k,by omega,(s_ q (t:={ aG (aG t) with p:=k }) e0 93).trans s1,a1,_,hr ⟨hk.pos hlt (hd.2 h5),by have:=hk.val f2; omega⟩,λ m l=>?_⟩
  rw [bA,if_neg (by rw [(aE hb).2]; decide),if_pos (aE hb).2,if_pos (show bt (bs q) (t.p+1)=45 from (aE h5).2),hk.eq (by decide)]
 have h5:aj (bs q) (aG t) 45=false:=by simpa using h5
 have e1:has (bs q) (aG t) 45=aG t:=by unfold has; rw [if_neg (by rw [h5]; decide)]
 rw [e1] at a1 s1 s3 s4
 have T0:=fm (t:=aG t) (sign:=⟨#[45]⟩) e0 rfl h5
 have fact:∀k,c_ af q (t.p+1) k->_:=λ k hk=>BE (t:=aG t) e0 s3 (by rw [s4]; decide) hk
 refine (Ho h hq T0 he (λ k hk=>?_)).mono ?_
 ·have:=(fact k hk).2
  simp only [aG] at this
  omega
 rintro r w' ⟨k,hk,hr⟩
 have f1:=(fact k hk).1
 rw [f1] at a1 s1
 have hge:=hk.ge
 refine ⟨k,by omega,(s_ q (t:={ aG t with p:=k }) e0 93).trans s1,a1,_,hr,λ m l=>?_⟩
 rw [bA,if_neg (by rw [(aE hb).2]; decide),if_pos (aE hb).2,if_neg (show ¬bt (bs q) (t.p+1)=45 from aT (t:=aG t) e0 h5),hk.eq (by decide)]
def OV (B:Nat) (w:World) (P:World->Value->Prop) (r:Ending) (w':World):Prop:=(∃f D,r=.returned f/\Ft D B w'/\fR D w' (λ w''=>P w'' f))/\Below w.heap.size w w'
theorem Sm.alloc {D:Nat->Prop} {B:Nat} {w:World} (h:Ft D B w) (o:Obj):Sm D w (w.alloc o):=Sm.fr (K:=λ_=>False) h ((Fr.refl _ w).alloc o) (λ_ _ x=>x)
theorem Sm.trans {D:Nat->Prop} {a b c:World} (h:Sm D a b) (k:Sm D b c):Sm D a c:=λ i hi=>(k i hi).trans (h i hi)
theorem Sm.less {D D':Nat->Prop} {a b:World} (h:Sm D a b) (hd:∀k,D' k->D k):Sm D' a b:=λ i hi=>h i (hd i hi)
theorem zO {B:Nat} (w:World) (s:ByteArray) (hB:B<=w.heap.size):Calls Tryz.prog 287 #[.string s] w (OV B w (λ w f=>je w f ⟨true,bs s,0⟩)):=by
 go_enter Tryz.func287,Tryz.ntmps287
 go_wp2
 go_ret
 refine ⟨⟨_,λ x=>x=w.heap.size,rfl,Ft.one (ay.new _ _ _) (by decide) hB,λ w'' s=>?_⟩,((Fr.refl (λ_=>False) w).alloc _).below⟩
 exact Hp ((ay.new w _ _).sm s rfl)
theorem w_ {B:Nat} {w:World} {f:Value} {D:Nat->Prop} {φ:Tv->Bool} (ft:Ft D B w) (ok:fR D w (λ w=>dh w f φ)) (hB:B<=w.heap.size):Calls Tryz.prog 274 #[f] w (OV B w (λ w f=>dh w f (λ t=>!(φ t)))):=by
 obtain ⟨N,cap,rfl,_,_⟩:=ok.self
 have FT:=aa ft
 have OK:=aa ok
 clear ft ok
 go_enter Tryz.func274,Tryz.ntmps274
 go_wp2
 go_ret
 refine ⟨⟨_,λ x=>D x\/x=w.heap.size,rfl,(FT.out.keep (Sm.alloc FT.out _)).or (Ft.one (ay.new _ _ _) (by decide) hB),λ w'' s=>?_⟩,((Fr.refl (λ_=>False) w).alloc _).below⟩
 exact VQ (OK.out w'' ((Sm.alloc FT.out _).trans (s.less (λ_=>Or.inl)))) ((ay.new w _ _).sm s (Or.inr rfl))
theorem Dm {B:Nat} {w:World} {f:Value} {D:Nat->Prop} {l:List eO} (ft:Ft D B w) (ok:fR D w (λ w=>jf w f l)) (hB:B<=w.heap.size):Calls Tryz.prog 285 #[f] w (OV B w (λ w f=>dh w f (λ t=>(aS t l).isSome))):=by
 obtain ⟨N,cap,rfl,_,_⟩:=ok.self
 have FT:=aa ft
 have OK:=aa ok
 clear ft ok
 go_enter Tryz.func285,Tryz.ntmps285
 go_wp2
 go_ret
 refine ⟨⟨_,λ x=>D x\/x=w.heap.size,rfl,(FT.out.keep (Sm.alloc FT.out _)).or (Ft.one (ay.new _ _ _) (by decide) hB),λ w'' s=>?_⟩,((Fr.refl (λ_=>False) w).alloc _).below⟩
 exact Mc (OK.out w'' ((Sm.alloc FT.out _).trans (s.less (λ_=>Or.inl)))) ((ay.new w _ _).sm s (Or.inr rfl))
theorem nU {B:Nat} {w:World} {f:Value} {D:Nat->Prop} {l:List eO} {bc:Nat} {c:Kt} (ft:Ft D B w) (ok:fR D w (λ w=>jf w f l)) (hB:B<=w.heap.size) (hb:ay w bc (ld (cQ c) (.pointer none) 0 (.slice none 0 0)) 130) (hbc:B<=bc) (hc:qC c) :
 Calls Tryz.prog 282 #[f,.pointer (some ⟨bc,0,none⟩)] w (OV B w (λ w f=>dh w f (λ t=>dP c (aS t l)))):=by
 obtain ⟨N,cap,rfl,_,_⟩:=ok.self
 have FT:=aa ft
 have OK:=aa ok
 have HB:=aa hb
 have HC:=aa hc
 clear ft ok hb hc
 go_enter Tryz.func282,Tryz.ntmps282
 go_wp2
 go_ret
 have s1:∀(o o':Obj),Sm D w ((w.alloc o).alloc o'):=λ o o'=>Sm.fr (K:=λ_=>False) FT.out (((Fr.refl _ w).alloc o).alloc o') (λ_ _ x=>x)
 have b0:=HB.out.alloc (.cells #[.func (.func N) #[] cap] 320) |>.alloc (.cells #[.pointer (some ⟨bc,0,none⟩)] 71)
 have b1:=(ay.new w #[.func (.func N) #[] cap] 320).alloc (.cells #[.pointer (some ⟨bc,0,none⟩)] 71)
 have b2:=ay.new (w.alloc (.cells #[.func (.func N) #[] cap] 320)) #[.pointer (some ⟨bc,0,none⟩)] 71
 have e2:(w.alloc (.cells #[.func (.func N) #[] cap] 320)).heap.size=w.heap.size+1:=by simp
 rw [e2] at b2
 refine ⟨⟨_,λ x=>((D x\/x=w.heap.size)\/x=w.heap.size+1)\/x=bc,rfl,(((FT.out.keep (s1 _ _)).or (Ft.one b1 (by decide) hB)).or (Ft.one b2 (by decide) (by omega))).or (Ft.one b0 (by decide) hbc),λ w'' s=>?_⟩,((Fr.refl (λ_=>False) w).alloc _ |>.alloc _).below⟩
 exact Md (OK.out w'' ((s1 _ _).trans (s.less (λ_ x=>Or.inl (Or.inl (Or.inl x)))))) (b1.sm s (Or.inl (Or.inl (Or.inr rfl)))) (b2.sm s (Or.inl (Or.inr rfl))) (b0.sm s (Or.inr rfl)) HC.out
theorem xg {B:Nat} {w:World} {f:Value} {D:Nat->Prop} {l:List eO} {bc:Nat} {c:Kt} (ft:Ft D B w) (ok:fR D w (λ w=>jf w f l)) (hB:B<=w.heap.size) (hb:ay w bc (ld (cQ c) (.pointer none) 0 (.slice none 0 0)) 130) (hbc:B<=bc) (hc:qC c) :
 Calls Tryz.prog 284 #[f,.pointer (some ⟨bc,0,none⟩)] w (OV B w (λ w f=>dh w f (λ t=>fy c (aS t l)))):=by
 obtain ⟨N,cap,rfl,_,_⟩:=ok.self
 have FT:=aa ft
 have OK:=aa ok
 have HB:=aa hb
 have HC:=aa hc
 clear ft ok hb hc
 go_enter Tryz.func284,Tryz.ntmps284
 go_wp2
 go_ret
 have s1:∀(o o':Obj),Sm D w ((w.alloc o).alloc o'):=λ o o'=>Sm.fr (K:=λ_=>False) FT.out (((Fr.refl _ w).alloc o).alloc o') (λ_ _ x=>x)
 have b0:=HB.out.alloc (.cells #[.func (.func N) #[] cap] 320) |>.alloc (.cells #[.pointer (some ⟨bc,0,none⟩)] 71)
 have b1:=(ay.new w #[.func (.func N) #[] cap] 320).alloc (.cells #[.pointer (some ⟨bc,0,none⟩)] 71)
 have b2:=ay.new (w.alloc (.cells #[.func (.func N) #[] cap] 320)) #[.pointer (some ⟨bc,0,none⟩)] 71
 have e2:(w.alloc (.cells #[.func (.func N) #[] cap] 320)).heap.size=w.heap.size+1:=by simp
 rw [e2] at b2
 refine ⟨⟨_,λ x=>((D x\/x=w.heap.size)\/x=w.heap.size+1)\/x=bc,rfl,(((FT.out.keep (s1 _ _)).or (Ft.one b1 (by decide) hB)).or (Ft.one b2 (by decide) (by omega))).or (Ft.one b0 (by decide) hbc),λ w'' s=>?_⟩,((Fr.refl (λ_=>False) w).alloc _ |>.alloc _).below⟩
 exact Rb (OK.out w'' ((s1 _ _).trans (s.less (λ_ x=>Or.inl (Or.inl (Or.inl x)))))) (b1.sm s (Or.inl (Or.inl (Or.inr rfl)))) (b2.sm s (Or.inl (Or.inr rfl))) (b0.sm s (Or.inr rfl)) HC.out
theorem Row.Hq {T:TypeId} {B:Nat} {P:Nat->World->Value->Prop} {D:Nat->Prop} {sv:Value} {fs:List Value} {w:World} (h:Row T B P D sv fs w) (hT:T≠5):Ft (λ k=>D k\/sv.ownBlock=some k) B w:=by
 refine h.ft.or ⟨λ k hk=>(h.o.lt k hk).1,λ k hk=>?_⟩
 rcases h.o.2 with ⟨x,_⟩ | ⟨k2,cap,cur,x1,_,x3,_⟩
 ·rw [x] at hk; cases hk
 rw [x1] at hk
 have e:k2=k:=Option.some.inj hk
 subst e
 exact ⟨cur,T,_,x3,hT⟩
theorem xj {B:Nat} {w:World} {sv:Value} {fs:List Value} {D:Nat->Prop} {φs:List (Tv->Bool)} (h:Row 237 B (λ i w f=>∀φ,φs[i]?=some φ->dh w f φ) D sv fs w) (hl:φs.length=fs.length) (hj:fs.length<=1000) (hB:B<=w.heap.size):Calls Tryz.prog 257 #[sv] w (OV B w (λ w f=>dh w f (λ t=>φs.any (λ φ=>φ t)))):=by
 obtain ⟨ao,cp,hs⟩:=ah h.o
 obtain ⟨j,jU⟩:∃j,j=fs.length:=⟨_,rfl⟩
 rw [<-jU] at hs
 subst hs
 have H:=aa h
 have HL:=aa hl
 have HJ:=aa hj
 clear h hl hj jU
 go_enter Tryz.func257,Tryz.ntmps257
 go_wp2
 go_ret
 have ft:=H.out.Hq (by decide)
 refine ⟨⟨_,λ x=>(D x\/(.slice ao j cp:Value).ownBlock=some x)\/x=w.heap.size,rfl,(ft.keep (Sm.alloc ft _)).or (Ft.one (ay.new _ _ _) (by decide) hB),λ w'' s=>?_⟩,((Fr.refl (λ_=>False) w).alloc _).below⟩
 have s1:=(Sm.alloc ft _).trans (s.less (λ_=>Or.inl))
 exact VR (bJ H.out.o (λ k hk=>s1 k (Or.inr hk))) HJ.out HL.out (λ i h1 h2=>H.out.ok i h1 w'' (s1.less (λ_=>Or.inl)) _ (List.getElem?_eq_getElem h2)) ((ay.new w _ _).sm s (Or.inr rfl))
theorem Hr {B:Nat} {w:World} {sv:Value} {fs:List Value} {D:Nat->Prop} {φs:List (Tv->Bool)} (h:Row 237 B (λ i w f=>∀φ,φs[i]?=some φ->dh w f φ) D sv fs w) (hl:φs.length=fs.length) (hj:fs.length<=1000) (hB:B<=w.heap.size):Calls Tryz.prog 266 #[sv] w (OV B w (λ w f=>dh w f (λ t=>φs.all (λ φ=>φ t)))):=by
 obtain ⟨ao,cp,hs⟩:=ah h.o
 obtain ⟨j,jU⟩:∃j,j=fs.length:=⟨_,rfl⟩
 rw [<-jU] at hs
 subst hs
 have H:=aa h
 have HL:=aa hl
 have HJ:=aa hj
 clear h hl hj jU
 go_enter Tryz.func266,Tryz.ntmps266
 go_wp2
 go_ret
 have ft:=H.out.Hq (by decide)
 refine ⟨⟨_,λ x=>(D x\/(.slice ao j cp:Value).ownBlock=some x)\/x=w.heap.size,rfl,(ft.keep (Sm.alloc ft _)).or (Ft.one (ay.new _ _ _) (by decide) hB),λ w'' s=>?_⟩,((Fr.refl (λ_=>False) w).alloc _).below⟩
 have s1:=(Sm.alloc ft _).trans (s.less (λ_=>Or.inl))
 exact Rc (bJ H.out.o (λ k hk=>s1 k (Or.inr hk))) HJ.out HL.out (λ i h1 h2=>H.out.ok i h1 w'' (s1.less (λ_=>Or.inl)) _ (List.getElem?_eq_getElem h2)) ((ay.new w _ _).sm s (Or.inr rfl))
theorem Hs {B:Nat} {w:World} {sv:Value} {fs:List Value} {D:Nat->Prop} {l:List eO} (h:Row 320 B (λ i w f=>∀st,l[i]?=some st->je w f st) D sv fs w) (hl:l.length=fs.length) (hj:fs.length<=1000) (hB:B<=w.heap.size):Calls Tryz.prog 276 #[sv] w (OV B w (λ w f=>jf w f l)):=by
 obtain ⟨ao,cp,hs⟩:=ah h.o
 obtain ⟨j,jU⟩:∃j,j=fs.length:=⟨_,rfl⟩
 rw [<-jU] at hs
 subst hs
 have H:=aa h
 have HL:=aa hl
 have HJ:=aa hj
 clear h hl hj jU
 go_enter Tryz.func276,Tryz.ntmps276
 go_wp2
 go_ret
 have ft:=H.out.Hq (by decide)
 refine ⟨⟨_,λ x=>(D x\/(.slice ao j cp:Value).ownBlock=some x)\/x=w.heap.size,rfl,(ft.keep (Sm.alloc ft _)).or (Ft.one (ay.new _ _ _) (by decide) hB),λ w'' s=>?_⟩,((Fr.refl (λ_=>False) w).alloc _).below⟩
 have s1:=(Sm.alloc ft _).trans (s.less (λ_=>Or.inl))
 exact Re (bJ H.out.o (λ k hk=>s1 k (Or.inr hk))) HJ.out HL.out (λ i h1 h2=>H.out.ok i h1 w'' (s1.less (λ_=>Or.inl)) _ (List.getElem?_eq_getElem h2)) ((ay.new w _ _).sm s (Or.inr rfl))
end Go.Proofs.YtcbadebjpogmlaaGreatDoor
