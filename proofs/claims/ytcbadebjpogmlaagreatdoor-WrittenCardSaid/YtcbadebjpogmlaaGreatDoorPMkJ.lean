import Derived.Test.YtcbadebjpogmlaaGreatDoorPMkA
import Derived.Test.YtcbadebjpogmlaaGreatDoorPVa
import Derived.Test.YtcbadebjpogmlaaGreatDoorPVf
namespace Go.Proofs.YtcbadebjpogmlaaGreatDoor
open Go.RowKit Tr
theorem c_no {w0 w:World} {g:Nat} {q:ByteArray} {a:Nat} {p v:Value} {n:Nat} (h:Qt g q p v n w0 a w) (hq:q.size≤1000) (sign:ByteArray) (ht:tk q a sign=false) :
 Calls Tryz.prog 85 #[.pointer (some ⟨g,0,none⟩),.string sign] w fun r w'=>r=.returned (.bool false)∧Qt g q p v n w0 a w':=by
 refine (c_takes h hq sign).mono ?_
 rintro r w' ⟨rfl,h1⟩
 rw [ht] at h1 ⊢
 exact ⟨rfl,h1⟩
theorem c_yes {w0 w:World} {g:Nat} {q:ByteArray} {a:Nat} {p v:Value} {n:Nat} (h:Qt g q p v n w0 a w) (hq:q.size≤1000) (sign:ByteArray) (ht:tk q a sign=true) (b:Nat) (hb:b=a+sign.size) :
 Calls Tryz.prog 85 #[.pointer (some ⟨g,0,none⟩),.string sign] w fun r w'=>r=.returned (.bool true)∧Qt g q p v n w0 b w':=by
 refine (c_takes h hq sign).mono ?_
 rintro r w' ⟨rfl,h1⟩
 rw [ht] at h1 ⊢
 rw [hb]
 exact ⟨rfl,h1⟩
theorem Qt.alloc {g:Nat} {q:ByteArray} {p v:Value} {n:Nat} {w0 w:World} {a:Nat} (h:Qt g q p v n w0 a w) (o:Obj):Qt g q p v n w0 a (w.alloc o):=⟨h.b.alloc o,h.f.alloc o,h.le⟩
def CnP (g:Nat) (q:ByteArray) (p v:Value) (n:Nat) (w0:World) (a:Nat) (cs:Array Value) (r:Ending) (w':World):Prop:=(∃b,r=.returned (.pointer (some ⟨b,0,none⟩))∧w0.heap.size≤b∧Blk w' b cs 130)∧Qt g q p v n w0 a w'
def kcl (k:Int) (m:Int) (s:ByteArray):Array Value:=#[.int .i64 k,.int .i64 0,.int .i64 0,.int .i64 m,.string s,.pointer none,.int .i64 0,.string ⟨#[]⟩,.slice none 0 0]
theorem RunP.val18 {q:ByteArray} {a k:Nat} (h:RunP isDig q a k) (hk:k≤a+18):cVal (bs q) a k<1000000000000000000:=by
 have:=dvT_lt (s:=bs q) (a:=a) (k - a) (fun i h1 h2=>h.all i h1 (by have:=h.ge; omega))
 have e:(10:Nat) ^ (k - a)≤10 ^ 18:=Nat.pow_le_pow_right (by omega) (by omega)
 unfold cVal
 omega
theorem cVal_if (s:List UInt8) (a k:Nat):(if k=a then (0:Int) else ((cVal s a k:Nat):Int))=((cVal s a k:Nat):Int):=by
 split
 ·rename_i h; rw [h]; simp [cVal,dvT]
 rfl
set_option maxHeartbeats 1000000 in
theorem cn_true {w0 w:World} {g:Nat} {q:ByteArray} {a:Nat} {p v:Value} {n:Nat} (h:Qt g q p v n w0 a w) (hq:q.size≤1000) (T0:tk q a ⟨#[116,114,117,101]⟩=true) :
 Calls Tryz.prog 283 #[.pointer (some ⟨g,0,none⟩)] w (CnP g q p v n w0 (a+4) (kcl 2 0 ⟨#[]⟩)):=by
 have H:=hide h
 clear h
 go_enter Tryz.func283,Tryz.ntmps283
 go_wp2_with fail
 refine (c_yes H.out hq _ T0 (a+4) rfl).mono ?_
 rintro r w1 ⟨rfl,h1⟩
 clear H
 have H:=hide h1
 clear h1
 go_wp2
 go_ret
 exact ⟨⟨_,rfl,H.out.f.size,Blk.new _ _ _⟩,H.out.alloc _⟩
set_option maxHeartbeats 1000000 in
theorem cn_false {w0 w:World} {g:Nat} {q:ByteArray} {a:Nat} {p v:Value} {n:Nat} (h:Qt g q p v n w0 a w) (hq:q.size≤1000) (T0:tk q a ⟨#[116,114,117,101]⟩=false) (T1:tk q a ⟨#[102,97,108,115,101]⟩=true) :
 Calls Tryz.prog 283 #[.pointer (some ⟨g,0,none⟩)] w (CnP g q p v n w0 (a+5) (kcl 1 0 ⟨#[]⟩)):=by
 have H:=hide h
 clear h
 go_enter Tryz.func283,Tryz.ntmps283
 go_wp2_with fail
 refine (c_no H.out hq _ T0).mono ?_
 rintro r w1 ⟨rfl,h1⟩
 clear H
 have H:=hide h1
 clear h1
 go_wp2_with fail
 refine (c_yes H.out hq _ T1 (a+5) rfl).mono ?_
 rintro r w1 ⟨rfl,h1⟩
 clear H
 have H:=hide h1
 clear h1
 go_wp2
 go_ret
 exact ⟨⟨_,rfl,H.out.f.size,Blk.new _ _ _⟩,H.out.alloc _⟩
set_option maxHeartbeats 1000000 in
theorem cn_null {w0 w:World} {g:Nat} {q:ByteArray} {a:Nat} {p v:Value} {n:Nat} (h:Qt g q p v n w0 a w) (hq:q.size≤1000) (T0:tk q a ⟨#[116,114,117,101]⟩=false) (T1:tk q a ⟨#[102,97,108,115,101]⟩=false) (T2:tk q a ⟨#[110,117,108,108]⟩=true) :
 Calls Tryz.prog 283 #[.pointer (some ⟨g,0,none⟩)] w (CnP g q p v n w0 (a+4) (kcl 0 0 ⟨#[]⟩)):=by
 have H:=hide h
 clear h
 go_enter Tryz.func283,Tryz.ntmps283
 go_wp2_with fail
 refine (c_no H.out hq _ T0).mono ?_
 rintro r w1 ⟨rfl,h1⟩
 clear H
 have H:=hide h1
 clear h1
 go_wp2_with fail
 refine (c_no H.out hq _ T1).mono ?_
 rintro r w1 ⟨rfl,h1⟩
 clear H
 have H:=hide h1
 clear h1
 go_wp2_with fail
 refine (c_yes H.out hq _ T2 (a+4) rfl).mono ?_
 rintro r w1 ⟨rfl,h1⟩
 clear H
 have H:=hide h1
 clear h1
 go_wp2
 go_ret
 exact ⟨⟨_,rfl,H.out.f.size,Blk.new _ _ _⟩,H.out.alloc _⟩
set_option maxHeartbeats 1000000 in
theorem cn_quote {w0 w:World} {g:Nat} {q:ByteArray} {a:Nat} {p v:Value} {n:Nat} (h:Qt g q p v n w0 a w) (hq:q.size≤1000) (T0:tk q a ⟨#[116,114,117,101]⟩=false) (T1:tk q a ⟨#[102,97,108,115,101]⟩=false) (T2:tk q a ⟨#[110,117,108,108]⟩=false) (T3:tk q a ⟨#[39]⟩=true) :
 Calls Tryz.prog 283 #[.pointer (some ⟨g,0,none⟩)] w (fun r w'=>∃k,RunP isQuo q (a+1) k∧CnP g q p v n w0 (if tk q k ⟨#[39]⟩ then k+1 else k) (kcl 4 0 (q.extract (a+1) k)) r w'):=by
 have H:=hide h
 clear h
 go_enter Tryz.func283,Tryz.ntmps283
 go_wp2_with fail
 refine (c_no H.out hq _ T0).mono ?_
 rintro r w1 ⟨rfl,h1⟩
 clear H
 have H:=hide h1
 clear h1
 go_wp2_with fail
 refine (c_no H.out hq _ T1).mono ?_
 rintro r w1 ⟨rfl,h1⟩
 clear H
 have H:=hide h1
 clear h1
 go_wp2_with fail
 refine (c_no H.out hq _ T2).mono ?_
 rintro r w1 ⟨rfl,h1⟩
 clear H
 have H:=hide h1
 clear h1
 go_wp2_with fail
 refine (c_yes H.out hq _ T3 (a+1) rfl).mono ?_
 rintro r w1 ⟨rfl,h1⟩
 clear H
 have H:=hide h1
 clear h1
 go_wp2_with fail
 refine (c_quoted H.out hq).mono ?_
 rintro r w1 ⟨k,hk,rfl,h1⟩
 have HK:=hide hk
 clear H hk
 have H:=hide h1
 clear h1
 go_wp2
 go_ret
 exact ⟨k,HK.out,⟨_,rfl,H.out.f.size,Blk.new _ _ _⟩,H.out.alloc _⟩
set_option maxHeartbeats 1000000 in
theorem cn_minus {w0 w:World} {g:Nat} {q:ByteArray} {a:Nat} {p v:Value} {n:Nat} (h:Qt g q p v n w0 a w) (hq:q.size≤1000) (T0:tk q a ⟨#[116,114,117,101]⟩=false) (T1:tk q a ⟨#[102,97,108,115,101]⟩=false) (T2:tk q a ⟨#[110,117,108,108]⟩=false) (T3:tk q a ⟨#[39]⟩=false) (T4:tk q a ⟨#[45]⟩=true) (he:Er g w0) (h18:∀k,RunP isDig q (a+1) k→k≤a+1+18) :
 Calls Tryz.prog 283 #[.pointer (some ⟨g,0,none⟩)] w (fun r w'=>∃k,RunP isDig q (a+1) k∧CnP g q p v n w0 k (kcl 3 (-((cVal (bs q) (a+1) k:Nat):Int)) ⟨#[]⟩) r w'):=by
 have H:=hide h
 have HE:=hide he
 have H18:=hide h18
 clear he h18
 clear h
 go_enter Tryz.func283,Tryz.ntmps283
 go_wp2_with fail
 refine (c_no H.out hq _ T0).mono ?_
 rintro r w1 ⟨rfl,h1⟩
 clear H
 have H:=hide h1
 clear h1
 go_wp2_with fail
 refine (c_no H.out hq _ T1).mono ?_
 rintro r w1 ⟨rfl,h1⟩
 clear H
 have H:=hide h1
 clear h1
 go_wp2_with fail
 refine (c_no H.out hq _ T2).mono ?_
 rintro r w1 ⟨rfl,h1⟩
 clear H
 have H:=hide h1
 clear h1
 go_wp2_with fail
 refine (c_no H.out hq _ T3).mono ?_
 rintro r w1 ⟨rfl,h1⟩
 clear H
 have H:=hide h1
 clear h1
 go_wp2_with fail
 refine (c_yes H.out hq _ T4 (a+1) rfl).mono ?_
 rintro r w1 ⟨rfl,h1⟩
 clear H
 have H:=hide h1
 clear h1
 go_wp2_with fail
 refine (k_count H.out hq HE.out H18.out _).mono ?_
 rintro r w1 ⟨k,m,⟨hk,hm⟩,rfl,h1⟩
 rw [cVal_if] at hm
 subst hm
 have hv18:=hk.val18 (H18.out k hk)
 have HK:=hide hk
 clear H hk
 obtain ⟨m,hmm⟩:∃m,m=cVal (bs q) (a+1) k:=⟨_,rfl⟩
 rw [← hmm] at hv18 ⊢
 have HMM:=hide hmm
 clear hmm
 have hwr:IntKind.i64.wrap (-(m:Int))=-(m:Int):=IntWalk.i64_in _ (by omega)
 have H:=hide h1
 clear h1
 go_wp2
 go_ret
 exact ⟨k,HK.out,⟨_,rfl,H.out.f.size,by rw [← HMM.out]; exact Blk.new _ _ _⟩,H.out.alloc _⟩
set_option maxHeartbeats 1000000 in
theorem cn_plain {w0 w:World} {g:Nat} {q:ByteArray} {a:Nat} {p v:Value} {n:Nat} (h:Qt g q p v n w0 a w) (hq:q.size≤1000) (T0:tk q a ⟨#[116,114,117,101]⟩=false) (T1:tk q a ⟨#[102,97,108,115,101]⟩=false) (T2:tk q a ⟨#[110,117,108,108]⟩=false) (T3:tk q a ⟨#[39]⟩=false) (T4:tk q a ⟨#[45]⟩=false) (he:Er g w0) (h18:∀k,RunP isDig q a k→k≤a+18) :
 Calls Tryz.prog 283 #[.pointer (some ⟨g,0,none⟩)] w (fun r w'=>∃k,RunP isDig q a k∧CnP g q p v n w0 k (kcl 3 ((cVal (bs q) a k:Nat):Int) ⟨#[]⟩) r w'):=by
 have H:=hide h
 have HE:=hide he
 have H18:=hide h18
 clear he h18
 clear h
 go_enter Tryz.func283,Tryz.ntmps283
 go_wp2_with fail
 refine (c_no H.out hq _ T0).mono ?_
 rintro r w1 ⟨rfl,h1⟩
 clear H
 have H:=hide h1
 clear h1
 go_wp2_with fail
 refine (c_no H.out hq _ T1).mono ?_
 rintro r w1 ⟨rfl,h1⟩
 clear H
 have H:=hide h1
 clear h1
 go_wp2_with fail
 refine (c_no H.out hq _ T2).mono ?_
 rintro r w1 ⟨rfl,h1⟩
 clear H
 have H:=hide h1
 clear h1
 go_wp2_with fail
 refine (c_no H.out hq _ T3).mono ?_
 rintro r w1 ⟨rfl,h1⟩
 clear H
 have H:=hide h1
 clear h1
 go_wp2_with fail
 refine (c_no H.out hq _ T4).mono ?_
 rintro r w1 ⟨rfl,h1⟩
 clear H
 have H:=hide h1
 clear h1
 go_wp2_with fail
 refine (k_count H.out hq HE.out H18.out _).mono ?_
 rintro r w1 ⟨k,m,⟨hk,hm⟩,rfl,h1⟩
 rw [cVal_if] at hm
 subst hm
 have HK:=hide hk
 clear H hk
 have H:=hide h1
 clear h1
 go_wp2
 go_ret
 exact ⟨k,HK.out,⟨_,rfl,H.out.f.size,Blk.new _ _ _⟩,H.out.alloc _⟩
end Go.Proofs.YtcbadebjpogmlaaGreatDoor
namespace Go.Proofs.YtcbadebjpogmlaaGreatDoor
open Go.RowKit Tr
theorem tk_ne {q:ByteArray} {t:St} {sign:ByteArray} {c:Nat} {l:List Nat} (he:t.e=0) (hs:nb sign=c::l) (h:sees (bs q) t c=false):tk q t.p sign=false:=by
 rw [tk_pfx,hs]
 have:(bt (bs q) t.p == c)=false:=by simpa [sees,he] using h
 simp [pfx,this]
theorem tk_must {q:ByteArray} {t:St} {sign:ByteArray} (h:(must (bs q) t (nb sign)).e=0):tk q t.p sign=true∧must (bs q) t (nb sign)={ t with p:=t.p+sign.size }:=by
 obtain ⟨_,h2,h3⟩:=must_e h
 rw [nb_len] at h3
 exact ⟨by rw [tk_pfx]; exact h2,h3⟩
def CnM (g:Nat) (q:ByteArray) (p v:Value) (n:Nat) (w0:World) (q0 c X:Nat) (o:List UInt8) (d:Nat) (a:Nat) (r:Ending) (w':World):Prop :=
 ∃t' kt,Live (bs q) q0 c X o d t'∧pConst (bs q) a=⟨kt,t'.p⟩∧KOk kt∧CnP g q p v n w0 t'.p (pcl (kDat kt) (.pointer none) 0 (.slice none 0 0)) r w'
theorem kc_true:kcl 2 0 ⟨#[]⟩=pcl (kDat ⟨3,0,wTrue⟩) (.pointer none) 0 (.slice none 0 0):=by rfl
theorem kc_false:kcl 1 0 ⟨#[]⟩=pcl (kDat ⟨3,0,wFalse⟩) (.pointer none) 0 (.slice none 0 0):=by rfl
theorem kc_null:kcl 0 0 ⟨#[]⟩=pcl (kDat ⟨3,0,wNull⟩) (.pointer none) 0 (.slice none 0 0):=by rfl
theorem kc_num (m:Int):kcl 3 m ⟨#[]⟩=pcl (kDat ⟨1,m,[]⟩) (.pointer none) 0 (.slice none 0 0):=by rfl
theorem bsb_bs (q:ByteArray):bsb (bs q)=q:=by
 unfold bsb bs
 exact congrArg ByteArray.mk Array.toArray_toList
theorem kc_str {q:ByteArray} {l:List UInt8} (h:bs q=l) (hl:l.length≤8):kcl 4 0 q=pcl (kDat ⟨2,0,l⟩) (.pointer none) 0 (.slice none 0 0):=by
 have e:ptx (kDat ⟨2,0,l⟩)=l:=by simp only [ptx,kDat,if_true]; exact List.take_of_length_le (by omega)
 unfold pcl
 rw [e,← h,bsb_bs]
 rfl
theorem KOk.num (m:Int):KOk ⟨1,m,[]⟩:=⟨Or.inl rfl,(fun h=>by cases h),fun _=>rfl,(fun h=>by rcases h with h | h<;>cases h),by show 0≤8; decide⟩
theorem KOk.word {l:List UInt8} (h:l=wTrue∨l=wFalse∨l=wNull):KOk ⟨3,0,l⟩:=⟨Or.inr (Or.inr rfl),fun _=>h,(fun h=>by cases h),fun _=>rfl,by rcases h with rfl | rfl | rfl<;>decide⟩
theorem KOk.str {l:List UInt8} (h:l.length≤8):KOk ⟨2,0,l⟩:=⟨Or.inr (Or.inl rfl),(fun h=>by cases h),(fun h=>by cases h),fun _=>rfl,h⟩
theorem sees_b {s:List UInt8} {t:St} {b:Nat} (h:sees s t b=true):bt s t.p=b:=(sees_e h).2
theorem sees_nb {s:List UInt8} {t:St} {b:Nat} (he:t.e=0) (h:sees s t b=false):bt s t.p≠b:=by simpa [sees,he] using h
theorem quote_le {q:ByteArray} {t:St} {k:Nat} (h:must1 (bs q) (runP isQuo (bs q) 8 t) 39={ t with p:=k+1 }) (he:t.e=0):k≤t.p+8:=by
 have h1:=congrArg St.p h
 have e1:(runP isQuo (bs q) 8 t)={ t with p:=run isQuo (bs q) 8 t.p }:=by unfold runP; rw [if_pos he]
 rw [e1] at h1
 have h3:=run_le isQuo (bs q) 8 t.p
 unfold must1 at h1
 split at h1
 ·simp [adv] at h1; omega
 unfold wrong at h1; split at h1<;>simp at h1<;>omega
theorem sub_len (s:List UInt8) (a b:Nat):(sub s a b).length≤b - a:=by unfold sub; exact List.length_take_le _ _
theorem k_constant {w0 w:World} {g:Nat} {q:ByteArray} {p v:Value} {n:Nat} (hq:q.size≤1000) (hf:FinP (bs q)) (he:Er g w0) {q0 c d:Nat} {o:List UInt8} {t:St} (hok:Live (bs q) q0 c 17 o d t) (h:Qt g q p v n w0 t.p w) :
 Calls Tryz.prog 283 #[.pointer (some ⟨g,0,none⟩)] w (CnM g q p v n w0 q0 c 18 o d t.p):=by
 have e0:=hok.e0
 have word:∀(x a:UInt8) (l:List UInt8) (sign:ByteArray),nb sign=(x::a::l).map UInt8.toNat→sees (bs q) t x.toNat=true→nx (cS 17 o) x.toNat=⟨24,18,0,a::l,o⟩ →
  tk q t.p sign=true∧Live (bs q) q0 c 18 o d { t with p:=t.p+sign.size }:=by
  intro x a l sign hs hx hn
  have h1:=fin_live hf (ok_cword x a l (Or.inl hok) hx hn)
  rw [← hs] at h1
  obtain ⟨h2,h3⟩:=tk_must h1.e0
  rw [h3] at h1
  exact ⟨h2,h1⟩
 by_cases h1:sees (bs q) t 116=true
 ·obtain ⟨a1,a2⟩:=word 116 114 [117,101] ⟨#[116,114,117,101]⟩ rfl h1 (by rw [show (116:UInt8).toNat=116 from rfl,nx17 (by decide)]; rfl)
  exact (kc_true▸cn_true h hq a1).mono (fun r w' hr=>⟨_,_,a2,by unfold pConst; rw [if_pos (sees_b h1)]; rfl,KOk.word (Or.inl rfl),hr⟩)
 have h1:sees (bs q) t 116=false:=by simpa using h1
 have T0:=tk_ne (sign:=⟨#[116,114,117,101]⟩) e0 rfl h1
 by_cases h2:sees (bs q) t 102=true
 ·obtain ⟨a1,a2⟩:=word 102 97 [108,115,101] ⟨#[102,97,108,115,101]⟩ rfl h2 (by rw [show (102:UInt8).toNat=102 from rfl,nx17 (by decide)]; rfl)
  exact (kc_false▸cn_false h hq T0 a1).mono (fun r w' hr=>⟨_,_,a2,by unfold pConst; rw [if_neg (sees_nb e0 h1),if_pos (sees_b h2)]; rfl,KOk.word (Or.inr (Or.inl rfl)),hr⟩)
 have h2:sees (bs q) t 102=false:=by simpa using h2
 have T1:=tk_ne (sign:=⟨#[102,97,108,115,101]⟩) e0 rfl h2
 by_cases h3:sees (bs q) t 110=true
 ·obtain ⟨a1,a2⟩:=word 110 117 [108,108] ⟨#[110,117,108,108]⟩ rfl h3 (by rw [show (110:UInt8).toNat=110 from rfl,nx17 (by decide)]; rfl)
  exact (kc_null▸cn_null h hq T0 T1 a1).mono (fun r w' hr=>⟨_,_,a2,by unfold pConst; rw [if_neg (sees_nb e0 h1),if_neg (sees_nb e0 h2),if_pos (sees_b h3)]; rfl,KOk.word (Or.inr (Or.inr rfl)),hr⟩)
 have h3:sees (bs q) t 110=false:=by simpa using h3
 have T2:=tk_ne (sign:=⟨#[110,117,108,108]⟩) e0 rfl h3
 by_cases h4:sees (bs q) t 39=true
 ·have a1:=fin_live hf (ok_cquote (Or.inl hok) h4)
  have e1:must1 (bs q) t 39=adv t:=by unfold must1; rw [if_pos h4]
  unfold quoteP at a1
  rw [e1] at a1
  have T3:tk q t.p ⟨#[39]⟩=true:=(tk1 q e0 39).trans h4
  refine (cn_quote h hq T0 T1 T2 T3).mono ?_
  rintro r w' ⟨k,hk,hr⟩
  obtain ⟨b1,b2⟩:=quote_eq (t:=adv t) a1.e0 hk
  rw [b2,if_pos rfl] at hr
  have hle:=quote_le b1 e0
  rw [b1] at a1
  have hsl:=sub_len (bs q) (t.p+1) k
  have ha:(adv t).p=t.p+1:=rfl
  rw [kc_str (bs_extract q (t.p+1) k) (by omega)] at hr
  refine ⟨_,_,a1,?_,KOk.str (by omega),hr⟩
  unfold pConst
  rw [if_neg (sees_nb e0 h1),if_neg (sees_nb e0 h2),if_neg (sees_nb e0 h3),if_pos (sees_b h4),hk.eq (by decide)]
 have h4:sees (bs q) t 39=false:=by simpa using h4
 have T3:=tk_ne (sign:=⟨#[39]⟩) e0 rfl h4
 have a1:=fin_live hf (ok_ccount (Or.inl hok) h4 h1 h2 h3)
 unfold countP minusP at a1
 simp only [if_true,Bool.true_and] at a1
 by_cases h5:sees (bs q) t 45=true
 ·have e1:has (bs q) t 45=adv t:=by unfold has; rw [if_pos h5]
  rw [e1] at a1
  have T4:tk q t.p ⟨#[45]⟩=true:=(tk1 q e0 45).trans h5
  refine (cn_minus h hq T0 T1 T2 T3 T4 he (fun k hk=>?_)).mono ?_
  ·have:=(cnt_eq hf (t:=adv t) e0 a1 (Or.inr (Or.inr (Or.inr rfl))) hk).2
   simp only [adv] at this
   omega
  rintro r w' ⟨k,hk,hr⟩
  rw [(cnt_eq hf (t:=adv t) e0 a1 (Or.inr (Or.inr (Or.inr rfl))) hk).1] at a1
  rw [kc_num] at hr
  refine ⟨_,_,a1,?_,KOk.num _,hr⟩
  unfold pConst
  rw [if_neg (sees_nb e0 h1),if_neg (sees_nb e0 h2),if_neg (sees_nb e0 h3),if_neg (sees_nb e0 h4),if_pos (sees_b h5),hk.eq (by decide)]
 have h5:sees (bs q) t 45=false:=by simpa using h5
 have e1:has (bs q) t 45=t:=by unfold has; rw [if_neg (by rw [h5]; decide)]
 rw [e1] at a1
 have T4:=tk_ne (sign:=⟨#[45]⟩) e0 rfl h5
 refine (cn_plain h hq T0 T1 T2 T3 T4 he (fun k hk=>?_)).mono ?_
 ·have:=(cnt_eq hf e0 a1 (Or.inr (Or.inr (Or.inr rfl))) hk).2
  omega
 rintro r w' ⟨k,hk,hr⟩
 rw [(cnt_eq hf e0 a1 (Or.inr (Or.inr (Or.inr rfl))) hk).1] at a1
 rw [kc_num] at hr
 refine ⟨_,_,a1,?_,KOk.num _,hr⟩
 unfold pConst
 rw [if_neg (sees_nb e0 h1),if_neg (sees_nb e0 h2),if_neg (sees_nb e0 h3),if_neg (sees_nb e0 h4),if_neg (sees_nb e0 h5),hk.eq (by decide)]
end Go.Proofs.YtcbadebjpogmlaaGreatDoor
namespace Go.Proofs.YtcbadebjpogmlaaGreatDoor
open Go.RowKit Tr
theorem cnt_eq2 {q:ByteArray} {t:St} {m:Bool} (he:t.e=0) (he0:(countQ (bs q) t m).e=0) (hnd:isDig (bt (bs q) (countQ (bs q) t m).p)=false)
 {k:Nat} (hk:RunP isDig q t.p k):countQ (bs q) t m={ t with p:=k }∧k≤t.p+3:=by
 unfold countQ at hnd he0 ⊢
 split at hnd
 ·rename_i hc
  rw [if_pos hc] at he0
  simp [wrong,he] at he0
 rename_i hc
 rw [if_neg hc] at he0
 rw [if_neg hc]
 have hd:isDig (bt (bs q) t.p)=true:=by
  simp only [not_or] at hc
  have:=hc.1
  simpa [digit,he] using this
 split at hnd
 ·rename_i h48
  rw [if_pos h48]
  have e1:run isDig (bs q) 1 t.p=t.p+1:=by simp [run,hd]
  have:=run_of (K:=1) hk (by decide) (by rw [e1]; exact hnd)
  rw [e1] at this
  subst this
  exact ⟨rfl,by omega⟩
 rename_i h48
 rw [if_neg h48]
 have e1:(runP isDig (bs q) 3 t)={ t with p:=run isDig (bs q) 3 t.p }:=by unfold runP; rw [if_pos he]
 rw [e1] at hnd ⊢
 have:=run_of (K:=3) hk (by decide) hnd
 have h3:=run_le isDig (bs q) 3 t.p
 rw [this] at h3 ⊢
 exact ⟨rfl,h3⟩
def FnP (g:Nat) (q:ByteArray) (p v:Value) (n:Nat) (w0:World) (a:Nat) (P:World→Value→Prop) (r:Ending) (w':World):Prop:=(∃f D,r=.returned f∧Ft D w0.heap.size w'∧OkD D w' (fun w''=>P w'' f))∧Qt g q p v n w0 a w'
theorem cnt_head {s:List UInt8} {t:St} {m:Bool} (he:t.e=0) (h0:(countQ s t m).e=0):isDig (bt s t.p)=true∧(m=true→bt s t.p≠48):=by
 unfold countQ at h0
 split at h0
 ·simp [wrong,he] at h0
 rename_i hc
 simp only [not_or,not_and] at hc
 refine ⟨by have:=hc.1; simpa [digit,he] using this,fun hm x=>?_⟩
 have:=hc.2 hm
 simp [sees,he,x] at this
set_option maxHeartbeats 1000000 in
theorem el_minus {w0 w:World} {g:Nat} {q:ByteArray} {a:Nat} {p v:Value} {n:Nat} (h:Qt g q p v n w0 a w) (hq:q.size≤1000) (T0:tk q a ⟨#[45]⟩=true) (he:Er g w0) (h18:∀k,RunP isDig q (a+1) k→k≤a+1+18) :
 Calls Tryz.prog 288 #[.pointer (some ⟨g,0,none⟩)] w (fun r w'=>∃k,RunP isDig q (a+1) k∧(0<cVal (bs q) (a+1) k∧cVal (bs q) (a+1) k≤1000→FnP g q p v n w0 k (fun w f=>StepV w f ⟨false,[],-(cVal (bs q) (a+1) k:Int)⟩) r w')):=by
 have H:=hide h
 have HE:=hide he
 have H18:=hide h18
 clear he h18
 clear h
 go_enter Tryz.func288,Tryz.ntmps288
 go_wp2_with fail
 refine (c_yes H.out hq _ T0 (a+1) rfl).mono ?_
 rintro r w1 ⟨rfl,h1⟩
 clear H
 have H:=hide h1
 clear h1
 go_wp2_with fail
 refine (k_count H.out hq HE.out H18.out _).mono ?_
 rintro r w1 ⟨k,m,⟨hk,hm⟩,rfl,h1⟩
 rw [cVal_if] at hm
 subst hm
 have HK:=hide hk
 clear H hk
 have H:=hide h1
 clear h1
 go_wp2
 go_ret
 refine ⟨k,HK.out,fun hb=>⟨⟨_,fun x=>x=w1.heap.size,rfl,Ft.one (Blk.new _ _ _) (by decide) H.out.f.size,fun w'' s=>?_⟩,H.out.alloc _⟩⟩
 exact v_elemEnd hb ((Blk.new w1 _ _).sm s rfl)
set_option maxHeartbeats 1000000 in
theorem el_plain {w0 w:World} {g:Nat} {q:ByteArray} {a:Nat} {p v:Value} {n:Nat} (h:Qt g q p v n w0 a w) (hq:q.size≤1000) (T0:tk q a ⟨#[45]⟩=false) (he:Er g w0) (h18:∀k,RunP isDig q a k→k≤a+18) :
 Calls Tryz.prog 288 #[.pointer (some ⟨g,0,none⟩)] w (fun r w'=>∃k,RunP isDig q a k∧FnP g q p v n w0 k (fun w f=>StepV w f ⟨false,[],(cVal (bs q) a k:Int)⟩) r w'):=by
 have H:=hide h
 have HE:=hide he
 have H18:=hide h18
 clear he h18
 clear h
 go_enter Tryz.func288,Tryz.ntmps288
 go_wp2_with fail
 refine (c_no H.out hq _ T0).mono ?_
 rintro r w1 ⟨rfl,h1⟩
 clear H
 have H:=hide h1
 clear h1
 go_wp2_with fail
 refine (k_count H.out hq HE.out H18.out _).mono ?_
 rintro r w1 ⟨k,m,⟨hk,hm⟩,rfl,h1⟩
 rw [cVal_if] at hm
 subst hm
 have HK:=hide hk
 clear H hk
 have H:=hide h1
 clear h1
 go_wp2
 go_ret
 refine ⟨k,HK.out,⟨_,fun x=>x=w1.heap.size,rfl,Ft.one (Blk.new _ _ _) (by decide) H.out.f.size,fun w'' s=>?_⟩,H.out.alloc _⟩
 exact v_elem ((Blk.new w1 _ _).sm s rfl)
end Go.Proofs.YtcbadebjpogmlaaGreatDoor
namespace Go.Proofs.YtcbadebjpogmlaaGreatDoor
open Go.RowKit Tr
theorem k_element {w0 w:World} {g:Nat} {q:ByteArray} {p v:Value} {n:Nat} (hq:q.size≤1000) (hf:FinP (bs q)) (he:Er g w0) {q0 c d:Nat} {o:List UInt8} {t:St} (hok:Live (bs q) q0 c 11 o d t) (hb:sees (bs q) t 91=true) (h:Qt g q p v n w0 (t.p+1) w) :
 Calls Tryz.prog 288 #[.pointer (some ⟨g,0,none⟩)] w (fun r w'=>∃k,t.p<k∧tk q k ⟨#[93]⟩=true∧Live (bs q) q0 c 11 o d { t with p:=k+1 }∧∃st,FnP g q p v n w0 k (fun w f=>StepV w f st) r w'∧∀m l,pSteps (bs q) (m+1) t.p l=pSteps (bs q) m (k+1) (l++[st])):=by
 have e0:=hok.e0
 have a1:=fin_live hf (ok_idx (Or.inl hok) hb)
 obtain ⟨s1,s2⟩:=must1_e a1.e0
 rw [s2] at a1
 obtain ⟨s3,s4⟩:=sees_e s1
 unfold countP minusP at a1 s1 s3 s4
 simp only [if_true,Bool.true_and] at a1 s1 s3 s4
 by_cases h5:sees (bs q) (adv t) 45=true
 ·have e1:has (bs q) (adv t) 45=adv (adv t):=by unfold has; rw [if_pos h5]
  rw [e1] at a1 s1 s3 s4
  have T0:tk q (t.p+1) ⟨#[45]⟩=true:=(tk1 q (t:=adv t) e0 45).trans h5
  have fact:∀k,RunP isDig q (t.p+1+1) k→_:=fun k hk=>cnt_eq2 (t:=adv (adv t)) e0 s3 (by rw [s4]; decide) hk
  refine (el_minus h hq T0 he (fun k hk=>?_)).mono ?_
  ·have:=(fact k hk).2
   simp only [adv] at this
   omega
  rintro r w' ⟨k,hk,hr⟩
  have f1:=(fact k hk).1
  have f2:=(fact k hk).2
  have hd:=cnt_head (t:=adv (adv t)) e0 s3
  rw [f1] at a1 s1
  have hge:=hk.ge
  have hlt:t.p+1+1<k:=by
   rcases Nat.lt_or_ge (t.p+1+1) k with x | x
   ·exact x
   exfalso
   have hkk:k=t.p+1+1:=by omega
   have:=(sees_e s1).2
   simp only at this
   rw [hkk] at this
   have h2:=hd.1
   rw [show (adv (adv t)).p=t.p+1+1 from rfl,this] at h2
   exact absurd h2 (by decide)
  refine ⟨k,by omega,(tk1 q (t:={ adv (adv t) with p:=k }) e0 93).trans s1,a1,_,hr ⟨hk.pos hlt (hd.2 h5),by have:=hk.val f2; omega⟩,fun m l=>?_⟩
  rw [pSteps,if_neg (by rw [(sees_e hb).2]; decide),if_pos (sees_e hb).2,if_pos (show bt (bs q) (t.p+1)=45 from (sees_e h5).2),hk.eq (by decide)]
 have h5:sees (bs q) (adv t) 45=false:=by simpa using h5
 have e1:has (bs q) (adv t) 45=adv t:=by unfold has; rw [if_neg (by rw [h5]; decide)]
 rw [e1] at a1 s1 s3 s4
 have T0:=tk_ne (t:=adv t) (sign:=⟨#[45]⟩) e0 rfl h5
 have fact:∀k,RunP isDig q (t.p+1) k→_:=fun k hk=>cnt_eq2 (t:=adv t) e0 s3 (by rw [s4]; decide) hk
 refine (el_plain h hq T0 he (fun k hk=>?_)).mono ?_
 ·have:=(fact k hk).2
  simp only [adv] at this
  omega
 rintro r w' ⟨k,hk,hr⟩
 have f1:=(fact k hk).1
 rw [f1] at a1 s1
 have hge:=hk.ge
 refine ⟨k,by omega,(tk1 q (t:={ adv t with p:=k }) e0 93).trans s1,a1,_,hr,fun m l=>?_⟩
 rw [pSteps,if_neg (by rw [(sees_e hb).2]; decide),if_pos (sees_e hb).2,if_neg (show ¬bt (bs q) (t.p+1)=45 from sees_nb (t:=adv t) e0 h5),hk.eq (by decide)]
end Go.Proofs.YtcbadebjpogmlaaGreatDoor
namespace Go.Proofs.YtcbadebjpogmlaaGreatDoor
open Go.RowKit Tr
def FnB (B:Nat) (w:World) (P:World→Value→Prop) (r:Ending) (w':World):Prop:=(∃f D,r=.returned f∧Ft D B w'∧OkD D w' (fun w''=>P w'' f))∧Below w.heap.size w w'
theorem Sm.alloc {D:Nat→Prop} {B:Nat} {w:World} (h:Ft D B w) (o:Obj):Sm D w (w.alloc o):=Sm.fr (K:=fun _=>False) h ((Fr.refl _ w).alloc o) (fun _ _ x=>x)
theorem Sm.trans {D:Nat→Prop} {a b c:World} (h:Sm D a b) (k:Sm D b c):Sm D a c:=fun i hi=>(k i hi).trans (h i hi)
theorem Sm.less {D D':Nat→Prop} {a b:World} (h:Sm D a b) (hd:∀k,D' k→D k):Sm D' a b:=fun i hi=>h i (hd i hi)
theorem m_toMember {B:Nat} (w:World) (s:ByteArray) (hB:B≤w.heap.size):Calls Tryz.prog 287 #[.string s] w (FnB B w (fun w f=>StepV w f ⟨true,bs s,0⟩)):=by
 go_enter Tryz.func287,Tryz.ntmps287
 go_wp2
 go_ret
 refine ⟨⟨_,fun x=>x=w.heap.size,rfl,Ft.one (Blk.new _ _ _) (by decide) hB,fun w'' s=>?_⟩,((Fr.refl (fun _=>False) w).alloc _).below⟩
 exact v_member ((Blk.new w _ _).sm s rfl)
theorem m_notMet {B:Nat} {w:World} {f:Value} {D:Nat→Prop} {φ:Tv→Bool} (ft:Ft D B w) (ok:OkD D w (fun w=>CondV w f φ)) (hB:B≤w.heap.size):Calls Tryz.prog 274 #[f] w (FnB B w (fun w f=>CondV w f (fun t=>!(φ t)))):=by
 obtain ⟨N,cap,rfl,_,_⟩:=ok.self
 have FT:=hide ft
 have OK:=hide ok
 clear ft ok
 go_enter Tryz.func274,Tryz.ntmps274
 go_wp2
 go_ret
 refine ⟨⟨_,fun x=>D x∨x=w.heap.size,rfl,(FT.out.keep (Sm.alloc FT.out _)).or (Ft.one (Blk.new _ _ _) (by decide) hB),fun w'' s=>?_⟩,((Fr.refl (fun _=>False) w).alloc _).below⟩
 exact v_not (OK.out w'' ((Sm.alloc FT.out _).trans (s.less (fun _=>Or.inl)))) ((Blk.new w _ _).sm s (Or.inr rfl))
theorem m_isThere {B:Nat} {w:World} {f:Value} {D:Nat→Prop} {l:List StA} (ft:Ft D B w) (ok:OkD D w (fun w=>LeadV w f l)) (hB:B≤w.heap.size):Calls Tryz.prog 285 #[f] w (FnB B w (fun w f=>CondV w f (fun t=>(leadT t l).isSome))):=by
 obtain ⟨N,cap,rfl,_,_⟩:=ok.self
 have FT:=hide ft
 have OK:=hide ok
 clear ft ok
 go_enter Tryz.func285,Tryz.ntmps285
 go_wp2
 go_ret
 refine ⟨⟨_,fun x=>D x∨x=w.heap.size,rfl,(FT.out.keep (Sm.alloc FT.out _)).or (Ft.one (Blk.new _ _ _) (by decide) hB),fun w'' s=>?_⟩,((Fr.refl (fun _=>False) w).alloc _).below⟩
 exact v_there (OK.out w'' ((Sm.alloc FT.out _).trans (s.less (fun _=>Or.inl)))) ((Blk.new w _ _).sm s (Or.inr rfl))
theorem m_isEqual {B:Nat} {w:World} {f:Value} {D:Nat→Prop} {l:List StA} {bc:Nat} {c:Kt} (ft:Ft D B w) (ok:OkD D w (fun w=>LeadV w f l)) (hB:B≤w.heap.size) (hb:Blk w bc (pcl (kDat c) (.pointer none) 0 (.slice none 0 0)) 130) (hbc:B≤bc) (hc:KOk c) :
 Calls Tryz.prog 282 #[f,.pointer (some ⟨bc,0,none⟩)] w (FnB B w (fun w f=>CondV w f (fun t=>sameT c (leadT t l)))):=by
 obtain ⟨N,cap,rfl,_,_⟩:=ok.self
 have FT:=hide ft
 have OK:=hide ok
 have HB:=hide hb
 have HC:=hide hc
 clear ft ok hb hc
 go_enter Tryz.func282,Tryz.ntmps282
 go_wp2
 go_ret
 have s1:∀(o o':Obj),Sm D w ((w.alloc o).alloc o'):=fun o o'=>Sm.fr (K:=fun _=>False) FT.out (((Fr.refl _ w).alloc o).alloc o') (fun _ _ x=>x)
 have b0:=HB.out.alloc (.cells #[.func (.func N) #[] cap] 320) |>.alloc (.cells #[.pointer (some ⟨bc,0,none⟩)] 71)
 have b1:=(Blk.new w #[.func (.func N) #[] cap] 320).alloc (.cells #[.pointer (some ⟨bc,0,none⟩)] 71)
 have b2:=Blk.new (w.alloc (.cells #[.func (.func N) #[] cap] 320)) #[.pointer (some ⟨bc,0,none⟩)] 71
 have e2:(w.alloc (.cells #[.func (.func N) #[] cap] 320)).heap.size=w.heap.size+1:=by simp
 rw [e2] at b2
 refine ⟨⟨_,fun x=>((D x∨x=w.heap.size)∨x=w.heap.size+1)∨x=bc,rfl,(((FT.out.keep (s1 _ _)).or (Ft.one b1 (by decide) hB)).or (Ft.one b2 (by decide) (by omega))).or (Ft.one b0 (by decide) hbc),fun w'' s=>?_⟩,((Fr.refl (fun _=>False) w).alloc _ |>.alloc _).below⟩
 exact v_equal (OK.out w'' ((s1 _ _).trans (s.less (fun _ x=>Or.inl (Or.inl (Or.inl x)))))) (b1.sm s (Or.inl (Or.inl (Or.inr rfl)))) (b2.sm s (Or.inl (Or.inr rfl))) (b0.sm s (Or.inr rfl)) HC.out
theorem m_isLess {B:Nat} {w:World} {f:Value} {D:Nat→Prop} {l:List StA} {bc:Nat} {c:Kt} (ft:Ft D B w) (ok:OkD D w (fun w=>LeadV w f l)) (hB:B≤w.heap.size) (hb:Blk w bc (pcl (kDat c) (.pointer none) 0 (.slice none 0 0)) 130) (hbc:B≤bc) (hc:KOk c) :
 Calls Tryz.prog 284 #[f,.pointer (some ⟨bc,0,none⟩)] w (FnB B w (fun w f=>CondV w f (fun t=>lessT c (leadT t l)))):=by
 obtain ⟨N,cap,rfl,_,_⟩:=ok.self
 have FT:=hide ft
 have OK:=hide ok
 have HB:=hide hb
 have HC:=hide hc
 clear ft ok hb hc
 go_enter Tryz.func284,Tryz.ntmps284
 go_wp2
 go_ret
 have s1:∀(o o':Obj),Sm D w ((w.alloc o).alloc o'):=fun o o'=>Sm.fr (K:=fun _=>False) FT.out (((Fr.refl _ w).alloc o).alloc o') (fun _ _ x=>x)
 have b0:=HB.out.alloc (.cells #[.func (.func N) #[] cap] 320) |>.alloc (.cells #[.pointer (some ⟨bc,0,none⟩)] 71)
 have b1:=(Blk.new w #[.func (.func N) #[] cap] 320).alloc (.cells #[.pointer (some ⟨bc,0,none⟩)] 71)
 have b2:=Blk.new (w.alloc (.cells #[.func (.func N) #[] cap] 320)) #[.pointer (some ⟨bc,0,none⟩)] 71
 have e2:(w.alloc (.cells #[.func (.func N) #[] cap] 320)).heap.size=w.heap.size+1:=by simp
 rw [e2] at b2
 refine ⟨⟨_,fun x=>((D x∨x=w.heap.size)∨x=w.heap.size+1)∨x=bc,rfl,(((FT.out.keep (s1 _ _)).or (Ft.one b1 (by decide) hB)).or (Ft.one b2 (by decide) (by omega))).or (Ft.one b0 (by decide) hbc),fun w'' s=>?_⟩,((Fr.refl (fun _=>False) w).alloc _ |>.alloc _).below⟩
 exact v_less (OK.out w'' ((s1 _ _).trans (s.less (fun _ x=>Or.inl (Or.inl (Or.inl x)))))) (b1.sm s (Or.inl (Or.inl (Or.inr rfl)))) (b2.sm s (Or.inl (Or.inr rfl))) (b0.sm s (Or.inr rfl)) HC.out
theorem Row.ftr {T:TypeId} {B:Nat} {P:Nat→World→Value→Prop} {D:Nat→Prop} {sv:Value} {fs:List Value} {w:World} (h:Row T B P D sv fs w) (hT:T≠5):Ft (fun k=>D k∨sv.ownBlock=some k) B w:=by
 refine h.ft.or ⟨fun k hk=>(h.o.lt k hk).1,fun k hk=>?_⟩
 rcases h.o.2 with ⟨x,_⟩ | ⟨k2,cap,cur,x1,_,x3,_⟩
 ·rw [x] at hk; cases hk
 rw [x1] at hk
 have e:k2=k:=Option.some.inj hk
 subst e
 exact ⟨cur,T,_,x3,hT⟩
theorem m_oneMet {B:Nat} {w:World} {sv:Value} {fs:List Value} {D:Nat→Prop} {φs:List (Tv→Bool)} (h:Row 237 B (fun i w f=>∀φ,φs[i]?=some φ→CondV w f φ) D sv fs w) (hl:φs.length=fs.length) (hj:fs.length≤1000) (hB:B≤w.heap.size):Calls Tryz.prog 257 #[sv] w (FnB B w (fun w f=>CondV w f (fun t=>φs.any (fun φ=>φ t)))):=by
 obtain ⟨ao,cp,hs⟩:=own_slice h.o
 obtain ⟨j,hjj⟩:∃j,j=fs.length:=⟨_,rfl⟩
 rw [← hjj] at hs
 subst hs
 have H:=hide h
 have HL:=hide hl
 have HJ:=hide hj
 clear h hl hj hjj
 go_enter Tryz.func257,Tryz.ntmps257
 go_wp2
 go_ret
 have ft:=H.out.ftr (by decide)
 refine ⟨⟨_,fun x=>(D x∨(.slice ao j cp:Value).ownBlock=some x)∨x=w.heap.size,rfl,(ft.keep (Sm.alloc ft _)).or (Ft.one (Blk.new _ _ _) (by decide) hB),fun w'' s=>?_⟩,((Fr.refl (fun _=>False) w).alloc _).below⟩
 have s1:=(Sm.alloc ft _).trans (s.less (fun _=>Or.inl))
 exact v_one (own_at' H.out.o (fun k hk=>s1 k (Or.inr hk))) HJ.out HL.out (fun i h1 h2=>H.out.ok i h1 w'' (s1.less (fun _=>Or.inl)) _ (List.getElem?_eq_getElem h2)) ((Blk.new w _ _).sm s (Or.inr rfl))
theorem m_allMet {B:Nat} {w:World} {sv:Value} {fs:List Value} {D:Nat→Prop} {φs:List (Tv→Bool)} (h:Row 237 B (fun i w f=>∀φ,φs[i]?=some φ→CondV w f φ) D sv fs w) (hl:φs.length=fs.length) (hj:fs.length≤1000) (hB:B≤w.heap.size):Calls Tryz.prog 266 #[sv] w (FnB B w (fun w f=>CondV w f (fun t=>φs.all (fun φ=>φ t)))):=by
 obtain ⟨ao,cp,hs⟩:=own_slice h.o
 obtain ⟨j,hjj⟩:∃j,j=fs.length:=⟨_,rfl⟩
 rw [← hjj] at hs
 subst hs
 have H:=hide h
 have HL:=hide hl
 have HJ:=hide hj
 clear h hl hj hjj
 go_enter Tryz.func266,Tryz.ntmps266
 go_wp2
 go_ret
 have ft:=H.out.ftr (by decide)
 refine ⟨⟨_,fun x=>(D x∨(.slice ao j cp:Value).ownBlock=some x)∨x=w.heap.size,rfl,(ft.keep (Sm.alloc ft _)).or (Ft.one (Blk.new _ _ _) (by decide) hB),fun w'' s=>?_⟩,((Fr.refl (fun _=>False) w).alloc _).below⟩
 have s1:=(Sm.alloc ft _).trans (s.less (fun _=>Or.inl))
 exact v_allm (own_at' H.out.o (fun k hk=>s1 k (Or.inr hk))) HJ.out HL.out (fun i h1 h2=>H.out.ok i h1 w'' (s1.less (fun _=>Or.inl)) _ (List.getElem?_eq_getElem h2)) ((Blk.new w _ _).sm s (Or.inr rfl))
theorem m_leadBy {B:Nat} {w:World} {sv:Value} {fs:List Value} {D:Nat→Prop} {l:List StA} (h:Row 320 B (fun i w f=>∀st,l[i]?=some st→StepV w f st) D sv fs w) (hl:l.length=fs.length) (hj:fs.length≤1000) (hB:B≤w.heap.size):Calls Tryz.prog 276 #[sv] w (FnB B w (fun w f=>LeadV w f l)):=by
 obtain ⟨ao,cp,hs⟩:=own_slice h.o
 obtain ⟨j,hjj⟩:∃j,j=fs.length:=⟨_,rfl⟩
 rw [← hjj] at hs
 subst hs
 have H:=hide h
 have HL:=hide hl
 have HJ:=hide hj
 clear h hl hj hjj
 go_enter Tryz.func276,Tryz.ntmps276
 go_wp2
 go_ret
 have ft:=H.out.ftr (by decide)
 refine ⟨⟨_,fun x=>(D x∨(.slice ao j cp:Value).ownBlock=some x)∨x=w.heap.size,rfl,(ft.keep (Sm.alloc ft _)).or (Ft.one (Blk.new _ _ _) (by decide) hB),fun w'' s=>?_⟩,((Fr.refl (fun _=>False) w).alloc _).below⟩
 have s1:=(Sm.alloc ft _).trans (s.less (fun _=>Or.inl))
 exact v_lead (own_at' H.out.o (fun k hk=>s1 k (Or.inr hk))) HJ.out HL.out (fun i h1 h2=>H.out.ok i h1 w'' (s1.less (fun _=>Or.inl)) _ (List.getElem?_eq_getElem h2)) ((Blk.new w _ _).sm s (Or.inr rfl))
end Go.Proofs.YtcbadebjpogmlaaGreatDoor
