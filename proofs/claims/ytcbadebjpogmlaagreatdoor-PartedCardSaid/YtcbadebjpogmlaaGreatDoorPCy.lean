import Derived.Test.YtcbadebjpogmlaaGreatDoorPCx
namespace Go.Proofs.YtcbadebjpogmlaaGreatDoor
open Go.RowKit Tr
theorem name_len:∀k,k<4→(lb (mNames.getD k [])).size≤30:=by decide +kernel
theorem getD_mem {l:List (List UInt8)} {k:Nat} (h:k<l.length):l.getD k [] ∈ l:=by
 rw [List.getD_eq_getElem?_getD,List.getElem?_eq_getElem h]
 exact List.getElem_mem h
def MdP (n a:Nat) (w:World) (r:Ending) (w':World):Prop:=(∃(s:ByteArray) (a':Nat),r=.returned (.tuple #[.string s,.int .i64 (a':Nat)])∧MdT n a a' (bs s))∧Keeps w w'
theorem first_one {k d a0 b i b':Nat} {s s':List UInt8} (h:i=0) (hm:MkI k d a0 b i s) (f:MkI k d a0 b 0 s→MkI k d a0 b' 1 s'):MkI k d a0 b' (i+1) s':=by
 subst h
 exact f hm
theorem sz_of {s:ByteArray} {n:Nat} (h:(bs s).length≤n):s.size≤n:=by rw [bs_len] at h; exact h
set_option maxHeartbeats 8000000 in
set_option maxRecDepth 100000 in
theorem made_step {lv:Value} {deep:Nat} (hdeep:deep≤5) (IH:∀d,d+1=deep→∀(w:World),IntsAt w lv→∀a,a≤60→Calls Tryz.prog 33 #[lv,.int .i64 (a:Nat),.int .i64 (d:Nat)] w (MdP d a w)) {w:World} (hi:IntsAt w lv) {a:Nat} (ha:a≤60):Calls Tryz.prog 33 #[lv,.int .i64 (a:Nat),.int .i64 (deep:Nat)] w (MdP deep a w):=by
 have HH:=hide IH
 clear IH
 have HI:=hide hi
 have F1:=hide ((Fr.refl (fun _=>False) w).alloc (.cells (strs mScal) 9))
 have R0:=hide (p_raw hi (i:=a) (by omega))
 have R1:Hid (Calls Tryz.prog 32 #[lv,.int .i64 ((a:Int)+1)] (w.alloc (.cells (strs mScal) 9)) fun r w'=>(∃v,i64R v∧r=.returned (.int .i64 v))∧w'=w.alloc (.cells (strs mScal) 9)):=by
  have:=p_raw (hi.keep F1.out) (i:=a+1) (by omega)
  rw [i_add] at this
  exact this
 have LC:Hid (∀k,k<7→(w.alloc (.cells (strs mScal) 9)).cell? ⟨w.heap.size,k,none⟩=some (.string (lb (mScal.getD k [])))):=fun k hk=>lit_cell w _ hk
 have SC:Hid (∀k,k<7→MdT deep a (a+2) (bs (lb (mScal.getD k [])))):=fun k hk=>by rw [bs_lb]; exact MdT.scal (getD_mem hk) ha
 have hw1:IntKind.i64.wrap ((a:Int)+1)=(a:Int)+1:=by rw [IntWalk.i64_in _ (by omega)]
 have hw2:IntKind.i64.wrap ((a:Int)+2)=(a:Int)+2:=by rw [IntWalk.i64_in _ (by omega)]
 clear hi
 go_enter Tryz.func33,Tryz.ntmps33
 go_wp2_with fail
 refine R0.out.mono ?_
 rintro r w1 ⟨⟨v,hv,rfl⟩,hw⟩
 obtain rfl:w=w1:=hw.symm
 clear R0
 go_wp2_with fail
 refine (p_pick hv (n:=9) (by omega) (by omega)).mono ?_
 rintro r w1 ⟨⟨k,hk,rfl⟩,hw⟩
 obtain rfl:w=w1:=hw.symm
 clear hv
 by_cases hsc:deep=0∨k<5
 ·have hcase:(deep=0∧4<k)∨(deep=0∧k<5)∨(0<deep∧k<5):=by omega
  clear hsc
  have hcI:((deep:Int)=0∧(4:Int)<(k:Int)∧(k:Int) - 5<5∧IntKind.i64.wrap ((k:Int) - 5)=(k:Int) - 5)∨((deep:Int)=0∧¬(4:Int)<(k:Int)∧(k:Int)<5)∨(¬(deep:Int)=0∧(k:Int)<5):=by
   rcases hcase with h | h | h
   ·exact Or.inl ⟨by omega,by omega,by omega,by rw [IntWalk.i64_in _ (by omega)]⟩
   ·exact Or.inr (Or.inl (by omega))
   exact Or.inr (Or.inr (by omega))
  clear hcase
  rcases hcI with ⟨h1,h2,h3,h4⟩ | ⟨h1,h2,h3⟩ | ⟨h1,h2⟩
  all_goals
   go_wp2_with fail
   refine R1.out.mono ?_
   rintro r w2 ⟨⟨v,hv,rfl⟩,rfl⟩
   go_wp2_with fail
   refine (p_pick hv (n:=7) (by omega) (by omega)).mono ?_
   rintro r w2 ⟨⟨j,hj,rfl⟩,rfl⟩
   have hc:=LC.out j hj
   have S:=hide (SC.out j hj)
   generalize lb (mScal.getD j [])=ss at *
   clear hv LC SC R1
   go_wp2
   go_ret2
   exact ⟨⟨ss,a+2,rfl,S.out⟩,F1.out⟩
 obtain ⟨d,hd⟩:∃d,d+1=deep:=⟨deep - 1,by omega⟩
 have hde:((d:Nat):Int)=(deep:Int) - 1:=by omega
 have hd0:¬(deep:Int)=0:=by omega
 have hk5:¬(k:Int)<5:=by omega
 have hwd:IntKind.i64.wrap ((deep:Int) - 1)=(deep:Int) - 1:=by rw [IntWalk.i64_in _ (by omega)]
 clear SC LC
 go_wp2_with fail
 refine R1.out.mono ?_
 rintro r w2 ⟨⟨v,hv,rfl⟩,rfl⟩
 go_wp2_with fail
 refine (p_pick hv (n:=4) (by omega) (by omega)).mono ?_
 rintro r w2 ⟨⟨n,hn,rfl⟩,rfl⟩
 clear hv R1 hsc
 have HD:=hide hde
 by_cases hk6:6<k
 ·have hk6i:(6:Int)<(k:Int):=by omega
  clear hk6 hde
  go_wp2
  go_loopw [1,11,12] (fun av sv iv wr=>∃(s:ByteArray) (b i:Nat),sv=.string s∧av=.int .i64 (b:Nat)∧iv=.int .i64 (i:Nat)∧i≤n∧b≤62∧MkI 6 d (a+2) b i (bs s)∧Keeps w wr) (fun _ _ iv _=>match iv with | .int _ m=>((n:Int) - m).toNat | _=>0)
  case atStart=>exact ⟨⟨#[]⟩,a+2,0,rfl,by simp,rfl,by omega,by omega,MkI.nil _ _ _,F1.out⟩
  case round =>
   obtain ⟨s,b,i,rfl,rfl,rfl,hin,hb,hM,hK⟩:=hrel
   have KW:=hide hK
   have hsl:s.size≤500:=sz_of (by have:=hM.2.1; omega)
   have HM:=hide hM
   clear hM hK F1
   have hwi:IntKind.i64.wrap ((i:Int)+1)=(i:Int)+1:=by rw [IntWalk.i64_in _ (by omega)]
   by_cases hgo:i<n∧b<60
   ·obtain ⟨g1,g2⟩:=hgo
    have g1i:(i:Int)<(n:Int):=by omega
    have g2i:(b:Int)<60:=by omega
    have FN:=hide ((Fr.refl (fun _=>False) wr).alloc (.cells (strs mNames) 9))
    have RB:=hide (p_raw (w:=wr.alloc (.cells (strs mNames) 9)) ((HI.out.keep KW.out).keep FN.out) (i:=b) (by omega))
    have LN:Hid (∀k,k<4→(wr.alloc (.cells (strs mNames) 9)).cell? ⟨wr.heap.size,k,none⟩=some (.string (lb (mNames.getD k [])))):=fun k hk=>lit_cell wr _ hk
    have hwb:IntKind.i64.wrap ((b:Int)+1)=(b:Int)+1:=by rw [IntWalk.i64_in _ (by omega)]
    have CH:Hid (Calls Tryz.prog 33 #[lv,.int .i64 ((b:Int)+1),.int .i64 ((deep:Int) - 1)] (wr.alloc (.cells (strs mNames) 9)) (MdP d (b+1) (wr.alloc (.cells (strs mNames) 9)))):=by
     have:=HH.out d hd (wr.alloc (.cells (strs mNames) 9)) ((HI.out.keep KW.out).keep FN.out) (b+1) (by omega)
     rw [HD.out] at this
     exact this
    by_cases hi0:0<i
    ·have hii:(0:Int)<(i:Int):=by omega
     go_wp2_with fail
     refine RB.out.mono ?_
     rintro r w3 ⟨⟨v,hv,rfl⟩,rfl⟩
     go_wp2_with fail
     refine (p_pick hv (n:=4) (by omega) (by omega)).mono ?_
     rintro r w3 ⟨⟨j,hj,rfl⟩,rfl⟩
     have hc:=LN.out j hj
     obtain ⟨nm,hnm⟩:∃nm,nm=lb (mNames.getD j []):=⟨_,rfl⟩
     rw [← hnm] at hc
     have hnl:nm.size≤30:=by rw [hnm]; exact name_len j hj
     have HN:Hid (bs nm ∈ mNames):=by rw [hnm,bs_lb]; exact getD_mem hj
     clear hnm hv LN RB
     go_wp2_with fail
     refine CH.out.mono ?_
     rintro r w2 ⟨⟨t,b',rfl,hT⟩,k2⟩
     have htl:t.size≤500:=sz_of (by have:=hT.len; have:=hT.hi; omega)
     have FIN:Hid ((∃(s':ByteArray) (b2 i':Nat),Value.string (s++⟨#[44]⟩++nm++t)=.string s'∧Value.int .i64 (b':Nat)=.int .i64 (b2:Nat)∧Value.int .i64 ((i:Int)+1)=.int .i64 (i':Nat)∧i'≤n∧b2≤62∧MkI 6 d (a+2) b2 i' (bs s')∧Keeps w w2)∧((n:Int) - ((i:Int)+1)).toNat<((n:Int) - (i:Int)).toNat):=⟨⟨_,b',i+1,rfl,rfl,by simp,by omega,hT.hi,by simp only [bs_append]; exact hT.t2 HN.out HM.out (by omega),KW.out.trans (FN.out.trans k2)⟩,by omega⟩
     clear k2 hT CH HM HI HH KW
     go_wp2
     exact FIN.out
    have hii:¬(0:Int)<(i:Int):=by omega
    go_wp2_with fail
    refine RB.out.mono ?_
    rintro r w3 ⟨⟨v,hv,rfl⟩,rfl⟩
    go_wp2_with fail
    refine (p_pick hv (n:=4) (by omega) (by omega)).mono ?_
    rintro r w3 ⟨⟨j,hj,rfl⟩,rfl⟩
    have hc:=LN.out j hj
    obtain ⟨nm,hnm⟩:∃nm,nm=lb (mNames.getD j []):=⟨_,rfl⟩
    rw [← hnm] at hc
    have hnl:nm.size≤30:=by rw [hnm]; exact name_len j hj
    have HN:Hid (bs nm ∈ mNames):=by rw [hnm,bs_lb]; exact getD_mem hj
    clear hnm hv LN RB
    go_wp2_with fail
    refine CH.out.mono ?_
    rintro r w2 ⟨⟨t,b',rfl,hT⟩,k2⟩
    have htl:t.size≤500:=sz_of (by have:=hT.len; have:=hT.hi; omega)
    have FIN:Hid ((∃(s':ByteArray) (b2 i':Nat),Value.string (s++nm++t)=.string s'∧Value.int .i64 (b':Nat)=.int .i64 (b2:Nat)∧Value.int .i64 ((i:Int)+1)=.int .i64 (i':Nat)∧i'≤n∧b2≤62∧MkI 6 d (a+2) b2 i' (bs s')∧Keeps w w2)∧((n:Int) - ((i:Int)+1)).toNat<((n:Int) - (i:Int)).toNat):=⟨⟨_,b',i+1,rfl,rfl,by simp,by omega,hT.hi,by simp only [bs_append]; exact first_one (by omega) HM.out (hT.t1 HN.out),KW.out.trans (FN.out.trans k2)⟩,by omega⟩
    clear k2 hT CH HM HI HH KW
    go_wp2
    exact FIN.out
   have RES:Hid (MdT deep a b (bs (⟨#[123]⟩++s++⟨#[125]⟩))):=by
    simp only [bs_append]
    rw [← hd]
    exact HM.out.thing (by omega)
   have hcc:(¬(i:Int)<(n:Int))∨((i:Int)<(n:Int)∧¬(b:Int)<60):=by omega
   clear hgo HM HI HH
   rcases hcc with h1 | ⟨h1,h2⟩
   all_goals
    go_wp2
    go_ret2
    exact ⟨⟨_,b,rfl,RES.out⟩,KW.out⟩
 have hk6i:¬(6:Int)<(k:Int):=by omega
 clear hk6 hde
 go_wp2
 go_loopw [1,11,12] (fun av sv iv wr=>∃(s:ByteArray) (b i:Nat),sv=.string s∧av=.int .i64 (b:Nat)∧iv=.int .i64 (i:Nat)∧i≤n∧b≤62∧MkI 5 d (a+2) b i (bs s)∧Keeps w wr) (fun _ _ iv _=>match iv with | .int _ m=>((n:Int) - m).toNat | _=>0)
 case atStart=>exact ⟨⟨#[]⟩,a+2,0,rfl,by simp,rfl,by omega,by omega,MkI.nil _ _ _,F1.out⟩
 case round =>
  obtain ⟨s,b,i,rfl,rfl,rfl,hin,hb,hM,hK⟩:=hrel
  have KW:=hide hK
  have hsl:s.size≤500:=sz_of (by have:=hM.2.1; omega)
  have HM:=hide hM
  clear hM hK F1
  have hwi:IntKind.i64.wrap ((i:Int)+1)=(i:Int)+1:=by rw [IntWalk.i64_in _ (by omega)]
  by_cases hgo:i<n∧b<60
  ·obtain ⟨g1,g2⟩:=hgo
   have g1i:(i:Int)<(n:Int):=by omega
   have g2i:(b:Int)<60:=by omega
   have CH:Hid (Calls Tryz.prog 33 #[lv,.int .i64 (b:Nat),.int .i64 ((deep:Int) - 1)] wr (MdP d b wr)):=by
    have:=HH.out d hd wr (HI.out.keep KW.out) b (by omega)
    rw [HD.out] at this
    exact this
   by_cases hi0:0<i
   ·have hii:(0:Int)<(i:Int):=by omega
    go_wp2_with fail
    refine CH.out.mono ?_
    rintro r w2 ⟨⟨t,b',rfl,hT⟩,k2⟩
    have htl:t.size≤500:=sz_of (by have:=hT.len; have:=hT.hi; omega)
    have FIN:Hid ((∃(s':ByteArray) (b2 i':Nat),Value.string (s++⟨#[44]⟩++t)=.string s'∧Value.int .i64 (b':Nat)=.int .i64 (b2:Nat)∧Value.int .i64 ((i:Int)+1)=.int .i64 (i':Nat)∧i'≤n∧b2≤62∧MkI 5 d (a+2) b2 i' (bs s')∧Keeps w w2)∧((n:Int) - ((i:Int)+1)).toNat<((n:Int) - (i:Int)).toNat):=⟨⟨_,b',i+1,rfl,rfl,by simp,by omega,hT.hi,by simp only [bs_append]; exact hT.l2 HM.out (by omega),KW.out.trans (k2)⟩,by omega⟩
    clear k2 hT CH HM HI HH KW
    go_wp2
    exact FIN.out
   have hii:¬(0:Int)<(i:Int):=by omega
   go_wp2_with fail
   refine CH.out.mono ?_
   rintro r w2 ⟨⟨t,b',rfl,hT⟩,k2⟩
   have htl:t.size≤500:=sz_of (by have:=hT.len; have:=hT.hi; omega)
   have FIN:Hid ((∃(s':ByteArray) (b2 i':Nat),Value.string (s++t)=.string s'∧Value.int .i64 (b':Nat)=.int .i64 (b2:Nat)∧Value.int .i64 ((i:Int)+1)=.int .i64 (i':Nat)∧i'≤n∧b2≤62∧MkI 5 d (a+2) b2 i' (bs s')∧Keeps w w2)∧((n:Int) - ((i:Int)+1)).toNat<((n:Int) - (i:Int)).toNat):=⟨⟨_,b',i+1,rfl,rfl,by simp,by omega,hT.hi,by simp only [bs_append]; exact first_one (by omega) HM.out (hT.l1),KW.out.trans (k2)⟩,by omega⟩
   clear k2 hT CH HM HI HH KW
   go_wp2
   exact FIN.out
  have RES:Hid (MdT deep a b (bs (⟨#[91,32]⟩++s++⟨#[93]⟩))):=by
   simp only [bs_append]
   rw [← hd]
   exact HM.out.list (by omega)
  have hcc:(¬(i:Int)<(n:Int))∨((i:Int)<(n:Int)∧¬(b:Int)<60):=by omega
  clear hgo HM HI HH
  rcases hcc with h1 | ⟨h1,h2⟩
  all_goals
   go_wp2
   go_ret2
   exact ⟨⟨_,b,rfl,RES.out⟩,KW.out⟩
theorem p_made {lv:Value}:∀(deep:Nat),deep≤5→∀(w:World),IntsAt w lv→∀a,a≤60→Calls Tryz.prog 33 #[lv,.int .i64 (a:Nat),.int .i64 (deep:Nat)] w (MdP deep a w)
 | 0,h,_,hi,_,ha=>made_step h (fun d hd=>absurd hd (by omega)) hi ha
 | d+1,h,_,hi,_,ha=>made_step h (fun d' hd=>by
  obtain rfl:d=d':=by omega
  exact p_made d (by omega)) hi ha
set_option maxRecDepth 100000 in
theorem p_textF {w:World} {lv:Value} (hi:IntsAt w lv):Calls Tryz.prog 17 #[lv] w fun r w'=>(∃s:ByteArray,r=.returned (.string s)∧s.size≤500∧txErr (bs s)=0∧flsB (bs s)=true)∧Keeps w w':=by
 have H:=hide (p_made 5 (by omega) w hi 0 (by omega))
 clear hi
 go_enter Tryz.func17,Tryz.ntmps17
 go_wp2_with fail
 refine H.out.mono ?_
 rintro r w1 ⟨⟨s,a',rfl,hT⟩,k1⟩
 have FIN:=hide (And.intro (And.intro (sz_of (s:=s) (n:=500) (by have:=hT.len; have:=hT.hi; omega)) (And.intro (vs_text (hT.vs.up (by omega))) hT.fl)) k1)
 clear H hT k1
 go_wp2
 go_ret
 exact ⟨⟨s,rfl,FIN.out.1⟩,FIN.out.2⟩
end Go.Proofs.YtcbadebjpogmlaaGreatDoor
