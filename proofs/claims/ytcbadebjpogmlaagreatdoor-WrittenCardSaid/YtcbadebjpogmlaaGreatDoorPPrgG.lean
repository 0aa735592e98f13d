import Derived.Test.YtcbadebjpogmlaaGreatDoorPPrgF
import Derived.Test.YtcbadebjpogmlaaGreatDoorPBase
namespace Go.Proofs.YtcbadebjpogmlaaGreatDoor
open Go.RowKit Tr
set_option maxHeartbeats 2000000 in
theorem g_next {w:World} {b:Nat} {g:G} (h:HasG w b g.st g) (ok:Gok g) (c:Nat) (hc:c<256) :
 Calls Tryz.prog 82 #[.pointer (some ⟨b,0,none⟩),.int .u8 (c:Int)] w (AnsX b w (gNext g c)):=by
 have c0:=h.c0
 have HH:=hide h
 have HK:=hide ok
 clear h
 by_cases hst:21≤g.st∧g.st≤25
 ·have e:gNext g c=gInside g c:=by unfold gNext; rw [if_pos hst]
  rw [e]
  have HS:=hide hst
  have hc5:g.st=21∨g.st=22∨g.st=23∨g.st=24∨g.st=25:=by omega
  clear e hst ok
  rcases hc5 with h5 | h5 | h5 | h5 | h5
  all_goals
   rw [h5] at c0
   clear h5
   go_enter Tryz.func82,Tryz.ntmps82
   go_wp2_with fail
   refine (g_inside HH.out HK.out c hc HS.out).mono ?_
   rintro r w1 ⟨x,rfl,hr⟩
   have HR:=hide hr
   clear hr
   generalize gInside g c=g2 at *
   go_wp2
   go_ret
   exact ⟨x,rfl,HR.out⟩
 have e:gNext g c=gBetween g c:=by unfold gNext; rw [if_neg hst]
 rw [e]
 have hop:=ok.op
 have d1:((g.st:Int) == 21)=false:=by rw [beq_eq_false_iff_ne]; omega
 have d2:((g.st:Int) == 22)=false:=by rw [beq_eq_false_iff_ne]; omega
 have d3:((g.st:Int) == 23)=false:=by rw [beq_eq_false_iff_ne]; omega
 have d4:((g.st:Int) == 24)=false:=by rw [beq_eq_false_iff_ne]; omega
 have d5:((g.st:Int) == 25)=false:=by rw [beq_eq_false_iff_ne]; omega
 clear e hst ok
 go_enter Tryz.func82,Tryz.ntmps82
 go_wp2_with fail
 refine (g_between HH.out hop c hc).mono ?_
 rintro r w1 ⟨rfl,hr⟩
 have HR:=hide hr
 clear hr
 generalize gBetween g c=g2 at *
 go_wp2
 go_ret
 exact ⟨_,rfl,HR.out⟩
set_option maxHeartbeats 1000000 in
theorem g_mayEnd {w:World} {b:Nat} {g:G} (h:HasG w b g.st g) :
 Calls Tryz.prog 83 #[.pointer (some ⟨b,0,none⟩)] w fun r w'=>r=.returned (.bool (mayEnd g))∧∃n,w'=w.drewN n:=by
 have c0:=h.c0
 have c1:=h.c1
 clear h
 by_cases h3:g.st=3
 ·have e:mayEnd g=true:=by simp [mayEnd,h3]
  rw [e]
  have d1:((g.st:Int) == 3)=true:=by rw [beq_iff_eq]; omega
  clear e h3
  go_enter Tryz.func83,Tryz.ntmps83
  go_wp2
  go_ret
  exact ⟨rfl,0,rfl⟩
 have d1:((g.st:Int) == 3)=false:=by rw [beq_eq_false_iff_ne]; omega
 by_cases h21:g.st=21
 ·have e:mayEnd g=((g.bh:Int) == 3):=by
   rw [Bool.eq_iff_iff]; simp [mayEnd,h21]; omega
  rw [e]
  have d2:((g.st:Int) == 21)=true:=by rw [beq_iff_eq]; omega
  clear e h3 h21
  go_enter Tryz.func83,Tryz.ntmps83
  go_wp2
  go_ret
  exact ⟨rfl,0,rfl⟩
 have e:mayEnd g=false:=by simp [mayEnd,h3,h21]
 rw [e]
 have d2:((g.st:Int) == 21)=false:=by rw [beq_eq_false_iff_ne]; omega
 clear e h3 h21
 go_enter Tryz.func83,Tryz.ntmps83
 go_wp2
 go_ret
 exact ⟨rfl,0,rfl⟩
end Go.Proofs.YtcbadebjpogmlaaGreatDoor
namespace Go.Proofs.YtcbadebjpogmlaaGreatDoor
open Go.RowKit Tr
theorem Gok.st {g:G} (h:Gok g) (k:Nat) (hk:k≠24):Gok { g with st:=k }:=⟨h.bh,h.op,h.sz,fun e=>absurd e hk,h.rl⟩
theorem gok_word {g:G} (h:Gok g) (b k:Nat) (hk:k≤20):Gok (gWord g b k):=by
 unfold gWord; split
 ·exact ⟨hk,h.op,by simp,fun e=>by simp at e,h.rl⟩
 exact h.st 0 (by omega)
theorem gok_quote {g:G} (h:Gok g) (k:Nat) (hk:k≤20):Gok (gQuote g k):=⟨hk,h.op,by simp [gQuote],fun e=>by simp [gQuote] at e,h.rl⟩
theorem gok_minus {g:G} (h:Gok g) (k:Nat) (hk:k≤20):Gok (gMinus g k):=⟨hk,h.op,h.sz,fun e=>by simp [gMinus] at e,h.rl⟩
theorem gok_named {g:G} (h:Gok g) (l:List UInt8) (hl:l.length≤4) (k:Nat) (hk:k≤20):Gok (gNamed g l k):=by
 unfold gNamed; split
 ·exact h.st k (by omega)
 rename_i hne; exact ⟨hk,h.op,h.sz,fun _=>hne,hl⟩
theorem gok_count {g:G} (h:Gok g) (b k:Nat) (hk:k≤20):Gok (gCount g b k):=by
 unfold gCount; split
 ·exact h.st k (by omega)
 split
 ·exact ⟨hk,h.op,by simp,fun e=>by simp at e,h.rl⟩
 exact h.st 0 (by omega)
theorem gok_signed {g:G} (h:Gok g) (b k:Nat) (hk:k≤20):Gok (gSigned g b k):=by
 unfold gSigned; split
 ·exact gok_minus h k hk
 exact gok_count h b k hk
theorem gok_const {g:G} (h:Gok g) (b:Nat):Gok (gConst g b):=by
 unfold gConst; repeat' split
 all_goals first | exact h.st _ (by omega) | exact gok_quote h _ (by omega) | exact gok_named h _ (by simp) _ (by omega) | exact gok_signed h _ _ (by omega)
theorem gok_within {g:G} (h:Gok g) (b:Nat):Gok (gWithin g b):=by
 unfold gWithin; repeat' split
 all_goals first | exact h.st _ (by omega) | exact gok_word h _ _ (by omega) | exact gok_signed h _ _ (by omega)
theorem gok_selEnd {g:G} (h:Gok g) (b:Nat):Gok (gSelEnd g b):=by
 unfold gSelEnd; repeat' split
 all_goals first | exact h.st _ (by omega) | exact gok_count h _ _ (by omega)
theorem trimS_len (l:List UInt8):(trimS l).length≤l.length:=by
 unfold trimS; split
 ·simp
 exact Nat.le_refl _
theorem gok_partEnd {g:G} (h:Gok g) (hs:g.st≠24) (b:Nat):Gok (gPartEnd g b):=by
 have h1:Gok { g with op:=trimR g.op }:=⟨h.bh,Nat.le_trans (trimR_len _) h.op,h.sz,fun e=>absurd e hs,h.rl⟩
 unfold gPartEnd; simp only; repeat' split
 ·exact h1.st _ (by omega)
 ·exact h1.st _ (by omega)
 ·exact ⟨h.bh,Nat.le_trans (trimS_len _) h1.op,h.sz,fun e=>by simp at e,h.rl⟩
 ·exact gok_selEnd h1 b
 exact h1.st _ (by omega)
theorem gok_stepEnd {g:G} (h:Gok g) (hs:g.st≠24) (b:Nat):Gok (gStepEnd g b):=by
 unfold gStepEnd; repeat' split
 all_goals first | exact h.st _ (by omega) | exact gok_partEnd h hs b
theorem gok_part {g:G} (h:Gok g) (b:Nat):Gok (gPart g b):=by
 unfold gPart; repeat' split
 ·exact h.st _ (by omega)
 ·exact h.st _ (by omega)
 ·exact h.st _ (by omega)
 refine ⟨h.bh,?_,h.sz,fun e=>by simp at e,h.rl⟩
 have:=h.op
 simp only [List.length_append,List.length_cons,List.length_nil]
 omega
theorem gok_selector {g:G} (h:Gok g) (b:Nat):Gok (gSelector g b):=by
 unfold gSelector; repeat' split
 all_goals first | exact h.st _ (by omega) | exact gok_quote h _ (by omega) | exact gok_minus h _ (by omega) | exact gok_count h _ _ (by omega)
theorem gok_segment {g:G} (h:Gok g) (b:Nat):Gok (gSegment g b):=by
 unfold gSegment gStar; repeat' split
 all_goals first | exact h.st _ (by omega) | exact gok_word h _ _ (by omega)
theorem gok_between {g:G} (h:Gok g) (hs:g.st≠24) (b:Nat):Gok (gBetween g b):=by
 unfold gBetween; repeat' split
 ·exact gok_segment h b
 ·exact gok_selector h b
 ·exact gok_selEnd h b
 ·exact gok_part h b
 ·exact gok_partEnd h hs b
 ·exact gok_stepEnd h hs b
 ·exact gok_const h b
 exact gok_within h b
theorem gok_next {g:G} (h:Gok g) (b:Nat):Gok (gNext g b):=by
 unfold gNext; split
 ·unfold gInside
  split
  ·rename_i hg
   refine ⟨h.bh,h.op,?_,?_,h.rl⟩
   ·unfold gGoes at hg
    repeat' split at hg
    all_goals first | (simp at hg; have:=hg.2; simp only; omega) | (simp at hg)
   intro e
   exact h.rs e
  split
  ·exact h.st _ (by have:=h.bh; omega)
  split
  ·refine gok_named h _ ?_ _ h.bh
   have:=h.rl
   simp only [List.length_tail]; omega
  split
  ·exact gok_count h _ _ h.bh
  split
  ·have h1:Gok { g with st:=g.bh }:=h.st _ (by have:=h.bh; omega)
   exact gok_between h1 (by have:=h.bh; simp only; omega) b
  exact h.st _ (by omega)
 rename_i hs
 exact gok_between h (by omega) b
def Gi (s:List UInt8):Nat→G
 | 0=>⟨2,0,0,[],[]⟩
 | i+1=>gNext (Gi s i) (bt s i)
theorem Gi_ok (s:List UInt8):∀i,Gok (Gi s i)
 | 0=>⟨by simp [Gi],by simp [Gi],by simp [Gi],fun e=>by simp [Gi] at e,by simp [Gi]⟩
 | i+1=>gok_next (Gi_ok s i) _
theorem Gi_M (s:List UInt8):∀i,i≤s.length→(∀j,j≤i→2≤(M s j).st∨j=i)→norm (Gi s i)=M s i
 | 0,_,_=>rfl
 | i+1,hi,h=>by
  have ih:=Gi_M s i (by omega) (fun j hj=>by
   rcases h j (by omega) with x | x
   ·exact Or.inl x
   exact Or.inl (by omega))
  have h2:2≤(M s i).st:=by
   rcases h i (by omega) with x | x
   ·exact x
   omega
  have hb:bt s i≠256:=by have:=bt_in (s:=s) (p:=i) (by omega); omega
  show norm (gNext (Gi s i) (bt s i))=nx (M s i) (bt s i)
  rw [norm_next _ _ (Gi_ok s i).bh,ih]
  unfold nx
  rw [if_neg (by omega),if_neg hb]
def FaultP (s:ByteArray) (w:World) (r:Ending) (w':World):Prop :=
 Keeps w w'∧((∃e p,Err (bs s) e p∧r=.returned (.tuple #[.int .i64 (e:Nat),.int .i64 (p:Nat)]))∨(Fin (bs s)∧r=.returned (.tuple #[.int .i64 0,.int .i64 0])))
set_option maxRecDepth 100000 in
set_option maxHeartbeats 2000000 in
theorem c_fault {w:World} {s:ByteArray} (hs:s.size≤120) :
 Calls Tryz.prog 61 #[.string s] w (FaultP s w):=by
 have M0:Hid (HasG (w.alloc (.cells #[.int .i64 2,.int .i64 0,.int .i64 0,.string ⟨#[]⟩,.string ⟨#[]⟩] 176)) w.heap.size (Gi (bs s) 0).st (Gi (bs s) 0)):=heap_alloc_new w _
 have F0:=hide ((Fr.refl (fun _=>False) w).alloc (.cells #[.int .i64 2,.int .i64 0,.int .i64 0,.string ⟨#[]⟩,.string ⟨#[]⟩] 176))
 go_enter Tryz.func61,Tryz.ntmps61
 go_wp2
 go_loopw [5,9] (fun _ i wr=>∃k:Nat,k≤s.size∧i=.int .i64 k∧HasG wr w.heap.size (Gi (bs s) k).st (Gi (bs s) k)∧Keeps w wr∧(∀j,j≤k→2≤(M (bs s) j).st)) (fun _ i _=>s.size - (intOf i).toNat)
 case atStart =>
  refine ⟨0,Nat.zero_le _,rfl,M0.out,F0.out,fun j hj=>?_⟩
  have hj0:j=0:=by omega
  subst hj0
  simp [M,g0]
 case round =>
  obtain ⟨k,hk,rfl,hM,hF,hlv⟩:=hrel
  have MM:=hide hM
  have FF:=hide hF
  have LV:=hide hlv
  clear hM hF hlv M0 F0
  by_cases hlt:k<s.size
  ·have hbt:=btB_lt hlt
   have hEQ:norm (gNext (Gi (bs s) k) (bt (bs s) k))=M (bs s) (k+1):=Gi_M (bs s) (k+1) (by rw [bs_len]; omega) (fun j hj=>by
    by_cases e:j=k+1
    ·exact Or.inr e
    exact Or.inl (LV.out j (by omega)))
   have HST:Hid ((gNext (Gi (bs s) k) (bt (bs s) k)).st=(M (bs s) (k+1)).st):=by unfold Hid; rw [← hEQ]; rfl
   have HBT:=hide hbt
   clear hEQ hbt
   go_wp2_with fail
   refine (g_next MM.out (Gi_ok (bs s) k) s[k].toNat (UInt8.toNat_lt _)).mono ?_
   rintro r w1 ⟨x,rfl,hr⟩
   rw [← HBT.out]
   rw [← HBT.out] at hr
   have HR:=hide hr
   have z0:=hr.m.fz 0
   have q0:=hr.m.c0
   have M1:Hid (HasG (w1.setCell ⟨w.heap.size,0,none⟩ (.int .i64 (gNext (Gi (bs s) k) (bt (bs s) k)).st)) w.heap.size (Gi (bs s) (k+1)).st (Gi (bs s) (k+1))):=hr.m.set0 _
   have F1:=hide ((FF.out.new hr.f (fun i hi e=>by unfold PB at e; omega)).setCell ⟨w.heap.size,0,none⟩ (Or.inr (Nat.le_refl _)) (.int .i64 (gNext (Gi (bs s) k) (bt (bs s) k)).st))
   have hsz:=hr.m.lt
   clear hr
   by_cases h0:(M (bs s) (k+1)).st=0
   ·have HE:Hid (Err (bs s) 2 k):=⟨LV.out k (Nat.le_refl _),by rw [h0],by rw [bs_len]; omega,by omega⟩
    rw [HST.out,h0]
    rw [HST.out,h0] at F1
    clear h0
    go_wp2
    go_ret2
    exact ⟨F1.out,Or.inl ⟨2,k,HE.out,rfl⟩⟩
   by_cases h1:(M (bs s) (k+1)).st=1
   ·have HE:Hid (Err (bs s) 3 k):=⟨LV.out k (Nat.le_refl _),by rw [h1],by rw [bs_len]; omega,by omega⟩
    rw [HST.out,h1]
    rw [HST.out,h1] at F1
    clear h0 h1
    go_wp2
    go_ret2
    exact ⟨F1.out,Or.inl ⟨3,k,HE.out,rfl⟩⟩
   have d0:(((gNext (Gi (bs s) k) (bt (bs s) k)).st:Int) == 0)=false:=by rw [beq_eq_false_iff_ne,HST.out]; omega
   have d1:(((gNext (Gi (bs s) k) (bt (bs s) k)).st:Int) == 1)=false:=by rw [beq_eq_false_iff_ne,HST.out]; omega
   have HL:Hid (∀j,j≤k+1→2≤(M (bs s) j).st):=fun j hj=>by
    by_cases e:j=k+1
    ·subst e; omega
    exact LV.out j (by omega)
   have HG:Hid (Gi (bs s) (k+1)=gNext (Gi (bs s) k) (bt (bs s) k)):=rfl
   generalize (gNext (Gi (bs s) k) (bt (bs s) k)).st=gst at *
   clear h0 h1
   go_wp2
   go_roundw
   case rel=>exact ⟨k+1,by omega,by go_num,M1.out,F1.out,HL.out⟩
   case measure=>simp [intOf]; omega
  have hks:k=s.size:=by omega
  subst hks
  have hN:norm (Gi (bs s) s.size)=M (bs s) s.size:=Gi_M (bs s) s.size (by rw [bs_len]; exact Nat.le_refl _) (fun j hj=>Or.inl (LV.out j hj))
  have hme:mayEnd (Gi (bs s) s.size)=mayEnd (M (bs s) s.size):=by
   rw [← hN]; unfold mayEnd norm
   by_cases h21:(Gi (bs s) s.size).st=21
   ·simp [h21]
   have hb:((Gi (bs s) s.size).st == 21)=false:=beq_eq_false_iff_ne.2 h21
   simp only [hb,Bool.false_and]
  have hnx:M (bs s) (s.size+1)=if mayEnd (M (bs s) s.size)=true then ⟨26,0,0,[],[]⟩ else ⟨0,0,0,[],[]⟩:=by
   show nx (M (bs s) s.size) (bt (bs s) s.size)=_
   rw [bt_end (by rw [bs_len]; exact Nat.le_refl _)]
   have:=LV.out s.size (Nat.le_refl _)
   exact nx256 _ (by omega)
  have HME:=hide hme
  have HNX:=hide hnx
  clear hN hme hnx
  cases hm:mayEnd (M (bs s) s.size)
  ·have HM:=hide hm
   clear hm
   go_wp2_with fail
   refine (g_mayEnd MM.out).mono ?_
   rintro r w1 ⟨rfl,nn,rfl⟩
   rw [HME.out,HM.out]
   go_wp2
   go_ret2
   refine ⟨FF.out.drewN nn,Or.inl ⟨2,s.size,⟨LV.out _ (Nat.le_refl _),?_,by rw [bs_len]; exact Nat.le_refl _,by omega⟩,rfl⟩⟩
   rw [HNX.out,HM.out]
   rfl
  have HM:=hide hm
  clear hm
  go_wp2_with fail
  refine (g_mayEnd MM.out).mono ?_
  rintro r w1 ⟨rfl,nn,rfl⟩
  rw [HME.out,HM.out]
  go_wp2
  go_ret2
  refine ⟨FF.out.drewN nn,Or.inr ⟨?_,rfl⟩⟩
  unfold Fin
  rw [bs_len,HNX.out,HM.out]
  rfl
end Go.Proofs.YtcbadebjpogmlaaGreatDoor
