import Derived.Test.YtcbadebjpogmlaaGreatDoorPPrgA
namespace Go.Proofs.YtcbadebjpogmlaaGreatDoor
open Go.RowKit Tr
set_option maxHeartbeats 2000000 in
theorem g_constant {w:World} {b:Nat} {g:G} (h:HasG w b g.st g) (c:Nat) (hc:c<256) :
 Calls Tryz.prog 155 #[.pointer (some ⟨b,0,none⟩),.int .u8 (c:Int)] w (Ans b w g.st (gConst g c)):=by
 have c0:=h.c0
 have HH:=hide h
 clear h
 by_cases hc61:c=61
 ·by_cases hs17:g.st=17
  ·have e:gConst g c=gSigned g c 18:=by
    unfold gConst
    repeat' split
    all_goals first | rfl | (exfalso; omega)
   rw [e]
   have d1:((c:Int) == 61)=true:=by rw [beq_iff_eq]; omega
   have d2:((g.st:Int) == 17)=true:=by rw [beq_iff_eq]; omega
   have e2:((g.st:Int) != 17)=false:=by first | (rw [bne_iff_ne]; omega) | (rw [bne_eq_false_iff_eq]; omega)
   have d3:((g.st:Int) == 15)=false:=by rw [beq_eq_false_iff_ne]; omega
   have d4:((c:Int) == 39)=false:=by rw [beq_eq_false_iff_ne]; omega
   have d5:((c:Int) == 116)=false:=by rw [beq_eq_false_iff_ne]; omega
   have d6:((c:Int) == 102)=false:=by rw [beq_eq_false_iff_ne]; omega
   have d7:((c:Int) == 110)=false:=by rw [beq_eq_false_iff_ne]; omega
   clear e hc61 hs17
   go_enter Tryz.func155,Tryz.ntmps155
   go_wp2_with fail
   refine (g_signed HH.out c hc 18 18 rfl).mono ?_
   rintro r w1 ⟨rfl,hr⟩
   have HR:=hide hr
   clear hr
   generalize gSigned g c 18=g2 at *
   go_wp2
   go_ret
   exact ⟨rfl,HR.out⟩
  have e:gConst g c={ g with st:=17 }:=by
   unfold gConst
   repeat' split
   all_goals first | rfl | (exfalso; omega)
  rw [e]
  have d1:((c:Int) == 61)=true:=by rw [beq_iff_eq]; omega
  have d2:((g.st:Int) == 17)=false:=by rw [beq_eq_false_iff_ne]; omega
  have e2:((g.st:Int) != 17)=true:=by first | (rw [bne_iff_ne]; omega) | (rw [bne_eq_false_iff_eq]; omega)
  have d3:((c:Int) == 39)=false:=by rw [beq_eq_false_iff_ne]; omega
  have d4:((c:Int) == 116)=false:=by rw [beq_eq_false_iff_ne]; omega
  have d5:((c:Int) == 102)=false:=by rw [beq_eq_false_iff_ne]; omega
  have d6:((c:Int) == 110)=false:=by rw [beq_eq_false_iff_ne]; omega
  clear e hc61 hs17
  go_enter Tryz.func155,Tryz.ntmps155
  go_wp2
  go_ret
  exact ⟨rfl,Rg.as (Rg.same HH.out) _ rfl rfl rfl rfl⟩
 by_cases hs15:g.st=15
 ·have e:gConst g c={ g with st:=0 }:=by
   unfold gConst
   repeat' split
   all_goals first | rfl | (exfalso; omega)
  rw [e]
  have d1:((c:Int) == 61)=false:=by rw [beq_eq_false_iff_ne]; omega
  have d2:((g.st:Int) == 17)=false:=by rw [beq_eq_false_iff_ne]; omega
  have e2:((g.st:Int) != 17)=true:=by first | (rw [bne_iff_ne]; omega) | (rw [bne_eq_false_iff_eq]; omega)
  have d3:((g.st:Int) == 15)=true:=by rw [beq_iff_eq]; omega
  clear e hc61 hs15
  go_enter Tryz.func155,Tryz.ntmps155
  go_wp2
  go_ret
  exact ⟨rfl,Rg.as (Rg.same HH.out) _ rfl rfl rfl rfl⟩
 by_cases hc39:c=39
 ·have e:gConst g c=gQuote g 18:=by
   unfold gConst
   repeat' split
   all_goals first | rfl | (exfalso; omega)
  rw [e]
  have d1:((c:Int) == 61)=false:=by rw [beq_eq_false_iff_ne]; omega
  have d2:((g.st:Int) == 15)=false:=by rw [beq_eq_false_iff_ne]; omega
  have d3:((c:Int) == 39)=true:=by rw [beq_iff_eq]; omega
  have d4:((c:Int) == 116)=false:=by rw [beq_eq_false_iff_ne]; omega
  have d5:((c:Int) == 102)=false:=by rw [beq_eq_false_iff_ne]; omega
  have d6:((c:Int) == 110)=false:=by rw [beq_eq_false_iff_ne]; omega
  clear e hc61 hs15 hc39
  go_enter Tryz.func155,Tryz.ntmps155
  go_wp2_with fail
  refine (g_quote HH.out 18 18 rfl).mono ?_
  rintro r w1 ⟨rfl,hr⟩
  have HR:=hide hr
  clear hr
  generalize gQuote g 18=g2 at *
  go_wp2
  go_ret
  exact ⟨rfl,HR.out⟩
 by_cases hc116:c=116
 ·have e:gConst g c=gNamed g [114,117,101] 18:=by
   unfold gConst
   repeat' split
   all_goals first | rfl | (exfalso; omega)
  rw [e]
  have d1:((c:Int) == 61)=false:=by rw [beq_eq_false_iff_ne]; omega
  have d2:((g.st:Int) == 15)=false:=by rw [beq_eq_false_iff_ne]; omega
  have d3:((c:Int) == 39)=false:=by rw [beq_eq_false_iff_ne]; omega
  have d4:((c:Int) == 116)=true:=by rw [beq_iff_eq]; omega
  have d5:((c:Int) == 102)=false:=by rw [beq_eq_false_iff_ne]; omega
  have d6:((c:Int) == 110)=false:=by rw [beq_eq_false_iff_ne]; omega
  clear e hc61 hs15 hc39 hc116
  go_enter Tryz.func155,Tryz.ntmps155
  go_wp2_with fail
  refine (g_named HH.out [114,117,101] 18 18 rfl).mono ?_
  rintro r w1 ⟨rfl,hr⟩
  have HR:=hide hr
  clear hr
  generalize gNamed g [114,117,101] 18=g2 at *
  go_wp2
  go_ret
  exact ⟨rfl,HR.out⟩
 by_cases hc102:c=102
 ·have e:gConst g c=gNamed g [97,108,115,101] 18:=by
   unfold gConst
   repeat' split
   all_goals first | rfl | (exfalso; omega)
  rw [e]
  have d1:((c:Int) == 61)=false:=by rw [beq_eq_false_iff_ne]; omega
  have d2:((g.st:Int) == 15)=false:=by rw [beq_eq_false_iff_ne]; omega
  have d3:((c:Int) == 39)=false:=by rw [beq_eq_false_iff_ne]; omega
  have d4:((c:Int) == 116)=false:=by rw [beq_eq_false_iff_ne]; omega
  have d5:((c:Int) == 102)=true:=by rw [beq_iff_eq]; omega
  have d6:((c:Int) == 110)=false:=by rw [beq_eq_false_iff_ne]; omega
  clear e hc61 hs15 hc39 hc116 hc102
  go_enter Tryz.func155,Tryz.ntmps155
  go_wp2_with fail
  refine (g_named HH.out [97,108,115,101] 18 18 rfl).mono ?_
  rintro r w1 ⟨rfl,hr⟩
  have HR:=hide hr
  clear hr
  generalize gNamed g [97,108,115,101] 18=g2 at *
  go_wp2
  go_ret
  exact ⟨rfl,HR.out⟩
 by_cases hc110:c=110
 ·have e:gConst g c=gNamed g [117,108,108] 18:=by
   unfold gConst
   repeat' split
   all_goals first | rfl | (exfalso; omega)
  rw [e]
  have d1:((c:Int) == 61)=false:=by rw [beq_eq_false_iff_ne]; omega
  have d2:((g.st:Int) == 15)=false:=by rw [beq_eq_false_iff_ne]; omega
  have d3:((c:Int) == 39)=false:=by rw [beq_eq_false_iff_ne]; omega
  have d4:((c:Int) == 116)=false:=by rw [beq_eq_false_iff_ne]; omega
  have d5:((c:Int) == 102)=false:=by rw [beq_eq_false_iff_ne]; omega
  have d6:((c:Int) == 110)=true:=by rw [beq_iff_eq]; omega
  clear e hc61 hs15 hc39 hc116 hc102 hc110
  go_enter Tryz.func155,Tryz.ntmps155
  go_wp2_with fail
  refine (g_named HH.out [117,108,108] 18 18 rfl).mono ?_
  rintro r w1 ⟨rfl,hr⟩
  have HR:=hide hr
  clear hr
  generalize gNamed g [117,108,108] 18=g2 at *
  go_wp2
  go_ret
  exact ⟨rfl,HR.out⟩
 have e:gConst g c=gSigned g c 18:=by
  unfold gConst
  repeat' split
  all_goals first | rfl | (exfalso; omega)
 rw [e]
 have d1:((c:Int) == 61)=false:=by rw [beq_eq_false_iff_ne]; omega
 have d2:((g.st:Int) == 15)=false:=by rw [beq_eq_false_iff_ne]; omega
 have d3:((c:Int) == 39)=false:=by rw [beq_eq_false_iff_ne]; omega
 have d4:((c:Int) == 116)=false:=by rw [beq_eq_false_iff_ne]; omega
 have d5:((c:Int) == 102)=false:=by rw [beq_eq_false_iff_ne]; omega
 have d6:((c:Int) == 110)=false:=by rw [beq_eq_false_iff_ne]; omega
 clear e hc61 hs15 hc39 hc116 hc102 hc110
 go_enter Tryz.func155,Tryz.ntmps155
 go_wp2_with fail
 refine (g_signed HH.out c hc 18 18 rfl).mono ?_
 rintro r w1 ⟨rfl,hr⟩
 have HR:=hide hr
 clear hr
 generalize gSigned g c 18=g2 at *
 go_wp2
 go_ret
 exact ⟨rfl,HR.out⟩
set_option maxHeartbeats 2000000 in
theorem g_within {w:World} {b:Nat} {g:G} (h:HasG w b g.st g) (c:Nat) (hc:c<256) :
 Calls Tryz.prog 156 #[.pointer (some ⟨b,0,none⟩),.int .u8 (c:Int)] w (Ans b w g.st (gWithin g c)):=by
 have c0:=h.c0
 have HH:=hide h
 clear h
 by_cases hs12:g.st=12
 ·have e:gWithin g c=gWord g c 11:=by
   unfold gWithin
   repeat' split
   all_goals first | rfl | (exfalso; omega)
  rw [e]
  have d1:((g.st:Int) == 12)=true:=by rw [beq_iff_eq]; omega
  have d2:((g.st:Int) == 13)=false:=by rw [beq_eq_false_iff_ne]; omega
  have d3:((g.st:Int) == 14)=false:=by rw [beq_eq_false_iff_ne]; omega
  have d4:((g.st:Int) == 19)=false:=by rw [beq_eq_false_iff_ne]; omega
  have d5:((g.st:Int) == 20)=false:=by rw [beq_eq_false_iff_ne]; omega
  clear e hs12
  go_enter Tryz.func156,Tryz.ntmps156
  go_wp2_with fail
  refine (g_word HH.out c hc 11 11 rfl).mono ?_
  rintro r w1 ⟨rfl,hr⟩
  have HR:=hide hr
  clear hr
  generalize gWord g c 11=g2 at *
  go_wp2
  go_ret
  exact ⟨rfl,HR.out⟩
 by_cases hs13:g.st=13
 ·have e:gWithin g c=gSigned g c 14:=by
   unfold gWithin
   repeat' split
   all_goals first | rfl | (exfalso; omega)
  rw [e]
  have d1:((g.st:Int) == 12)=false:=by rw [beq_eq_false_iff_ne]; omega
  have d2:((g.st:Int) == 13)=true:=by rw [beq_iff_eq]; omega
  have d3:((g.st:Int) == 14)=false:=by rw [beq_eq_false_iff_ne]; omega
  have d4:((g.st:Int) == 19)=false:=by rw [beq_eq_false_iff_ne]; omega
  have d5:((g.st:Int) == 20)=false:=by rw [beq_eq_false_iff_ne]; omega
  clear e hs12 hs13
  go_enter Tryz.func156,Tryz.ntmps156
  go_wp2_with fail
  refine (g_signed HH.out c hc 14 14 rfl).mono ?_
  rintro r w1 ⟨rfl,hr⟩
  have HR:=hide hr
  clear hr
  generalize gSigned g c 14=g2 at *
  go_wp2
  go_ret
  exact ⟨rfl,HR.out⟩
 by_cases hs14:g.st=14
 ·by_cases hc93:c=93
  ·have e:gWithin g c={ g with st:=11 }:=by
    unfold gWithin
    repeat' split
    all_goals first | rfl | (exfalso; omega)
   rw [e]
   have d1:((g.st:Int) == 12)=false:=by rw [beq_eq_false_iff_ne]; omega
   have d2:((g.st:Int) == 13)=false:=by rw [beq_eq_false_iff_ne]; omega
   have d3:((g.st:Int) == 14)=true:=by rw [beq_iff_eq]; omega
   have d4:((c:Int) == 93)=true:=by rw [beq_iff_eq]; omega
   have d5:((g.st:Int) == 19)=false:=by rw [beq_eq_false_iff_ne]; omega
   have d6:((c:Int) == 38)=false:=by rw [beq_eq_false_iff_ne]; omega
   have d7:((g.st:Int) == 20)=false:=by rw [beq_eq_false_iff_ne]; omega
   have d8:((c:Int) == 124)=false:=by rw [beq_eq_false_iff_ne]; omega
   clear e hs12 hs13 hs14 hc93
   go_enter Tryz.func156,Tryz.ntmps156
   go_wp2
   go_ret
   exact ⟨rfl,Rg.as (Rg.same HH.out) _ rfl rfl rfl rfl⟩
  have e:gWithin g c={ g with st:=0 }:=by
   unfold gWithin
   repeat' split
   all_goals first | rfl | (exfalso; omega)
  rw [e]
  have d1:((g.st:Int) == 12)=false:=by rw [beq_eq_false_iff_ne]; omega
  have d2:((g.st:Int) == 13)=false:=by rw [beq_eq_false_iff_ne]; omega
  have d3:((g.st:Int) == 14)=true:=by rw [beq_iff_eq]; omega
  have d4:((c:Int) == 93)=false:=by rw [beq_eq_false_iff_ne]; omega
  have d5:((g.st:Int) == 19)=false:=by rw [beq_eq_false_iff_ne]; omega
  have d6:((g.st:Int) == 20)=false:=by rw [beq_eq_false_iff_ne]; omega
  clear e hs12 hs13 hs14 hc93
  go_enter Tryz.func156,Tryz.ntmps156
  go_wp2
  go_ret
  exact ⟨rfl,Rg.as (Rg.same HH.out) _ rfl rfl rfl rfl⟩
 by_cases hs19:g.st=19
 ·by_cases hc38:c=38
  ·have e:gWithin g c={ g with st:=10 }:=by
    unfold gWithin
    repeat' split
    all_goals first | rfl | (exfalso; omega)
   rw [e]
   have d1:((g.st:Int) == 12)=false:=by rw [beq_eq_false_iff_ne]; omega
   have d2:((g.st:Int) == 13)=false:=by rw [beq_eq_false_iff_ne]; omega
   have d3:((g.st:Int) == 14)=false:=by rw [beq_eq_false_iff_ne]; omega
   have d4:((c:Int) == 93)=false:=by rw [beq_eq_false_iff_ne]; omega
   have d5:((g.st:Int) == 19)=true:=by rw [beq_iff_eq]; omega
   have d6:((c:Int) == 38)=true:=by rw [beq_iff_eq]; omega
   have d7:((g.st:Int) == 20)=false:=by rw [beq_eq_false_iff_ne]; omega
   have d8:((c:Int) == 124)=false:=by rw [beq_eq_false_iff_ne]; omega
   clear e hs12 hs13 hs14 hs19 hc38
   go_enter Tryz.func156,Tryz.ntmps156
   go_wp2
   go_ret
   exact ⟨rfl,Rg.as (Rg.same HH.out) _ rfl rfl rfl rfl⟩
  have e:gWithin g c={ g with st:=0 }:=by
   unfold gWithin
   repeat' split
   all_goals first | rfl | (exfalso; omega)
  rw [e]
  have d1:((g.st:Int) == 12)=false:=by rw [beq_eq_false_iff_ne]; omega
  have d2:((g.st:Int) == 13)=false:=by rw [beq_eq_false_iff_ne]; omega
  have d3:((g.st:Int) == 14)=false:=by rw [beq_eq_false_iff_ne]; omega
  have d4:((g.st:Int) == 19)=true:=by rw [beq_iff_eq]; omega
  have d5:((c:Int) == 38)=false:=by rw [beq_eq_false_iff_ne]; omega
  have d6:((g.st:Int) == 20)=false:=by rw [beq_eq_false_iff_ne]; omega
  clear e hs12 hs13 hs14 hs19 hc38
  go_enter Tryz.func156,Tryz.ntmps156
  go_wp2
  go_ret
  exact ⟨rfl,Rg.as (Rg.same HH.out) _ rfl rfl rfl rfl⟩
 by_cases hs20:g.st=20
 ·by_cases hc124:c=124
  ·have e:gWithin g c={ g with st:=10 }:=by
    unfold gWithin
    repeat' split
    all_goals first | rfl | (exfalso; omega)
   rw [e]
   have d1:((g.st:Int) == 12)=false:=by rw [beq_eq_false_iff_ne]; omega
   have d2:((g.st:Int) == 13)=false:=by rw [beq_eq_false_iff_ne]; omega
   have d3:((g.st:Int) == 14)=false:=by rw [beq_eq_false_iff_ne]; omega
   have d4:((c:Int) == 93)=false:=by rw [beq_eq_false_iff_ne]; omega
   have d5:((g.st:Int) == 19)=false:=by rw [beq_eq_false_iff_ne]; omega
   have d6:((c:Int) == 38)=false:=by rw [beq_eq_false_iff_ne]; omega
   have d7:((g.st:Int) == 20)=true:=by rw [beq_iff_eq]; omega
   have d8:((c:Int) == 124)=true:=by rw [beq_iff_eq]; omega
   clear e hs12 hs13 hs14 hs19 hs20 hc124
   go_enter Tryz.func156,Tryz.ntmps156
   go_wp2
   go_ret
   exact ⟨rfl,Rg.as (Rg.same HH.out) _ rfl rfl rfl rfl⟩
  have e:gWithin g c={ g with st:=0 }:=by
   unfold gWithin
   repeat' split
   all_goals first | rfl | (exfalso; omega)
  rw [e]
  have d1:((g.st:Int) == 12)=false:=by rw [beq_eq_false_iff_ne]; omega
  have d2:((g.st:Int) == 13)=false:=by rw [beq_eq_false_iff_ne]; omega
  have d3:((g.st:Int) == 14)=false:=by rw [beq_eq_false_iff_ne]; omega
  have d4:((g.st:Int) == 19)=false:=by rw [beq_eq_false_iff_ne]; omega
  have d5:((g.st:Int) == 20)=true:=by rw [beq_iff_eq]; omega
  have d6:((c:Int) == 124)=false:=by rw [beq_eq_false_iff_ne]; omega
  clear e hs12 hs13 hs14 hs19 hs20 hc124
  go_enter Tryz.func156,Tryz.ntmps156
  go_wp2
  go_ret
  exact ⟨rfl,Rg.as (Rg.same HH.out) _ rfl rfl rfl rfl⟩
 have e:gWithin g c={ g with st:=0 }:=by
  unfold gWithin
  repeat' split
  all_goals first | rfl | (exfalso; omega)
 rw [e]
 have d1:((g.st:Int) == 12)=false:=by rw [beq_eq_false_iff_ne]; omega
 have d2:((g.st:Int) == 13)=false:=by rw [beq_eq_false_iff_ne]; omega
 have d3:((g.st:Int) == 14)=false:=by rw [beq_eq_false_iff_ne]; omega
 have d4:((g.st:Int) == 19)=false:=by rw [beq_eq_false_iff_ne]; omega
 have d5:((g.st:Int) == 20)=false:=by rw [beq_eq_false_iff_ne]; omega
 clear e hs12 hs13 hs14 hs19 hs20
 go_enter Tryz.func156,Tryz.ntmps156
 go_wp2
 go_ret
 exact ⟨rfl,Rg.as (Rg.same HH.out) _ rfl rfl rfl rfl⟩
set_option maxHeartbeats 2000000 in
theorem g_selectorEnd {w:World} {b:Nat} {g:G} (h:HasG w b g.st g) (c:Nat) (hc:c<256) :
 Calls Tryz.prog 151 #[.pointer (some ⟨b,0,none⟩),.int .u8 (c:Int)] w (Ans b w g.st (gSelEnd g c)):=by
 have c0:=h.c0
 have HH:=hide h
 clear h
 by_cases hc44:c=44
 ·have e:gSelEnd g c={ g with st:=6 }:=by
   unfold gSelEnd
   repeat' split
   all_goals first | rfl | (exfalso; omega)
  rw [e]
  have d1:((c:Int) == 44)=true:=by rw [beq_iff_eq]; omega
  have d2:((c:Int) == 93)=false:=by rw [beq_eq_false_iff_ne]; omega
  have d3:((c:Int) == 58)=false:=by rw [beq_eq_false_iff_ne]; omega
  clear e hc44
  go_enter Tryz.func151,Tryz.ntmps151
  go_wp2
  go_ret
  exact ⟨rfl,Rg.as (Rg.same HH.out) _ rfl rfl rfl rfl⟩
 by_cases hc93:c=93
 ·have e:gSelEnd g c={ g with st:=3 }:=by
   unfold gSelEnd
   repeat' split
   all_goals first | rfl | (exfalso; omega)
  rw [e]
  have d1:((c:Int) == 44)=false:=by rw [beq_eq_false_iff_ne]; omega
  have d2:((c:Int) == 93)=true:=by rw [beq_iff_eq]; omega
  have d3:((c:Int) == 58)=false:=by rw [beq_eq_false_iff_ne]; omega
  clear e hc44 hc93
  go_enter Tryz.func151,Tryz.ntmps151
  go_wp2
  go_ret
  exact ⟨rfl,Rg.as (Rg.same HH.out) _ rfl rfl rfl rfl⟩
 by_cases hc58:c=58
 ·by_cases hs7:g.st=7
  ·have e:gSelEnd g c={ g with st:=8 }:=by
    unfold gSelEnd
    repeat' split
    all_goals first | rfl | (exfalso; omega)
   rw [e]
   have d1:((c:Int) == 44)=false:=by rw [beq_eq_false_iff_ne]; omega
   have d2:((c:Int) == 93)=false:=by rw [beq_eq_false_iff_ne]; omega
   have d3:((c:Int) == 58)=true:=by rw [beq_iff_eq]; omega
   have d4:((g.st:Int) == 7)=true:=by rw [beq_iff_eq]; omega
   have d5:((g.st:Int) == 8)=false:=by rw [beq_eq_false_iff_ne]; omega
   clear e hc44 hc93 hc58 hs7
   go_enter Tryz.func151,Tryz.ntmps151
   go_wp2
   go_ret
   exact ⟨rfl,Rg.as (Rg.same HH.out) _ rfl rfl rfl rfl⟩
  by_cases hs8:g.st=8
  ·have e:gSelEnd g c=gCount g c 9:=by
    unfold gSelEnd
    repeat' split
    all_goals first | rfl | (exfalso; omega)
   rw [e]
   have d1:((c:Int) == 44)=false:=by rw [beq_eq_false_iff_ne]; omega
   have d2:((c:Int) == 93)=false:=by rw [beq_eq_false_iff_ne]; omega
   have d3:((c:Int) == 58)=true:=by rw [beq_iff_eq]; omega
   have d4:((g.st:Int) == 7)=false:=by rw [beq_eq_false_iff_ne]; omega
   have d5:((g.st:Int) == 8)=true:=by rw [beq_iff_eq]; omega
   clear e hc44 hc93 hc58 hs7 hs8
   go_enter Tryz.func151,Tryz.ntmps151
   go_wp2_with fail
   refine (g_count HH.out c hc 9 9 rfl).mono ?_
   rintro r w1 ⟨rfl,hr⟩
   have HR:=hide hr
   clear hr
   generalize gCount g c 9=g2 at *
   go_wp2
   go_ret
   exact ⟨rfl,HR.out⟩
  have e:gSelEnd g c={ g with st:=0 }:=by
   unfold gSelEnd
   repeat' split
   all_goals first | rfl | (exfalso; omega)
  rw [e]
  have d1:((c:Int) == 44)=false:=by rw [beq_eq_false_iff_ne]; omega
  have d2:((c:Int) == 93)=false:=by rw [beq_eq_false_iff_ne]; omega
  have d3:((c:Int) == 58)=true:=by rw [beq_iff_eq]; omega
  have d4:((g.st:Int) == 7)=false:=by rw [beq_eq_false_iff_ne]; omega
  have d5:((g.st:Int) == 8)=false:=by rw [beq_eq_false_iff_ne]; omega
  clear e hc44 hc93 hc58 hs7 hs8
  go_enter Tryz.func151,Tryz.ntmps151
  go_wp2
  go_ret
  exact ⟨rfl,Rg.as (Rg.same HH.out) _ rfl rfl rfl rfl⟩
 by_cases hs8:g.st=8
 ·have e:gSelEnd g c=gCount g c 9:=by
   unfold gSelEnd
   repeat' split
   all_goals first | rfl | (exfalso; omega)
  rw [e]
  have d1:((c:Int) == 44)=false:=by rw [beq_eq_false_iff_ne]; omega
  have d2:((c:Int) == 93)=false:=by rw [beq_eq_false_iff_ne]; omega
  have d3:((c:Int) == 58)=false:=by rw [beq_eq_false_iff_ne]; omega
  have d4:((g.st:Int) == 7)=false:=by rw [beq_eq_false_iff_ne]; omega
  have d5:((g.st:Int) == 8)=true:=by rw [beq_iff_eq]; omega
  clear e hc44 hc93 hc58 hs8
  go_enter Tryz.func151,Tryz.ntmps151
  go_wp2_with fail
  refine (g_count HH.out c hc 9 9 rfl).mono ?_
  rintro r w1 ⟨rfl,hr⟩
  have HR:=hide hr
  clear hr
  generalize gCount g c 9=g2 at *
  go_wp2
  go_ret
  exact ⟨rfl,HR.out⟩
 have e:gSelEnd g c={ g with st:=0 }:=by
  unfold gSelEnd
  repeat' split
  all_goals first | rfl | (exfalso; omega)
 rw [e]
 have d1:((c:Int) == 44)=false:=by rw [beq_eq_false_iff_ne]; omega
 have d2:((c:Int) == 93)=false:=by rw [beq_eq_false_iff_ne]; omega
 have d3:((c:Int) == 58)=false:=by rw [beq_eq_false_iff_ne]; omega
 have d4:((g.st:Int) == 8)=false:=by rw [beq_eq_false_iff_ne]; omega
 clear e hc44 hc93 hc58 hs8
 go_enter Tryz.func151,Tryz.ntmps151
 go_wp2
 go_ret
 exact ⟨rfl,Rg.as (Rg.same HH.out) _ rfl rfl rfl rfl⟩
set_option maxHeartbeats 2000000 in
theorem g_wordOrStar {w:World} {b:Nat} {g:G} (h:HasG w b g.st g) (c:Nat) (hc:c<256) :
 Calls Tryz.prog 196 #[.pointer (some ⟨b,0,none⟩),.int .u8 (c:Int)] w (Ans b w g.st (gStar g c)):=by
 have c0:=h.c0
 have HH:=hide h
 clear h
 by_cases hc42:c=42
 ·have e:gStar g c={ g with st:=3 }:=by
   unfold gStar
   repeat' split
   all_goals first | rfl | (exfalso; omega)
  rw [e]
  have d1:((c:Int) == 42)=true:=by rw [beq_iff_eq]; omega
  clear e hc42
  go_enter Tryz.func196,Tryz.ntmps196
  go_wp2
  go_ret
  exact ⟨rfl,Rg.as (Rg.same HH.out) _ rfl rfl rfl rfl⟩
 have e:gStar g c=gWord g c 3:=by
  unfold gStar
  repeat' split
  all_goals first | rfl | (exfalso; omega)
 rw [e]
 have d1:((c:Int) == 42)=false:=by rw [beq_eq_false_iff_ne]; omega
 clear e hc42
 go_enter Tryz.func196,Tryz.ntmps196
 go_wp2_with fail
 refine (g_word HH.out c hc 3 3 rfl).mono ?_
 rintro r w1 ⟨rfl,hr⟩
 have HR:=hide hr
 clear hr
 generalize gWord g c 3=g2 at *
 go_wp2
 go_ret
 exact ⟨rfl,HR.out⟩
set_option maxHeartbeats 2000000 in
theorem g_selector {w:World} {b:Nat} {g:G} (h:HasG w b g.st g) (c:Nat) (hc:c<256) :
 Calls Tryz.prog 150 #[.pointer (some ⟨b,0,none⟩),.int .u8 (c:Int)] w (Ans b w g.st (gSelector g c)):=by
 have c0:=h.c0
 have HH:=hide h
 clear h
 by_cases hc42:c=42
 ·have e:gSelector g c={ g with st:=9 }:=by
   unfold gSelector
   repeat' split
   all_goals first | rfl | (exfalso; omega)
  rw [e]
  have d1:((c:Int) == 42)=true:=by rw [beq_iff_eq]; omega
  have d2:((c:Int) == 39)=false:=by rw [beq_eq_false_iff_ne]; omega
  have d3:((c:Int) == 45)=false:=by rw [beq_eq_false_iff_ne]; omega
  have d4:((c:Int) == 58)=false:=by rw [beq_eq_false_iff_ne]; omega
  have d5:((c:Int) == 63)=false:=by rw [beq_eq_false_iff_ne]; omega
  clear e hc42
  go_enter Tryz.func150,Tryz.ntmps150
  go_wp2
  go_ret
  exact ⟨rfl,Rg.as (Rg.same HH.out) _ rfl rfl rfl rfl⟩
 by_cases hc39:c=39
 ·have e:gSelector g c=gQuote g 9:=by
   unfold gSelector
   repeat' split
   all_goals first | rfl | (exfalso; omega)
  rw [e]
  have d1:((c:Int) == 42)=false:=by rw [beq_eq_false_iff_ne]; omega
  have d2:((c:Int) == 39)=true:=by rw [beq_iff_eq]; omega
  have d3:((c:Int) == 45)=false:=by rw [beq_eq_false_iff_ne]; omega
  have d4:((c:Int) == 58)=false:=by rw [beq_eq_false_iff_ne]; omega
  have d5:((c:Int) == 63)=false:=by rw [beq_eq_false_iff_ne]; omega
  clear e hc42 hc39
  go_enter Tryz.func150,Tryz.ntmps150
  go_wp2_with fail
  refine (g_quote HH.out 9 9 rfl).mono ?_
  rintro r w1 ⟨rfl,hr⟩
  have HR:=hide hr
  clear hr
  generalize gQuote g 9=g2 at *
  go_wp2
  go_ret
  exact ⟨rfl,HR.out⟩
 by_cases hc45:c=45
 ·have e:gSelector g c=gMinus g 9:=by
   unfold gSelector
   repeat' split
   all_goals first | rfl | (exfalso; omega)
  rw [e]
  have d1:((c:Int) == 42)=false:=by rw [beq_eq_false_iff_ne]; omega
  have d2:((c:Int) == 39)=false:=by rw [beq_eq_false_iff_ne]; omega
  have d3:((c:Int) == 45)=true:=by rw [beq_iff_eq]; omega
  have d4:((c:Int) == 58)=false:=by rw [beq_eq_false_iff_ne]; omega
  have d5:((c:Int) == 63)=false:=by rw [beq_eq_false_iff_ne]; omega
  clear e hc42 hc39 hc45
  go_enter Tryz.func150,Tryz.ntmps150
  go_wp2_with fail
  refine (g_minus HH.out 9 9 rfl).mono ?_
  rintro r w1 ⟨rfl,hr⟩
  have HR:=hide hr
  clear hr
  generalize gMinus g 9=g2 at *
  go_wp2
  go_ret
  exact ⟨rfl,HR.out⟩
 by_cases hc58:c=58
 ·have e:gSelector g c={ g with st:=8 }:=by
   unfold gSelector
   repeat' split
   all_goals first | rfl | (exfalso; omega)
  rw [e]
  have d1:((c:Int) == 42)=false:=by rw [beq_eq_false_iff_ne]; omega
  have d2:((c:Int) == 39)=false:=by rw [beq_eq_false_iff_ne]; omega
  have d3:((c:Int) == 45)=false:=by rw [beq_eq_false_iff_ne]; omega
  have d4:((c:Int) == 58)=true:=by rw [beq_iff_eq]; omega
  have d5:((c:Int) == 63)=false:=by rw [beq_eq_false_iff_ne]; omega
  clear e hc42 hc39 hc45 hc58
  go_enter Tryz.func150,Tryz.ntmps150
  go_wp2
  go_ret
  exact ⟨rfl,Rg.as (Rg.same HH.out) _ rfl rfl rfl rfl⟩
 by_cases hc63:c=63
 ·have e:gSelector g c={ g with st:=10 }:=by
   unfold gSelector
   repeat' split
   all_goals first | rfl | (exfalso; omega)
  rw [e]
  have d1:((c:Int) == 42)=false:=by rw [beq_eq_false_iff_ne]; omega
  have d2:((c:Int) == 39)=false:=by rw [beq_eq_false_iff_ne]; omega
  have d3:((c:Int) == 45)=false:=by rw [beq_eq_false_iff_ne]; omega
  have d4:((c:Int) == 58)=false:=by rw [beq_eq_false_iff_ne]; omega
  have d5:((c:Int) == 63)=true:=by rw [beq_iff_eq]; omega
  clear e hc42 hc39 hc45 hc58 hc63
  go_enter Tryz.func150,Tryz.ntmps150
  go_wp2
  go_ret
  exact ⟨rfl,Rg.as (Rg.same HH.out) _ rfl rfl rfl rfl⟩
 have e:gSelector g c=gCount g c 7:=by
  unfold gSelector
  repeat' split
  all_goals first | rfl | (exfalso; omega)
 rw [e]
 have d1:((c:Int) == 42)=false:=by rw [beq_eq_false_iff_ne]; omega
 have d2:((c:Int) == 39)=false:=by rw [beq_eq_false_iff_ne]; omega
 have d3:((c:Int) == 45)=false:=by rw [beq_eq_false_iff_ne]; omega
 have d4:((c:Int) == 58)=false:=by rw [beq_eq_false_iff_ne]; omega
 have d5:((c:Int) == 63)=false:=by rw [beq_eq_false_iff_ne]; omega
 clear e hc42 hc39 hc45 hc58 hc63
 go_enter Tryz.func150,Tryz.ntmps150
 go_wp2_with fail
 refine (g_count HH.out c hc 7 7 rfl).mono ?_
 rintro r w1 ⟨rfl,hr⟩
 have HR:=hide hr
 clear hr
 generalize gCount g c 7=g2 at *
 go_wp2
 go_ret
 exact ⟨rfl,HR.out⟩
set_option maxHeartbeats 2000000 in
theorem g_segment {w:World} {b:Nat} {g:G} (h:HasG w b g.st g) (c:Nat) (hc:c<256) :
 Calls Tryz.prog 149 #[.pointer (some ⟨b,0,none⟩),.int .u8 (c:Int)] w (Ans b w g.st (gSegment g c)):=by
 have c0:=h.c0
 have HH:=hide h
 clear h
 by_cases hs2:g.st=2
 ·by_cases hc36:c=36
  ·have e:gSegment g c={ g with st:=3 }:=by
    unfold gSegment
    repeat' split
    all_goals first | rfl | (exfalso; omega)
   rw [e]
   have d1:((g.st:Int) == 2)=true:=by rw [beq_iff_eq]; omega
   have d2:((c:Int) == 36)=true:=by rw [beq_iff_eq]; omega
   have d3:((g.st:Int) == 3)=false:=by rw [beq_eq_false_iff_ne]; omega
   have d4:((c:Int) == 46)=false:=by rw [beq_eq_false_iff_ne]; omega
   have d5:((c:Int) == 91)=false:=by rw [beq_eq_false_iff_ne]; omega
   have d6:((g.st:Int) == 5)=false:=by rw [beq_eq_false_iff_ne]; omega
   have d7:((g.st:Int) == 4)=false:=by rw [beq_eq_false_iff_ne]; omega
   clear e hs2 hc36
   go_enter Tryz.func149,Tryz.ntmps149
   go_wp2
   go_ret
   exact ⟨rfl,Rg.as (Rg.same HH.out) _ rfl rfl rfl rfl⟩
  have e:gSegment g c={ g with st:=0 }:=by
   unfold gSegment
   repeat' split
   all_goals first | rfl | (exfalso; omega)
  rw [e]
  have d1:((g.st:Int) == 2)=true:=by rw [beq_iff_eq]; omega
  have d2:((c:Int) == 36)=false:=by rw [beq_eq_false_iff_ne]; omega
  have d3:((g.st:Int) == 3)=false:=by rw [beq_eq_false_iff_ne]; omega
  have d4:((g.st:Int) == 5)=false:=by rw [beq_eq_false_iff_ne]; omega
  have d5:((g.st:Int) == 4)=false:=by rw [beq_eq_false_iff_ne]; omega
  clear e hs2 hc36
  go_enter Tryz.func149,Tryz.ntmps149
  go_wp2
  go_ret
  exact ⟨rfl,Rg.as (Rg.same HH.out) _ rfl rfl rfl rfl⟩
 by_cases hs3:g.st=3
 ·by_cases hc46:c=46
  ·have e:gSegment g c={ g with st:=4 }:=by
    unfold gSegment
    repeat' split
    all_goals first | rfl | (exfalso; omega)
   rw [e]
   have d1:((g.st:Int) == 2)=false:=by rw [beq_eq_false_iff_ne]; omega
   have d2:((c:Int) == 36)=false:=by rw [beq_eq_false_iff_ne]; omega
   have d3:((g.st:Int) == 3)=true:=by rw [beq_iff_eq]; omega
   have d4:((c:Int) == 46)=true:=by rw [beq_iff_eq]; omega
   have d5:((c:Int) == 91)=false:=by rw [beq_eq_false_iff_ne]; omega
   have d6:((g.st:Int) == 5)=false:=by rw [beq_eq_false_iff_ne]; omega
   have d7:((g.st:Int) == 4)=false:=by rw [beq_eq_false_iff_ne]; omega
   clear e hs2 hs3 hc46
   go_enter Tryz.func149,Tryz.ntmps149
   go_wp2
   go_ret
   exact ⟨rfl,Rg.as (Rg.same HH.out) _ rfl rfl rfl rfl⟩
  by_cases hc91:c=91
  ·have e:gSegment g c={ g with st:=6 }:=by
    unfold gSegment
    repeat' split
    all_goals first | rfl | (exfalso; omega)
   rw [e]
   have d1:((g.st:Int) == 2)=false:=by rw [beq_eq_false_iff_ne]; omega
   have d2:((c:Int) == 36)=false:=by rw [beq_eq_false_iff_ne]; omega
   have d3:((g.st:Int) == 3)=true:=by rw [beq_iff_eq]; omega
   have d4:((c:Int) == 46)=false:=by rw [beq_eq_false_iff_ne]; omega
   have d5:((c:Int) == 91)=true:=by rw [beq_iff_eq]; omega
   have d6:((g.st:Int) == 5)=false:=by rw [beq_eq_false_iff_ne]; omega
   have d7:((g.st:Int) == 4)=false:=by rw [beq_eq_false_iff_ne]; omega
   clear e hs2 hs3 hc46 hc91
   go_enter Tryz.func149,Tryz.ntmps149
   go_wp2
   go_ret
   exact ⟨rfl,Rg.as (Rg.same HH.out) _ rfl rfl rfl rfl⟩
  have e:gSegment g c={ g with st:=0 }:=by
   unfold gSegment
   repeat' split
   all_goals first | rfl | (exfalso; omega)
  rw [e]
  have d1:((g.st:Int) == 2)=false:=by rw [beq_eq_false_iff_ne]; omega
  have d2:((g.st:Int) == 3)=true:=by rw [beq_iff_eq]; omega
  have d3:((c:Int) == 46)=false:=by rw [beq_eq_false_iff_ne]; omega
  have d4:((c:Int) == 91)=false:=by rw [beq_eq_false_iff_ne]; omega
  have d5:((g.st:Int) == 5)=false:=by rw [beq_eq_false_iff_ne]; omega
  have d6:((g.st:Int) == 4)=false:=by rw [beq_eq_false_iff_ne]; omega
  clear e hs2 hs3 hc46 hc91
  go_enter Tryz.func149,Tryz.ntmps149
  go_wp2
  go_ret
  exact ⟨rfl,Rg.as (Rg.same HH.out) _ rfl rfl rfl rfl⟩
 by_cases hs4:g.st=4
 ·by_cases hc46:c=46
  ·have e:gSegment g c={ g with st:=5 }:=by
    unfold gSegment
    repeat' split
    all_goals first | rfl | (exfalso; omega)
   rw [e]
   have d1:((g.st:Int) == 2)=false:=by rw [beq_eq_false_iff_ne]; omega
   have d2:((c:Int) == 36)=false:=by rw [beq_eq_false_iff_ne]; omega
   have d3:((g.st:Int) == 3)=false:=by rw [beq_eq_false_iff_ne]; omega
   have d4:((c:Int) == 46)=true:=by rw [beq_iff_eq]; omega
   have d5:((c:Int) == 91)=false:=by rw [beq_eq_false_iff_ne]; omega
   have d6:((g.st:Int) == 5)=false:=by rw [beq_eq_false_iff_ne]; omega
   have d7:((g.st:Int) == 4)=true:=by rw [beq_iff_eq]; omega
   clear e hs2 hs3 hs4 hc46
   go_enter Tryz.func149,Tryz.ntmps149
   go_wp2
   go_ret
   exact ⟨rfl,Rg.as (Rg.same HH.out) _ rfl rfl rfl rfl⟩
  have e:gSegment g c=gStar g c:=by
   unfold gSegment
   repeat' split
   all_goals first | rfl | (exfalso; omega)
  rw [e]
  have d1:((g.st:Int) == 2)=false:=by rw [beq_eq_false_iff_ne]; omega
  have d2:((g.st:Int) == 3)=false:=by rw [beq_eq_false_iff_ne]; omega
  have d3:((c:Int) == 46)=false:=by rw [beq_eq_false_iff_ne]; omega
  have d4:((g.st:Int) == 5)=false:=by rw [beq_eq_false_iff_ne]; omega
  have d5:((g.st:Int) == 4)=true:=by rw [beq_iff_eq]; omega
  clear e hs2 hs3 hs4 hc46
  go_enter Tryz.func149,Tryz.ntmps149
  go_wp2_with fail
  refine (g_wordOrStar HH.out c hc).mono ?_
  rintro r w1 ⟨rfl,hr⟩
  have HR:=hide hr
  clear hr
  generalize gStar g c=g2 at *
  go_wp2
  go_ret
  exact ⟨rfl,HR.out⟩
 by_cases hs5:g.st=5
 ·by_cases hc91:c=91
  ·have e:gSegment g c={ g with st:=6 }:=by
    unfold gSegment
    repeat' split
    all_goals first | rfl | (exfalso; omega)
   rw [e]
   have d1:((g.st:Int) == 2)=false:=by rw [beq_eq_false_iff_ne]; omega
   have d2:((c:Int) == 36)=false:=by rw [beq_eq_false_iff_ne]; omega
   have d3:((g.st:Int) == 3)=false:=by rw [beq_eq_false_iff_ne]; omega
   have d4:((c:Int) == 46)=false:=by rw [beq_eq_false_iff_ne]; omega
   have d5:((c:Int) == 91)=true:=by rw [beq_iff_eq]; omega
   have d6:((g.st:Int) == 5)=true:=by rw [beq_iff_eq]; omega
   have d7:((g.st:Int) == 4)=false:=by rw [beq_eq_false_iff_ne]; omega
   clear e hs2 hs3 hs4 hs5 hc91
   go_enter Tryz.func149,Tryz.ntmps149
   go_wp2
   go_ret
   exact ⟨rfl,Rg.as (Rg.same HH.out) _ rfl rfl rfl rfl⟩
  have e:gSegment g c=gStar g c:=by
   unfold gSegment
   repeat' split
   all_goals first | rfl | (exfalso; omega)
  rw [e]
  have d1:((g.st:Int) == 2)=false:=by rw [beq_eq_false_iff_ne]; omega
  have d2:((g.st:Int) == 3)=false:=by rw [beq_eq_false_iff_ne]; omega
  have d3:((c:Int) == 91)=false:=by rw [beq_eq_false_iff_ne]; omega
  have d4:((g.st:Int) == 5)=true:=by rw [beq_iff_eq]; omega
  have d5:((g.st:Int) == 4)=false:=by rw [beq_eq_false_iff_ne]; omega
  clear e hs2 hs3 hs4 hs5 hc91
  go_enter Tryz.func149,Tryz.ntmps149
  go_wp2_with fail
  refine (g_wordOrStar HH.out c hc).mono ?_
  rintro r w1 ⟨rfl,hr⟩
  have HR:=hide hr
  clear hr
  generalize gStar g c=g2 at *
  go_wp2
  go_ret
  exact ⟨rfl,HR.out⟩
 have e:gSegment g c={ g with st:=0 }:=by
  unfold gSegment
  repeat' split
  all_goals first | rfl | (exfalso; omega)
 rw [e]
 have d1:((g.st:Int) == 2)=false:=by rw [beq_eq_false_iff_ne]; omega
 have d2:((g.st:Int) == 3)=false:=by rw [beq_eq_false_iff_ne]; omega
 have d3:((g.st:Int) == 5)=false:=by rw [beq_eq_false_iff_ne]; omega
 have d4:((g.st:Int) == 4)=false:=by rw [beq_eq_false_iff_ne]; omega
 clear e hs2 hs3 hs4 hs5
 go_enter Tryz.func149,Tryz.ntmps149
 go_wp2
 go_ret
 exact ⟨rfl,Rg.as (Rg.same HH.out) _ rfl rfl rfl rfl⟩
end Go.Proofs.YtcbadebjpogmlaaGreatDoor
