import Derived.Test.YtcbadebjpogmlaaGreatDoorPPrgC
import Derived.Test.YtcbadebjpogmlaaGreatDoorPPrgA
namespace Go.Proofs.YtcbadebjpogmlaaGreatDoor
open Go.RowKit Tr
theorem enc33:(Utf8.encode 33).size=1:=by decide
theorem enc40:(Utf8.encode 40).size=1:=by decide
theorem app33 (l:List UInt8):(⟨l.toArray⟩++Utf8.encode 33:ByteArray)=⟨(l++[UInt8.ofNat 33]).toArray⟩:=by
 apply bs_inj
 have e:bs (Utf8.encode 33)=[33]:=by decide
 have e2:bs (⟨l.toArray⟩++Utf8.encode 33)=bs ⟨l.toArray⟩++bs (Utf8.encode 33):=by simp [bs]
 rw [e2,e,bs_mk,bs_mk]; rfl
theorem app40 (l:List UInt8):(⟨l.toArray⟩++Utf8.encode 40:ByteArray)=⟨(l++[UInt8.ofNat 40]).toArray⟩:=by
 apply bs_inj
 have e:bs (Utf8.encode 40)=[40]:=by decide
 have e2:bs (⟨l.toArray⟩++Utf8.encode 40)=bs ⟨l.toArray⟩++bs (Utf8.encode 40):=by simp [bs]
 rw [e2,e,bs_mk,bs_mk]; rfl
set_option maxRecDepth 100000 in
set_option maxHeartbeats 2000000 in
theorem g_part {w:World} {b:Nat} {g:G} (h:HasG w b g.st g) (hl:g.op.length≤6) (c:Nat) (hc:c<256) :
 Calls Tryz.prog 152 #[.pointer (some ⟨b,0,none⟩),.int .u8 (c:Int)] w (Ans b w g.st (gPart g c)):=by
 have c0:=h.c0
 have c4:=h.c4
 have f4:=h.fz 4
 have HH:=hide h
 clear h
 by_cases h64:c=64
 ·have e:gPart g c={ g with st:=11 }:=by simp [gPart,h64]
  rw [e]
  have d1:((c:Int) == 64)=true:=by rw [beq_iff_eq]; omega
  clear e h64
  go_enter Tryz.func152,Tryz.ntmps152
  go_wp2
  go_ret
  exact ⟨rfl,Rg.as (Rg.same HH.out) _ rfl rfl rfl rfl⟩
 by_cases hb:c=33∨c=40
 ·by_cases h6:g.op.length=6
  ·have e:gPart g c={ g with st:=1 }:=by
    unfold gPart
    rw [if_neg h64,if_neg (by omega),if_pos h6]
   rw [e]
   have d1:((c:Int) == 64)=false:=by rw [beq_eq_false_iff_ne]; omega
   have hsz:(⟨g.op.toArray⟩:ByteArray).size=6:=by rw [← bs_len,bs_mk]; exact h6
   have hs6:g.op.length=6:=h6
   rcases hb with rfl | rfl
   all_goals
    clear e h64 h6
    go_enter Tryz.func152,Tryz.ntmps152
    go_wp2
    go_ret
    exact ⟨rfl,Rg.as (Rg.same HH.out) _ rfl rfl rfl rfl⟩
  have e:gPart g c={ g with st:=10,op:=g.op++[UInt8.ofNat c] }:=by
   unfold gPart
   rw [if_neg h64,if_neg (by omega),if_neg h6]
  rw [e]
  have d1:((c:Int) == 64)=false:=by rw [beq_eq_false_iff_ne]; omega
  have hs6:((g.op.length:Int) == 6)=false:=by rw [beq_eq_false_iff_ne]; omega
  rcases hb with rfl | rfl
  all_goals
   clear e h64 h6
   have hu1:=enc33
   have hu2:=enc40
   go_enter Tryz.func152,Tryz.ntmps152
   go_wp2
   go_ret
   refine ⟨rfl,?_⟩
   first | rw [app33] | rw [app40]
   exact Rg.as ((Rg.same HH.out).set4 _) _ rfl rfl rfl rfl
 have e:gPart g c={ g with st:=0 }:=by
  unfold gPart
  rw [if_neg h64,if_pos (by omega)]
 rw [e]
 have d1:((c:Int) == 64)=false:=by rw [beq_eq_false_iff_ne]; omega
 have d2:((c:Int) != 33)=true:=by rw [bne_iff_ne]; omega
 have d3:((c:Int) != 40)=true:=by rw [bne_iff_ne]; omega
 clear e h64 hb
 go_enter Tryz.func152,Tryz.ntmps152
 go_wp2
 go_ret
 exact ⟨rfl,Rg.as (Rg.same HH.out) _ rfl rfl rfl rfl⟩
theorem trimR_len (l:List UInt8):(trimR l).length≤l.length:=by
 unfold trimR
 rw [List.length_reverse]
 have h1:(l.reverse.dropWhile (fun x=>x == 33)).length≤l.reverse.length:=(List.dropWhile_suffix _).length_le
 rw [List.length_reverse] at h1
 exact h1
set_option maxRecDepth 100000 in
set_option maxHeartbeats 4000000 in
theorem g_partEnd {w:World} {b:Nat} {g:G} (h:HasG w b g.st g) (hl:g.op.length≤6) (c:Nat) (hc:c<256) :
 Calls Tryz.prog 153 #[.pointer (some ⟨b,0,none⟩),.int .u8 (c:Int)] w (Ans b w g.st (gPartEnd g c)):=by
 have hl120:g.op.length≤120:=by omega
 have c0:=h.c0
 have c4:=h.c4
 have f4:=h.fz 4
 have HH:=hide h
 clear h
 by_cases h38:c=38
 ·have e:gPartEnd g c={ g with st:=19,op:=trimR g.op }:=by
   unfold gPartEnd
   simp only
   repeat' split
   all_goals first | rfl | (exfalso; omega) | (exfalso; simp_all; done)
  rw [e]
  have d1:((c:Int) == 38)=true:=by rw [beq_iff_eq]; omega
  clear e
  go_enter Tryz.func153,Tryz.ntmps153
  go_wp2_with fail
  refine (c_trimRight g.op hl120).mono ?_
  rintro r w1 ⟨rfl,rfl⟩
  have R1:=hide ((Rg.same HH.out).set4 (trimR g.op))
  go_wp2
  go_ret
  exact ⟨rfl,Rg.as R1.out _ rfl rfl rfl rfl⟩
 by_cases h124:c=124
 ·have e:gPartEnd g c={ g with st:=20,op:=trimR g.op }:=by
   unfold gPartEnd
   simp only
   repeat' split
   all_goals first | rfl | (exfalso; omega) | (exfalso; simp_all; done)
  rw [e]
  have d1:((c:Int) == 38)=false:=by rw [beq_eq_false_iff_ne]; omega
  have d2:((c:Int) == 124)=true:=by rw [beq_iff_eq]; omega
  clear e
  go_enter Tryz.func153,Tryz.ntmps153
  go_wp2_with fail
  refine (c_trimRight g.op hl120).mono ?_
  rintro r w1 ⟨rfl,rfl⟩
  have R1:=hide ((Rg.same HH.out).set4 (trimR g.op))
  go_wp2
  go_ret
  exact ⟨rfl,Rg.as R1.out _ rfl rfl rfl rfl⟩
 by_cases h41:c=41
 ·cases hop:trimR g.op with
  | nil =>
   have e:gPartEnd g c=gSelEnd { g with op:=[] } c:=by
    unfold gPartEnd
    simp [hop,h38,h124]
   rw [e]
   have d1:((c:Int) == 38)=false:=by rw [beq_eq_false_iff_ne]; omega
   have d2:((c:Int) == 124)=false:=by rw [beq_eq_false_iff_ne]; omega
   have d3:((c:Int) == 41)=true:=by rw [beq_iff_eq]; omega
   clear h38 h124 h41
   clear e
   go_enter Tryz.func153,Tryz.ntmps153
   go_wp2_with fail
   refine (c_trimRight g.op hl120).mono ?_
   rintro r w1 ⟨rfl,rfl⟩
   have R1:=hide ((Rg.same HH.out).set4 (trimR g.op))
   rw [hop] at R1
   go_wp2_with fail
   refine (g_selectorEnd (g:={ g with op:=[] }) (by exact R1.out.m) c hc).mono ?_
   rintro r w2 ⟨rfl,hr⟩
   have R2:=hide (R1.out.trans hr)
   clear hr
   generalize gSelEnd { g with op:=[] } c=g3 at *
   go_wp2
   go_ret
   exact ⟨rfl,R2.out⟩
  | cons a rr =>
   have hne:trimR g.op≠[]:=by rw [hop]; simp
   have e:gPartEnd g c={ g with st:=18,op:=trimS (trimR g.op) }:=by
    unfold gPartEnd
    simp only
    repeat' split
    all_goals first | rfl | (exfalso; omega) | (exfalso; simp_all; done)
   rw [e]
   have d1:((c:Int) == 38)=false:=by rw [beq_eq_false_iff_ne]; omega
   have d2:((c:Int) == 124)=false:=by rw [beq_eq_false_iff_ne]; omega
   have d3:((c:Int) == 41)=true:=by rw [beq_iff_eq]; omega
   clear h38 h124 h41
   clear e
   go_enter Tryz.func153,Tryz.ntmps153
   go_wp2_with fail
   refine (c_trimRight g.op hl120).mono ?_
   rintro r w1 ⟨rfl,rfl⟩
   have R1:=hide ((Rg.same HH.out).set4 (trimR g.op))
   have c41:=R1.out.m.c4
   have f41:=R1.out.m.fz 4
   have hbm:=bs_mk (trimR g.op)
   have hsz:(⟨(trimR g.op).toArray⟩:ByteArray).size=rr.length+1:=by rw [← bs_len,hbm,hop]; rfl
   have hlen:rr.length+1≤6:=by have:=trimR_len g.op; rw [hop] at this; simp at this; omega
   have HBM:=hide hbm
   have HSZ:=hide hsz
   have HOP:=hide hop
   clear hbm hsz
   rw [hop] at HBM HSZ R1 c41 f41
   simp only [hop]
   clear hop
   go_wp2_with fail
   refine (c_trimSuffix ⟨(a::rr).toArray⟩ rr.length HSZ.out (by rw [HSZ.out]; omega) (by rw [HSZ.out]; omega)).mono ?_
   rintro r w2 ⟨t1,rfl,h1,rfl⟩
   have hT:t1=⟨(trimS (a::rr)).toArray⟩:=by
    apply bs_inj
    rw [h1,HBM.out,bs_mk]
   subst hT
   clear h1
   go_wp2
   go_ret
   refine ⟨rfl,Rg.as (g:={ g with op:=trimS (a::rr) }) ?_ _ rfl rfl rfl (by rw [HOP.out])⟩
   first | exact (Rg.same HH.out).set4 (trimS (a::rr)) | exact R1.out.set4 (trimS (a::rr))
 cases hop:trimR g.op with
 | nil =>
  have e:gPartEnd g c=gSelEnd { g with op:=[] } c:=by
   unfold gPartEnd
   simp [hop,h38,h124]
  rw [e]
  have d1:((c:Int) == 38)=false:=by rw [beq_eq_false_iff_ne]; omega
  have d2:((c:Int) == 124)=false:=by rw [beq_eq_false_iff_ne]; omega
  have d3:((c:Int) == 41)=false:=by rw [beq_eq_false_iff_ne]; omega
  clear h38 h124 h41
  clear e
  go_enter Tryz.func153,Tryz.ntmps153
  go_wp2_with fail
  refine (c_trimRight g.op hl120).mono ?_
  rintro r w1 ⟨rfl,rfl⟩
  have R1:=hide ((Rg.same HH.out).set4 (trimR g.op))
  rw [hop] at R1
  go_wp2_with fail
  refine (g_selectorEnd (g:={ g with op:=[] }) (by exact R1.out.m) c hc).mono ?_
  rintro r w2 ⟨rfl,hr⟩
  have R2:=hide (R1.out.trans hr)
  clear hr
  generalize gSelEnd { g with op:=[] } c=g3 at *
  go_wp2
  go_ret
  exact ⟨rfl,R2.out⟩
 | cons a rr =>
  have hne:trimR g.op≠[]:=by rw [hop]; simp
  have e:gPartEnd g c={ g with st:=0,op:=trimR g.op }:=by
   unfold gPartEnd
   simp only
   repeat' split
   all_goals first | rfl | (exfalso; omega) | (exfalso; simp_all; done)
  rw [e]
  have d1:((c:Int) == 38)=false:=by rw [beq_eq_false_iff_ne]; omega
  have d2:((c:Int) == 124)=false:=by rw [beq_eq_false_iff_ne]; omega
  have d3:((c:Int) == 41)=false:=by rw [beq_eq_false_iff_ne]; omega
  clear h38 h124 h41
  clear e
  go_enter Tryz.func153,Tryz.ntmps153
  go_wp2_with fail
  refine (c_trimRight g.op hl120).mono ?_
  rintro r w1 ⟨rfl,rfl⟩
  have R1:=hide ((Rg.same HH.out).set4 (trimR g.op))
  have HOP:=hide hop
  rw [hop]
  rw [hop] at R1
  clear hop
  go_wp2
  go_ret
  refine ⟨rfl,Rg.as R1.out _ rfl rfl rfl HOP.out⟩
set_option maxHeartbeats 2000000 in
theorem g_stepEnd {w:World} {b:Nat} {g:G} (h:HasG w b g.st g) (hl:g.op.length≤6) (c:Nat) (hc:c<256) :
 Calls Tryz.prog 154 #[.pointer (some ⟨b,0,none⟩),.int .u8 (c:Int)] w (Ans b w g.st (gStepEnd g c)):=by
 have c0:=h.c0
 have HH:=hide h
 clear h
 by_cases hc46:c=46
 ·have e:gStepEnd g c={ g with st:=12 }:=by
   unfold gStepEnd
   repeat' split
   all_goals first | rfl | (exfalso; omega)
  rw [e]
  have d1:((c:Int) == 46)=true:=by rw [beq_iff_eq]; omega
  have d2:((c:Int) == 91)=false:=by rw [beq_eq_false_iff_ne]; omega
  have d3:((c:Int) == 61)=false:=by rw [beq_eq_false_iff_ne]; omega
  have d4:((c:Int) == 33)=false:=by rw [beq_eq_false_iff_ne]; omega
  have d5:((c:Int) == 60)=false:=by rw [beq_eq_false_iff_ne]; omega
  clear e hc46
  go_enter Tryz.func154,Tryz.ntmps154
  go_wp2
  go_ret
  exact ⟨rfl,Rg.as (Rg.same HH.out) _ rfl rfl rfl rfl⟩
 by_cases hc91:c=91
 ·have e:gStepEnd g c={ g with st:=13 }:=by
   unfold gStepEnd
   repeat' split
   all_goals first | rfl | (exfalso; omega)
  rw [e]
  have d1:((c:Int) == 46)=false:=by rw [beq_eq_false_iff_ne]; omega
  have d2:((c:Int) == 91)=true:=by rw [beq_iff_eq]; omega
  have d3:((c:Int) == 61)=false:=by rw [beq_eq_false_iff_ne]; omega
  have d4:((c:Int) == 33)=false:=by rw [beq_eq_false_iff_ne]; omega
  have d5:((c:Int) == 60)=false:=by rw [beq_eq_false_iff_ne]; omega
  clear e hc46 hc91
  go_enter Tryz.func154,Tryz.ntmps154
  go_wp2
  go_ret
  exact ⟨rfl,Rg.as (Rg.same HH.out) _ rfl rfl rfl rfl⟩
 by_cases hc61:c=61
 ·have e:gStepEnd g c={ g with st:=15 }:=by
   unfold gStepEnd
   repeat' split
   all_goals first | rfl | (exfalso; omega)
  rw [e]
  have d1:((c:Int) == 46)=false:=by rw [beq_eq_false_iff_ne]; omega
  have d2:((c:Int) == 91)=false:=by rw [beq_eq_false_iff_ne]; omega
  have d3:((c:Int) == 61)=true:=by rw [beq_iff_eq]; omega
  have d4:((c:Int) == 33)=false:=by rw [beq_eq_false_iff_ne]; omega
  have d5:((c:Int) == 60)=false:=by rw [beq_eq_false_iff_ne]; omega
  clear e hc46 hc91 hc61
  go_enter Tryz.func154,Tryz.ntmps154
  go_wp2
  go_ret
  exact ⟨rfl,Rg.as (Rg.same HH.out) _ rfl rfl rfl rfl⟩
 by_cases hc33:c=33
 ·have e:gStepEnd g c={ g with st:=15 }:=by
   unfold gStepEnd
   repeat' split
   all_goals first | rfl | (exfalso; omega)
  rw [e]
  have d1:((c:Int) == 46)=false:=by rw [beq_eq_false_iff_ne]; omega
  have d2:((c:Int) == 91)=false:=by rw [beq_eq_false_iff_ne]; omega
  have d3:((c:Int) == 61)=false:=by rw [beq_eq_false_iff_ne]; omega
  have d4:((c:Int) == 33)=true:=by rw [beq_iff_eq]; omega
  have d5:((c:Int) == 60)=false:=by rw [beq_eq_false_iff_ne]; omega
  clear e hc46 hc91 hc61 hc33
  go_enter Tryz.func154,Tryz.ntmps154
  go_wp2
  go_ret
  exact ⟨rfl,Rg.as (Rg.same HH.out) _ rfl rfl rfl rfl⟩
 by_cases hc60:c=60
 ·have e:gStepEnd g c={ g with st:=16 }:=by
   unfold gStepEnd
   repeat' split
   all_goals first | rfl | (exfalso; omega)
  rw [e]
  have d1:((c:Int) == 46)=false:=by rw [beq_eq_false_iff_ne]; omega
  have d2:((c:Int) == 91)=false:=by rw [beq_eq_false_iff_ne]; omega
  have d3:((c:Int) == 61)=false:=by rw [beq_eq_false_iff_ne]; omega
  have d4:((c:Int) == 33)=false:=by rw [beq_eq_false_iff_ne]; omega
  have d5:((c:Int) == 60)=true:=by rw [beq_iff_eq]; omega
  clear e hc46 hc91 hc61 hc33 hc60
  go_enter Tryz.func154,Tryz.ntmps154
  go_wp2
  go_ret
  exact ⟨rfl,Rg.as (Rg.same HH.out) _ rfl rfl rfl rfl⟩
 have e:gStepEnd g c=gPartEnd g c:=by
  unfold gStepEnd
  repeat' split
  all_goals first | rfl | (exfalso; omega)
 rw [e]
 have d1:((c:Int) == 46)=false:=by rw [beq_eq_false_iff_ne]; omega
 have d2:((c:Int) == 91)=false:=by rw [beq_eq_false_iff_ne]; omega
 have d3:((c:Int) == 61)=false:=by rw [beq_eq_false_iff_ne]; omega
 have d4:((c:Int) == 33)=false:=by rw [beq_eq_false_iff_ne]; omega
 have d5:((c:Int) == 60)=false:=by rw [beq_eq_false_iff_ne]; omega
 clear e hc46 hc91 hc61 hc33 hc60
 go_enter Tryz.func154,Tryz.ntmps154
 go_wp2_with fail
 refine (g_partEnd HH.out hl c hc).mono ?_
 rintro r w1 ⟨rfl,hr⟩
 have HR:=hide hr
 clear hr
 generalize gPartEnd g c=g2 at *
 go_wp2
 go_ret
 exact ⟨rfl,HR.out⟩
set_option maxHeartbeats 2000000 in
theorem g_between {w:World} {b:Nat} {g:G} (h:HasG w b g.st g) (hl:g.op.length≤6) (c:Nat) (hc:c<256) :
 Calls Tryz.prog 112 #[.pointer (some ⟨b,0,none⟩),.int .u8 (c:Int)] w (Ans b w g.st (gBetween g c)):=by
 have c0:=h.c0
 have HH:=hide h
 clear h
 by_cases hs2:g.st=2
 ·have e:gBetween g c=gSegment g c:=by
   unfold gBetween
   repeat' split
   all_goals first | rfl | (exfalso; omega)
  rw [e]
  have d1:((g.st:Int) == 2)=true:=by rw [beq_iff_eq]; omega
  have d2:((g.st:Int) == 3)=false:=by rw [beq_eq_false_iff_ne]; omega
  have d3:((g.st:Int) == 4)=false:=by rw [beq_eq_false_iff_ne]; omega
  have d4:((g.st:Int) == 5)=false:=by rw [beq_eq_false_iff_ne]; omega
  have d5:((g.st:Int) == 6)=false:=by rw [beq_eq_false_iff_ne]; omega
  have d6:((g.st:Int) == 7)=false:=by rw [beq_eq_false_iff_ne]; omega
  have d7:((g.st:Int) == 8)=false:=by rw [beq_eq_false_iff_ne]; omega
  have d8:((g.st:Int) == 9)=false:=by rw [beq_eq_false_iff_ne]; omega
  have d9:((g.st:Int) == 10)=false:=by rw [beq_eq_false_iff_ne]; omega
  have d10:((g.st:Int) == 18)=false:=by rw [beq_eq_false_iff_ne]; omega
  have d11:((g.st:Int) == 11)=false:=by rw [beq_eq_false_iff_ne]; omega
  have d12:((g.st:Int) == 15)=false:=by rw [beq_eq_false_iff_ne]; omega
  have d13:((g.st:Int) == 16)=false:=by rw [beq_eq_false_iff_ne]; omega
  have d14:((g.st:Int) == 17)=false:=by rw [beq_eq_false_iff_ne]; omega
  clear e hs2
  go_enter Tryz.func112,Tryz.ntmps112
  go_wp2_with fail
  refine (g_segment HH.out c hc).mono ?_
  rintro r w1 ⟨rfl,hr⟩
  have HR:=hide hr
  clear hr
  generalize gSegment g c=g2 at *
  go_wp2
  go_ret
  exact ⟨rfl,HR.out⟩
 by_cases hs3:g.st=3
 ·have e:gBetween g c=gSegment g c:=by
   unfold gBetween
   repeat' split
   all_goals first | rfl | (exfalso; omega)
  rw [e]
  have d1:((g.st:Int) == 2)=false:=by rw [beq_eq_false_iff_ne]; omega
  have d2:((g.st:Int) == 3)=true:=by rw [beq_iff_eq]; omega
  have d3:((g.st:Int) == 4)=false:=by rw [beq_eq_false_iff_ne]; omega
  have d4:((g.st:Int) == 5)=false:=by rw [beq_eq_false_iff_ne]; omega
  have d5:((g.st:Int) == 6)=false:=by rw [beq_eq_false_iff_ne]; omega
  have d6:((g.st:Int) == 7)=false:=by rw [beq_eq_false_iff_ne]; omega
  have d7:((g.st:Int) == 8)=false:=by rw [beq_eq_false_iff_ne]; omega
  have d8:((g.st:Int) == 9)=false:=by rw [beq_eq_false_iff_ne]; omega
  have d9:((g.st:Int) == 10)=false:=by rw [beq_eq_false_iff_ne]; omega
  have d10:((g.st:Int) == 18)=false:=by rw [beq_eq_false_iff_ne]; omega
  have d11:((g.st:Int) == 11)=false:=by rw [beq_eq_false_iff_ne]; omega
  have d12:((g.st:Int) == 15)=false:=by rw [beq_eq_false_iff_ne]; omega
  have d13:((g.st:Int) == 16)=false:=by rw [beq_eq_false_iff_ne]; omega
  have d14:((g.st:Int) == 17)=false:=by rw [beq_eq_false_iff_ne]; omega
  clear e hs2 hs3
  go_enter Tryz.func112,Tryz.ntmps112
  go_wp2_with fail
  refine (g_segment HH.out c hc).mono ?_
  rintro r w1 ⟨rfl,hr⟩
  have HR:=hide hr
  clear hr
  generalize gSegment g c=g2 at *
  go_wp2
  go_ret
  exact ⟨rfl,HR.out⟩
 by_cases hs4:g.st=4
 ·have e:gBetween g c=gSegment g c:=by
   unfold gBetween
   repeat' split
   all_goals first | rfl | (exfalso; omega)
  rw [e]
  have d1:((g.st:Int) == 2)=false:=by rw [beq_eq_false_iff_ne]; omega
  have d2:((g.st:Int) == 3)=false:=by rw [beq_eq_false_iff_ne]; omega
  have d3:((g.st:Int) == 4)=true:=by rw [beq_iff_eq]; omega
  have d4:((g.st:Int) == 5)=false:=by rw [beq_eq_false_iff_ne]; omega
  have d5:((g.st:Int) == 6)=false:=by rw [beq_eq_false_iff_ne]; omega
  have d6:((g.st:Int) == 7)=false:=by rw [beq_eq_false_iff_ne]; omega
  have d7:((g.st:Int) == 8)=false:=by rw [beq_eq_false_iff_ne]; omega
  have d8:((g.st:Int) == 9)=false:=by rw [beq_eq_false_iff_ne]; omega
  have d9:((g.st:Int) == 10)=false:=by rw [beq_eq_false_iff_ne]; omega
  have d10:((g.st:Int) == 18)=false:=by rw [beq_eq_false_iff_ne]; omega
  have d11:((g.st:Int) == 11)=false:=by rw [beq_eq_false_iff_ne]; omega
  have d12:((g.st:Int) == 15)=false:=by rw [beq_eq_false_iff_ne]; omega
  have d13:((g.st:Int) == 16)=false:=by rw [beq_eq_false_iff_ne]; omega
  have d14:((g.st:Int) == 17)=false:=by rw [beq_eq_false_iff_ne]; omega
  clear e hs2 hs3 hs4
  go_enter Tryz.func112,Tryz.ntmps112
  go_wp2_with fail
  refine (g_segment HH.out c hc).mono ?_
  rintro r w1 ⟨rfl,hr⟩
  have HR:=hide hr
  clear hr
  generalize gSegment g c=g2 at *
  go_wp2
  go_ret
  exact ⟨rfl,HR.out⟩
 by_cases hs5:g.st=5
 ·have e:gBetween g c=gSegment g c:=by
   unfold gBetween
   repeat' split
   all_goals first | rfl | (exfalso; omega)
  rw [e]
  have d1:((g.st:Int) == 2)=false:=by rw [beq_eq_false_iff_ne]; omega
  have d2:((g.st:Int) == 3)=false:=by rw [beq_eq_false_iff_ne]; omega
  have d3:((g.st:Int) == 4)=false:=by rw [beq_eq_false_iff_ne]; omega
  have d4:((g.st:Int) == 5)=true:=by rw [beq_iff_eq]; omega
  have d5:((g.st:Int) == 6)=false:=by rw [beq_eq_false_iff_ne]; omega
  have d6:((g.st:Int) == 7)=false:=by rw [beq_eq_false_iff_ne]; omega
  have d7:((g.st:Int) == 8)=false:=by rw [beq_eq_false_iff_ne]; omega
  have d8:((g.st:Int) == 9)=false:=by rw [beq_eq_false_iff_ne]; omega
  have d9:((g.st:Int) == 10)=false:=by rw [beq_eq_false_iff_ne]; omega
  have d10:((g.st:Int) == 18)=false:=by rw [beq_eq_false_iff_ne]; omega
  have d11:((g.st:Int) == 11)=false:=by rw [beq_eq_false_iff_ne]; omega
  have d12:((g.st:Int) == 15)=false:=by rw [beq_eq_false_iff_ne]; omega
  have d13:((g.st:Int) == 16)=false:=by rw [beq_eq_false_iff_ne]; omega
  have d14:((g.st:Int) == 17)=false:=by rw [beq_eq_false_iff_ne]; omega
  clear e hs2 hs3 hs4 hs5
  go_enter Tryz.func112,Tryz.ntmps112
  go_wp2_with fail
  refine (g_segment HH.out c hc).mono ?_
  rintro r w1 ⟨rfl,hr⟩
  have HR:=hide hr
  clear hr
  generalize gSegment g c=g2 at *
  go_wp2
  go_ret
  exact ⟨rfl,HR.out⟩
 by_cases hs6:g.st=6
 ·have e:gBetween g c=gSelector g c:=by
   unfold gBetween
   repeat' split
   all_goals first | rfl | (exfalso; omega)
  rw [e]
  have d1:((g.st:Int) == 2)=false:=by rw [beq_eq_false_iff_ne]; omega
  have d2:((g.st:Int) == 3)=false:=by rw [beq_eq_false_iff_ne]; omega
  have d3:((g.st:Int) == 4)=false:=by rw [beq_eq_false_iff_ne]; omega
  have d4:((g.st:Int) == 5)=false:=by rw [beq_eq_false_iff_ne]; omega
  have d5:((g.st:Int) == 6)=true:=by rw [beq_iff_eq]; omega
  have d6:((g.st:Int) == 7)=false:=by rw [beq_eq_false_iff_ne]; omega
  have d7:((g.st:Int) == 8)=false:=by rw [beq_eq_false_iff_ne]; omega
  have d8:((g.st:Int) == 9)=false:=by rw [beq_eq_false_iff_ne]; omega
  have d9:((g.st:Int) == 10)=false:=by rw [beq_eq_false_iff_ne]; omega
  have d10:((g.st:Int) == 18)=false:=by rw [beq_eq_false_iff_ne]; omega
  have d11:((g.st:Int) == 11)=false:=by rw [beq_eq_false_iff_ne]; omega
  have d12:((g.st:Int) == 15)=false:=by rw [beq_eq_false_iff_ne]; omega
  have d13:((g.st:Int) == 16)=false:=by rw [beq_eq_false_iff_ne]; omega
  have d14:((g.st:Int) == 17)=false:=by rw [beq_eq_false_iff_ne]; omega
  clear e hs2 hs3 hs4 hs5 hs6
  go_enter Tryz.func112,Tryz.ntmps112
  go_wp2_with fail
  refine (g_selector HH.out c hc).mono ?_
  rintro r w1 ⟨rfl,hr⟩
  have HR:=hide hr
  clear hr
  generalize gSelector g c=g2 at *
  go_wp2
  go_ret
  exact ⟨rfl,HR.out⟩
 by_cases hs7:g.st=7
 ·have e:gBetween g c=gSelEnd g c:=by
   unfold gBetween
   repeat' split
   all_goals first | rfl | (exfalso; omega)
  rw [e]
  have d1:((g.st:Int) == 2)=false:=by rw [beq_eq_false_iff_ne]; omega
  have d2:((g.st:Int) == 3)=false:=by rw [beq_eq_false_iff_ne]; omega
  have d3:((g.st:Int) == 4)=false:=by rw [beq_eq_false_iff_ne]; omega
  have d4:((g.st:Int) == 5)=false:=by rw [beq_eq_false_iff_ne]; omega
  have d5:((g.st:Int) == 6)=false:=by rw [beq_eq_false_iff_ne]; omega
  have d6:((g.st:Int) == 7)=true:=by rw [beq_iff_eq]; omega
  have d7:((g.st:Int) == 8)=false:=by rw [beq_eq_false_iff_ne]; omega
  have d8:((g.st:Int) == 9)=false:=by rw [beq_eq_false_iff_ne]; omega
  have d9:((g.st:Int) == 10)=false:=by rw [beq_eq_false_iff_ne]; omega
  have d10:((g.st:Int) == 18)=false:=by rw [beq_eq_false_iff_ne]; omega
  have d11:((g.st:Int) == 11)=false:=by rw [beq_eq_false_iff_ne]; omega
  have d12:((g.st:Int) == 15)=false:=by rw [beq_eq_false_iff_ne]; omega
  have d13:((g.st:Int) == 16)=false:=by rw [beq_eq_false_iff_ne]; omega
  have d14:((g.st:Int) == 17)=false:=by rw [beq_eq_false_iff_ne]; omega
  clear e hs2 hs3 hs4 hs5 hs6 hs7
  go_enter Tryz.func112,Tryz.ntmps112
  go_wp2_with fail
  refine (g_selectorEnd HH.out c hc).mono ?_
  rintro r w1 ⟨rfl,hr⟩
  have HR:=hide hr
  clear hr
  generalize gSelEnd g c=g2 at *
  go_wp2
  go_ret
  exact ⟨rfl,HR.out⟩
 by_cases hs8:g.st=8
 ·have e:gBetween g c=gSelEnd g c:=by
   unfold gBetween
   repeat' split
   all_goals first | rfl | (exfalso; omega)
  rw [e]
  have d1:((g.st:Int) == 2)=false:=by rw [beq_eq_false_iff_ne]; omega
  have d2:((g.st:Int) == 3)=false:=by rw [beq_eq_false_iff_ne]; omega
  have d3:((g.st:Int) == 4)=false:=by rw [beq_eq_false_iff_ne]; omega
  have d4:((g.st:Int) == 5)=false:=by rw [beq_eq_false_iff_ne]; omega
  have d5:((g.st:Int) == 6)=false:=by rw [beq_eq_false_iff_ne]; omega
  have d6:((g.st:Int) == 7)=false:=by rw [beq_eq_false_iff_ne]; omega
  have d7:((g.st:Int) == 8)=true:=by rw [beq_iff_eq]; omega
  have d8:((g.st:Int) == 9)=false:=by rw [beq_eq_false_iff_ne]; omega
  have d9:((g.st:Int) == 10)=false:=by rw [beq_eq_false_iff_ne]; omega
  have d10:((g.st:Int) == 18)=false:=by rw [beq_eq_false_iff_ne]; omega
  have d11:((g.st:Int) == 11)=false:=by rw [beq_eq_false_iff_ne]; omega
  have d12:((g.st:Int) == 15)=false:=by rw [beq_eq_false_iff_ne]; omega
  have d13:((g.st:Int) == 16)=false:=by rw [beq_eq_false_iff_ne]; omega
  have d14:((g.st:Int) == 17)=false:=by rw [beq_eq_false_iff_ne]; omega
  clear e hs2 hs3 hs4 hs5 hs6 hs7 hs8
  go_enter Tryz.func112,Tryz.ntmps112
  go_wp2_with fail
  refine (g_selectorEnd HH.out c hc).mono ?_
  rintro r w1 ⟨rfl,hr⟩
  have HR:=hide hr
  clear hr
  generalize gSelEnd g c=g2 at *
  go_wp2
  go_ret
  exact ⟨rfl,HR.out⟩
 by_cases hs9:g.st=9
 ·have e:gBetween g c=gSelEnd g c:=by
   unfold gBetween
   repeat' split
   all_goals first | rfl | (exfalso; omega)
  rw [e]
  have d1:((g.st:Int) == 2)=false:=by rw [beq_eq_false_iff_ne]; omega
  have d2:((g.st:Int) == 3)=false:=by rw [beq_eq_false_iff_ne]; omega
  have d3:((g.st:Int) == 4)=false:=by rw [beq_eq_false_iff_ne]; omega
  have d4:((g.st:Int) == 5)=false:=by rw [beq_eq_false_iff_ne]; omega
  have d5:((g.st:Int) == 6)=false:=by rw [beq_eq_false_iff_ne]; omega
  have d6:((g.st:Int) == 7)=false:=by rw [beq_eq_false_iff_ne]; omega
  have d7:((g.st:Int) == 8)=false:=by rw [beq_eq_false_iff_ne]; omega
  have d8:((g.st:Int) == 9)=true:=by rw [beq_iff_eq]; omega
  have d9:((g.st:Int) == 10)=false:=by rw [beq_eq_false_iff_ne]; omega
  have d10:((g.st:Int) == 18)=false:=by rw [beq_eq_false_iff_ne]; omega
  have d11:((g.st:Int) == 11)=false:=by rw [beq_eq_false_iff_ne]; omega
  have d12:((g.st:Int) == 15)=false:=by rw [beq_eq_false_iff_ne]; omega
  have d13:((g.st:Int) == 16)=false:=by rw [beq_eq_false_iff_ne]; omega
  have d14:((g.st:Int) == 17)=false:=by rw [beq_eq_false_iff_ne]; omega
  clear e hs2 hs3 hs4 hs5 hs6 hs7 hs8 hs9
  go_enter Tryz.func112,Tryz.ntmps112
  go_wp2_with fail
  refine (g_selectorEnd HH.out c hc).mono ?_
  rintro r w1 ⟨rfl,hr⟩
  have HR:=hide hr
  clear hr
  generalize gSelEnd g c=g2 at *
  go_wp2
  go_ret
  exact ⟨rfl,HR.out⟩
 by_cases hs10:g.st=10
 ·have e:gBetween g c=gPart g c:=by
   unfold gBetween
   repeat' split
   all_goals first | rfl | (exfalso; omega)
  rw [e]
  have d1:((g.st:Int) == 2)=false:=by rw [beq_eq_false_iff_ne]; omega
  have d2:((g.st:Int) == 3)=false:=by rw [beq_eq_false_iff_ne]; omega
  have d3:((g.st:Int) == 4)=false:=by rw [beq_eq_false_iff_ne]; omega
  have d4:((g.st:Int) == 5)=false:=by rw [beq_eq_false_iff_ne]; omega
  have d5:((g.st:Int) == 6)=false:=by rw [beq_eq_false_iff_ne]; omega
  have d6:((g.st:Int) == 7)=false:=by rw [beq_eq_false_iff_ne]; omega
  have d7:((g.st:Int) == 8)=false:=by rw [beq_eq_false_iff_ne]; omega
  have d8:((g.st:Int) == 9)=false:=by rw [beq_eq_false_iff_ne]; omega
  have d9:((g.st:Int) == 10)=true:=by rw [beq_iff_eq]; omega
  have d10:((g.st:Int) == 18)=false:=by rw [beq_eq_false_iff_ne]; omega
  have d11:((g.st:Int) == 11)=false:=by rw [beq_eq_false_iff_ne]; omega
  have d12:((g.st:Int) == 15)=false:=by rw [beq_eq_false_iff_ne]; omega
  have d13:((g.st:Int) == 16)=false:=by rw [beq_eq_false_iff_ne]; omega
  have d14:((g.st:Int) == 17)=false:=by rw [beq_eq_false_iff_ne]; omega
  clear e hs2 hs3 hs4 hs5 hs6 hs7 hs8 hs9 hs10
  go_enter Tryz.func112,Tryz.ntmps112
  go_wp2_with fail
  refine (g_part HH.out hl c hc).mono ?_
  rintro r w1 ⟨rfl,hr⟩
  have HR:=hide hr
  clear hr
  generalize gPart g c=g2 at *
  go_wp2
  go_ret
  exact ⟨rfl,HR.out⟩
 by_cases hs18:g.st=18
 ·have e:gBetween g c=gPartEnd g c:=by
   unfold gBetween
   repeat' split
   all_goals first | rfl | (exfalso; omega)
  rw [e]
  have d1:((g.st:Int) == 2)=false:=by rw [beq_eq_false_iff_ne]; omega
  have d2:((g.st:Int) == 3)=false:=by rw [beq_eq_false_iff_ne]; omega
  have d3:((g.st:Int) == 4)=false:=by rw [beq_eq_false_iff_ne]; omega
  have d4:((g.st:Int) == 5)=false:=by rw [beq_eq_false_iff_ne]; omega
  have d5:((g.st:Int) == 6)=false:=by rw [beq_eq_false_iff_ne]; omega
  have d6:((g.st:Int) == 7)=false:=by rw [beq_eq_false_iff_ne]; omega
  have d7:((g.st:Int) == 8)=false:=by rw [beq_eq_false_iff_ne]; omega
  have d8:((g.st:Int) == 9)=false:=by rw [beq_eq_false_iff_ne]; omega
  have d9:((g.st:Int) == 10)=false:=by rw [beq_eq_false_iff_ne]; omega
  have d10:((g.st:Int) == 18)=true:=by rw [beq_iff_eq]; omega
  have d11:((g.st:Int) == 11)=false:=by rw [beq_eq_false_iff_ne]; omega
  have d12:((g.st:Int) == 15)=false:=by rw [beq_eq_false_iff_ne]; omega
  have d13:((g.st:Int) == 16)=false:=by rw [beq_eq_false_iff_ne]; omega
  have d14:((g.st:Int) == 17)=false:=by rw [beq_eq_false_iff_ne]; omega
  clear e hs2 hs3 hs4 hs5 hs6 hs7 hs8 hs9 hs10 hs18
  go_enter Tryz.func112,Tryz.ntmps112
  go_wp2_with fail
  refine (g_partEnd HH.out hl c hc).mono ?_
  rintro r w1 ⟨rfl,hr⟩
  have HR:=hide hr
  clear hr
  generalize gPartEnd g c=g2 at *
  go_wp2
  go_ret
  exact ⟨rfl,HR.out⟩
 by_cases hs11:g.st=11
 ·have e:gBetween g c=gStepEnd g c:=by
   unfold gBetween
   repeat' split
   all_goals first | rfl | (exfalso; omega)
  rw [e]
  have d1:((g.st:Int) == 2)=false:=by rw [beq_eq_false_iff_ne]; omega
  have d2:((g.st:Int) == 3)=false:=by rw [beq_eq_false_iff_ne]; omega
  have d3:((g.st:Int) == 4)=false:=by rw [beq_eq_false_iff_ne]; omega
  have d4:((g.st:Int) == 5)=false:=by rw [beq_eq_false_iff_ne]; omega
  have d5:((g.st:Int) == 6)=false:=by rw [beq_eq_false_iff_ne]; omega
  have d6:((g.st:Int) == 7)=false:=by rw [beq_eq_false_iff_ne]; omega
  have d7:((g.st:Int) == 8)=false:=by rw [beq_eq_false_iff_ne]; omega
  have d8:((g.st:Int) == 9)=false:=by rw [beq_eq_false_iff_ne]; omega
  have d9:((g.st:Int) == 10)=false:=by rw [beq_eq_false_iff_ne]; omega
  have d10:((g.st:Int) == 18)=false:=by rw [beq_eq_false_iff_ne]; omega
  have d11:((g.st:Int) == 11)=true:=by rw [beq_iff_eq]; omega
  have d12:((g.st:Int) == 15)=false:=by rw [beq_eq_false_iff_ne]; omega
  have d13:((g.st:Int) == 16)=false:=by rw [beq_eq_false_iff_ne]; omega
  have d14:((g.st:Int) == 17)=false:=by rw [beq_eq_false_iff_ne]; omega
  clear e hs2 hs3 hs4 hs5 hs6 hs7 hs8 hs9 hs10 hs18 hs11
  go_enter Tryz.func112,Tryz.ntmps112
  go_wp2_with fail
  refine (g_stepEnd HH.out hl c hc).mono ?_
  rintro r w1 ⟨rfl,hr⟩
  have HR:=hide hr
  clear hr
  generalize gStepEnd g c=g2 at *
  go_wp2
  go_ret
  exact ⟨rfl,HR.out⟩
 by_cases hs15:g.st=15
 ·have e:gBetween g c=gConst g c:=by
   unfold gBetween
   repeat' split
   all_goals first | rfl | (exfalso; omega)
  rw [e]
  have d1:((g.st:Int) == 2)=false:=by rw [beq_eq_false_iff_ne]; omega
  have d2:((g.st:Int) == 3)=false:=by rw [beq_eq_false_iff_ne]; omega
  have d3:((g.st:Int) == 4)=false:=by rw [beq_eq_false_iff_ne]; omega
  have d4:((g.st:Int) == 5)=false:=by rw [beq_eq_false_iff_ne]; omega
  have d5:((g.st:Int) == 6)=false:=by rw [beq_eq_false_iff_ne]; omega
  have d6:((g.st:Int) == 7)=false:=by rw [beq_eq_false_iff_ne]; omega
  have d7:((g.st:Int) == 8)=false:=by rw [beq_eq_false_iff_ne]; omega
  have d8:((g.st:Int) == 9)=false:=by rw [beq_eq_false_iff_ne]; omega
  have d9:((g.st:Int) == 10)=false:=by rw [beq_eq_false_iff_ne]; omega
  have d10:((g.st:Int) == 18)=false:=by rw [beq_eq_false_iff_ne]; omega
  have d11:((g.st:Int) == 11)=false:=by rw [beq_eq_false_iff_ne]; omega
  have d12:((g.st:Int) == 15)=true:=by rw [beq_iff_eq]; omega
  have d13:((g.st:Int) == 16)=false:=by rw [beq_eq_false_iff_ne]; omega
  have d14:((g.st:Int) == 17)=false:=by rw [beq_eq_false_iff_ne]; omega
  clear e hs2 hs3 hs4 hs5 hs6 hs7 hs8 hs9 hs10 hs18 hs11 hs15
  go_enter Tryz.func112,Tryz.ntmps112
  go_wp2_with fail
  refine (g_constant HH.out c hc).mono ?_
  rintro r w1 ⟨rfl,hr⟩
  have HR:=hide hr
  clear hr
  generalize gConst g c=g2 at *
  go_wp2
  go_ret
  exact ⟨rfl,HR.out⟩
 by_cases hs16:g.st=16
 ·have e:gBetween g c=gConst g c:=by
   unfold gBetween
   repeat' split
   all_goals first | rfl | (exfalso; omega)
  rw [e]
  have d1:((g.st:Int) == 2)=false:=by rw [beq_eq_false_iff_ne]; omega
  have d2:((g.st:Int) == 3)=false:=by rw [beq_eq_false_iff_ne]; omega
  have d3:((g.st:Int) == 4)=false:=by rw [beq_eq_false_iff_ne]; omega
  have d4:((g.st:Int) == 5)=false:=by rw [beq_eq_false_iff_ne]; omega
  have d5:((g.st:Int) == 6)=false:=by rw [beq_eq_false_iff_ne]; omega
  have d6:((g.st:Int) == 7)=false:=by rw [beq_eq_false_iff_ne]; omega
  have d7:((g.st:Int) == 8)=false:=by rw [beq_eq_false_iff_ne]; omega
  have d8:((g.st:Int) == 9)=false:=by rw [beq_eq_false_iff_ne]; omega
  have d9:((g.st:Int) == 10)=false:=by rw [beq_eq_false_iff_ne]; omega
  have d10:((g.st:Int) == 18)=false:=by rw [beq_eq_false_iff_ne]; omega
  have d11:((g.st:Int) == 11)=false:=by rw [beq_eq_false_iff_ne]; omega
  have d12:((g.st:Int) == 15)=false:=by rw [beq_eq_false_iff_ne]; omega
  have d13:((g.st:Int) == 16)=true:=by rw [beq_iff_eq]; omega
  have d14:((g.st:Int) == 17)=false:=by rw [beq_eq_false_iff_ne]; omega
  clear e hs2 hs3 hs4 hs5 hs6 hs7 hs8 hs9 hs10 hs18 hs11 hs15 hs16
  go_enter Tryz.func112,Tryz.ntmps112
  go_wp2_with fail
  refine (g_constant HH.out c hc).mono ?_
  rintro r w1 ⟨rfl,hr⟩
  have HR:=hide hr
  clear hr
  generalize gConst g c=g2 at *
  go_wp2
  go_ret
  exact ⟨rfl,HR.out⟩
 by_cases hs17:g.st=17
 ·have e:gBetween g c=gConst g c:=by
   unfold gBetween
   repeat' split
   all_goals first | rfl | (exfalso; omega)
  rw [e]
  have d1:((g.st:Int) == 2)=false:=by rw [beq_eq_false_iff_ne]; omega
  have d2:((g.st:Int) == 3)=false:=by rw [beq_eq_false_iff_ne]; omega
  have d3:((g.st:Int) == 4)=false:=by rw [beq_eq_false_iff_ne]; omega
  have d4:((g.st:Int) == 5)=false:=by rw [beq_eq_false_iff_ne]; omega
  have d5:((g.st:Int) == 6)=false:=by rw [beq_eq_false_iff_ne]; omega
  have d6:((g.st:Int) == 7)=false:=by rw [beq_eq_false_iff_ne]; omega
  have d7:((g.st:Int) == 8)=false:=by rw [beq_eq_false_iff_ne]; omega
  have d8:((g.st:Int) == 9)=false:=by rw [beq_eq_false_iff_ne]; omega
  have d9:((g.st:Int) == 10)=false:=by rw [beq_eq_false_iff_ne]; omega
  have d10:((g.st:Int) == 18)=false:=by rw [beq_eq_false_iff_ne]; omega
  have d11:((g.st:Int) == 11)=false:=by rw [beq_eq_false_iff_ne]; omega
  have d12:((g.st:Int) == 15)=false:=by rw [beq_eq_false_iff_ne]; omega
  have d13:((g.st:Int) == 16)=false:=by rw [beq_eq_false_iff_ne]; omega
  have d14:((g.st:Int) == 17)=true:=by rw [beq_iff_eq]; omega
  clear e hs2 hs3 hs4 hs5 hs6 hs7 hs8 hs9 hs10 hs18 hs11 hs15 hs16 hs17
  go_enter Tryz.func112,Tryz.ntmps112
  go_wp2_with fail
  refine (g_constant HH.out c hc).mono ?_
  rintro r w1 ⟨rfl,hr⟩
  have HR:=hide hr
  clear hr
  generalize gConst g c=g2 at *
  go_wp2
  go_ret
  exact ⟨rfl,HR.out⟩
 have e:gBetween g c=gWithin g c:=by
  unfold gBetween
  repeat' split
  all_goals first | rfl | (exfalso; omega)
 rw [e]
 have d1:((g.st:Int) == 2)=false:=by rw [beq_eq_false_iff_ne]; omega
 have d2:((g.st:Int) == 3)=false:=by rw [beq_eq_false_iff_ne]; omega
 have d3:((g.st:Int) == 4)=false:=by rw [beq_eq_false_iff_ne]; omega
 have d4:((g.st:Int) == 5)=false:=by rw [beq_eq_false_iff_ne]; omega
 have d5:((g.st:Int) == 6)=false:=by rw [beq_eq_false_iff_ne]; omega
 have d6:((g.st:Int) == 7)=false:=by rw [beq_eq_false_iff_ne]; omega
 have d7:((g.st:Int) == 8)=false:=by rw [beq_eq_false_iff_ne]; omega
 have d8:((g.st:Int) == 9)=false:=by rw [beq_eq_false_iff_ne]; omega
 have d9:((g.st:Int) == 10)=false:=by rw [beq_eq_false_iff_ne]; omega
 have d10:((g.st:Int) == 18)=false:=by rw [beq_eq_false_iff_ne]; omega
 have d11:((g.st:Int) == 11)=false:=by rw [beq_eq_false_iff_ne]; omega
 have d12:((g.st:Int) == 15)=false:=by rw [beq_eq_false_iff_ne]; omega
 have d13:((g.st:Int) == 16)=false:=by rw [beq_eq_false_iff_ne]; omega
 have d14:((g.st:Int) == 17)=false:=by rw [beq_eq_false_iff_ne]; omega
 clear e hs2 hs3 hs4 hs5 hs6 hs7 hs8 hs9 hs10 hs18 hs11 hs15 hs16 hs17
 go_enter Tryz.func112,Tryz.ntmps112
 go_wp2_with fail
 refine (g_within HH.out c hc).mono ?_
 rintro r w1 ⟨rfl,hr⟩
 have HR:=hide hr
 clear hr
 generalize gWithin g c=g2 at *
 go_wp2
 go_ret
 exact ⟨rfl,HR.out⟩
end Go.Proofs.YtcbadebjpogmlaaGreatDoor
