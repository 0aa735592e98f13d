import Derived.Test.YtcbadebjpogmlaaGreatDoorVsPrgC
import Derived.Test.YtcbadebjpogmlaaGreatDoorVsPrgA
set_option maxHeartbeats 4000000
set_option maxRecDepth 100000
namespace Go.Proofs.YtcbadebjpogmlaaGreatDoor
open Go.RowKit Tr
theorem Wy:(Utf8.encode 33).size=1:=by decide
theorem Wz:(Utf8.encode 40).size=1:=by decide
theorem WA (l:List UInt8):(⟨l.toArray⟩++Utf8.encode 33:ByteArray)=⟨(l++[UInt8.ofNat 33]).toArray⟩:=by
 apply om
 have e:bs (Utf8.encode 33)=[33]:=by decide
 have e2:bs (⟨l.toArray⟩++Utf8.encode 33)=bs ⟨l.toArray⟩++bs (Utf8.encode 33):=by simp [bs]
 rw [e2,e,lV,lV]; rfl
theorem WB (l:List UInt8):(⟨l.toArray⟩++Utf8.encode 40:ByteArray)=⟨(l++[UInt8.ofNat 40]).toArray⟩:=by
 apply om
 have e:bs (Utf8.encode 40)=[40]:=by decide
 have e2:bs (⟨l.toArray⟩++Utf8.encode 40)=bs ⟨l.toArray⟩++bs (Utf8.encode 40):=by simp [bs]
 rw [e2,e,lV,lV]; rfl
theorem RL {w:World} {b:Nat} {g:G} (h:bB w b g.st g) (hl:g.op.length<=6) (c:Nat) (hc:c<256) :
 Calls Tryz.prog 152 #[.pointer (some ⟨b,0,none⟩),.int .u8 (c:Int)] w (vO b w g.st (fT g c)):=by
 have c0:=h.c0
 have c4:=h.c4
 have f4:=h.fz 4
 have HH:=aa h
 clear h
 by_cases Po:c=64
 ·have e:fT g c={ g with st:=11 }:=by simp [fT,Po]
  rw [e]
  have d1:((c:Int) == 64)=true:=zg
  clear e Po
  go_enter Tryz.func152,Tryz.ntmps152
  go_wp2
  go_ret
  exact ⟨rfl,Rg.as (Rg.same HH.out) _ rfl rfl rfl rfl⟩
 by_cases hb:c=33\/c=40
 ·by_cases h6:g.op.length=6
  ·have e:fT g c={ g with st:=1 }:=by
    unfold fT
    rw [if_neg Po,if_neg (by omega),if_pos h6]
   rw [e]
   have d1:((c:Int) == 64)=false:=cU
   have hsz:(⟨g.op.toArray⟩:ByteArray).size=6:=by rw [<-an,lV]; exact h6
   have hs6:g.op.length=6:=h6
   rcases hb with rfl | rfl
   all_goals
    clear e Po h6
    go_enter Tryz.func152,Tryz.ntmps152
    go_wp2
    go_ret
    exact ⟨rfl,Rg.as (Rg.same HH.out) _ rfl rfl rfl rfl⟩
  have e:fT g c={ g with st:=10,op:=g.op++[UInt8.ofNat c] }:=by
   unfold fT
   rw [if_neg Po,if_neg (by omega),if_neg h6]
  rw [e]
  have d1:((c:Int) == 64)=false:=cU
  have hs6:((g.op.length:Int) == 6)=false:=cU
  rcases hb with rfl | rfl
  all_goals
   clear e Po h6
   have hu1:=Wy
   have EU:=Wz
   go_enter Tryz.func152,Tryz.ntmps152
   go_wp2
   go_ret
   refine ⟨rfl,?_⟩
   first | rw [WA] | rw [WB]
   exact Rg.as ((Rg.same HH.out).qU _) _ rfl rfl rfl rfl
 have e:fT g c={ g with st:=0 }:=by
  unfold fT
  rw [if_neg Po,if_pos (by omega)]
 rw [e]
 have d1:((c:Int) == 64)=false:=cU
 have d2:((c:Int) != 33)=true:=by rw [bne_iff_ne]; omega
 have d3:((c:Int) != 40)=true:=by rw [bne_iff_ne]; omega
 clear e Po hb
 go_enter Tryz.func152,Tryz.ntmps152
 go_wp2
 go_ret
 exact ⟨rfl,Rg.as (Rg.same HH.out) _ rfl rfl rfl rfl⟩
theorem tO (l:List UInt8):(bD l).length<=l.length:=by
 unfold bD
 rw [List.length_reverse]
 have h1:(l.reverse.dropWhile (λ x=>x == 33)).length<=l.reverse.length:=(List.dropWhile_suffix _).length_le
 rw [List.length_reverse] at h1
 exact h1
theorem tQ {w:World} {b:Nat} {g:G} (h:bB w b g.st g) (hl:g.op.length<=6) (c:Nat) (hc:c<256) :
 Calls Tryz.prog 153 #[.pointer (some ⟨b,0,none⟩),.int .u8 (c:Int)] w (vO b w g.st (aU g c)):=by
 have tR:g.op.length<=120:=by omega
 have c0:=h.c0
 have c4:=h.c4
 have f4:=h.fz 4
 have HH:=aa h
 clear h
 by_cases T_:c=38
 ·have e:aU g c={ g with st:=19,op:=bD g.op }:=by
   unfold aU
   simp only
   repeat' split
   all_goals first | rfl | (exfalso; omega) | (exfalso; simp_all; done)
  rw [e]
  have d1:((c:Int) == 38)=true:=zg
  clear e
  go_enter Tryz.func153,Tryz.ntmps153
  go_wp2_with fail
  refine (fU g.op tR).mono ?_
  rintro r w1 ⟨rfl,rfl⟩
  have R1:=aa ((Rg.same HH.out).qU (bD g.op))
  go_wp2
  go_ret
  exact ⟨rfl,Rg.as R1.out _ rfl rfl rfl rfl⟩
 by_cases DN:c=124
 ·have e:aU g c={ g with st:=20,op:=bD g.op }:=by
   unfold aU
   simp only
   repeat' split
   all_goals first | rfl | (exfalso; omega) | (exfalso; simp_all; done)
  rw [e]
  have d1:((c:Int) == 38)=false:=cU
  have d2:((c:Int) == 124)=true:=zg
  clear e
  go_enter Tryz.func153,Tryz.ntmps153
  go_wp2_with fail
  refine (fU g.op tR).mono ?_
  rintro r w1 ⟨rfl,rfl⟩
  have R1:=aa ((Rg.same HH.out).qU (bD g.op))
  go_wp2
  go_ret
  exact ⟨rfl,Rg.as R1.out _ rfl rfl rfl rfl⟩
 by_cases YN:c=41
 ·cases hop:bD g.op with
  | nil =>
   have e:aU g c=bF { g with op:=[] } c:=by
    unfold aU
    simp [hop,T_,DN]
   rw [e]
   have d1:((c:Int) == 38)=false:=cU
   have d2:((c:Int) == 124)=false:=cU
   have d3:((c:Int) == 41)=true:=zg
   clear T_ DN YN
   clear e
   go_enter Tryz.func153,Tryz.ntmps153
   go_wp2_with fail
   refine (fU g.op tR).mono ?_
   rintro r w1 ⟨rfl,rfl⟩
   have R1:=aa ((Rg.same HH.out).qU (bD g.op))
   rw [hop] at R1
   go_wp2_with fail
   refine (jt (g:={ g with op:=[] }) (by exact R1.out.m) c hc).mono ?_
   rintro r w2 ⟨rfl,hr⟩
   have R2:=aa (R1.out.trans hr)
   clear hr
   generalize bF { g with op:=[] } c=g3 at *
   go_wp2
   go_ret
   exact ⟨rfl,R2.out⟩
  | cons a rr =>
   have hne:bD g.op≠[]:=by rw [hop]; simp
   have e:aU g c={ g with st:=18,op:=ij (bD g.op) }:=by
    unfold aU
    simp only
    repeat' split
    all_goals first | rfl | (exfalso; omega) | (exfalso; simp_all; done)
   rw [e]
   have d1:((c:Int) == 38)=false:=cU
   have d2:((c:Int) == 124)=false:=cU
   have d3:((c:Int) == 41)=true:=zg
   clear T_ DN YN
   clear e
   go_enter Tryz.func153,Tryz.ntmps153
   go_wp2_with fail
   refine (fU g.op tR).mono ?_
   rintro r w1 ⟨rfl,rfl⟩
   have R1:=aa ((Rg.same HH.out).qU (bD g.op))
   have c41:=R1.out.m.c4
   have f41:=R1.out.m.fz 4
   have VI:=lV (bD g.op)
   have hsz:(⟨(bD g.op).toArray⟩:ByteArray).size=rr.length+1:=by rw [<-an,VI,hop]; rfl
   have hlen:rr.length+1<=6:=by have:=tO g.op; rw [hop] at this; simp at this; omega
   have HBM:=aa VI
   have YO:=aa hsz
   have HOP:=aa hop
   clear VI hsz
   rw [hop] at HBM YO R1 c41 f41
   simp only [hop]
   clear hop
   go_wp2_with fail
   refine (uY ⟨(a::rr).toArray⟩ rr.length YO.out (by rw [YO.out]; omega) (by rw [YO.out]; omega)).mono ?_
   rintro r w2 ⟨t1,rfl,h1,rfl⟩
   have hT:t1=⟨(ij (a::rr)).toArray⟩:=by
    apply om
    rw [h1,HBM.out,lV]
   subst hT
   clear h1
   go_wp2
   go_ret
   refine ⟨rfl,Rg.as (g:={ g with op:=ij (a::rr) }) ?_ _ rfl rfl rfl (by rw [HOP.out])⟩
   first | exact (Rg.same HH.out).qU (ij (a::rr)) | exact R1.out.qU (ij (a::rr))
 cases hop:bD g.op with
 | nil =>
  have e:aU g c=bF { g with op:=[] } c:=by
   unfold aU
   simp [hop,T_,DN]
  rw [e]
  have d1:((c:Int) == 38)=false:=cU
  have d2:((c:Int) == 124)=false:=cU
  have d3:((c:Int) == 41)=false:=cU
  clear T_ DN YN
  clear e
  go_enter Tryz.func153,Tryz.ntmps153
  go_wp2_with fail
  refine (fU g.op tR).mono ?_
  rintro r w1 ⟨rfl,rfl⟩
  have R1:=aa ((Rg.same HH.out).qU (bD g.op))
  rw [hop] at R1
  go_wp2_with fail
  refine (jt (g:={ g with op:=[] }) (by exact R1.out.m) c hc).mono ?_
  rintro r w2 ⟨rfl,hr⟩
  have R2:=aa (R1.out.trans hr)
  clear hr
  generalize bF { g with op:=[] } c=g3 at *
  go_wp2
  go_ret
  exact ⟨rfl,R2.out⟩
 | cons a rr =>
  have hne:bD g.op≠[]:=by rw [hop]; simp
  have e:aU g c={ g with st:=0,op:=bD g.op }:=by
   unfold aU
   simp only
   repeat' split
   all_goals first | rfl | (exfalso; omega) | (exfalso; simp_all; done)
  rw [e]
  have d1:((c:Int) == 38)=false:=cU
  have d2:((c:Int) == 124)=false:=cU
  have d3:((c:Int) == 41)=false:=cU
  clear T_ DN YN
  clear e
  go_enter Tryz.func153,Tryz.ntmps153
  go_wp2_with fail
  refine (fU g.op tR).mono ?_
  rintro r w1 ⟨rfl,rfl⟩
  have R1:=aa ((Rg.same HH.out).qU (bD g.op))
  have HOP:=aa hop
  rw [hop]
  rw [hop] at R1
  clear hop
  go_wp2
  go_ret
  refine ⟨rfl,Rg.as R1.out _ rfl rfl rfl HOP.out⟩
theorem DP {w:World} {b:Nat} {g:G} (h:bB w b g.st g) (hl:g.op.length<=6) (c:Nat) (hc:c<256) :
 Calls Tryz.prog 154 #[.pointer (some ⟨b,0,none⟩),.int .u8 (c:Int)] w (vO b w g.st (eC g c)):=by
 have c0:=h.c0
 have HH:=aa h
 clear h
 obtain ⟨c',h1⟩:∃x,x=c:=⟨_,rfl⟩
 obtain ⟨g',h2⟩:∃x,x=g:=⟨_,rfl⟩
 have h3:g'.st=g.st:=by rw [h2]
 obtain ⟨G',h4⟩:∃x,eC g' c'=x:=⟨_,rfl⟩
 rw [show eC g c=G' by rw [<-h1,<-h2]; exact h4]
 unfold eC at h4
 repeat' split at h4
 all_goals (rcases iq c 46 with ⟨d0,e0⟩ | ⟨d0,e0⟩<;>try omega)
 all_goals (rcases iq c 91 with ⟨d1,e1⟩ | ⟨d1,e1⟩<;>try omega)
 all_goals (rcases iq c 61 with ⟨d2,e2⟩ | ⟨d2,e2⟩<;>try omega)
 all_goals (rcases iq c 33 with ⟨d3,e3⟩ | ⟨d3,e3⟩<;>try omega)
 all_goals (rcases iq c 60 with ⟨d4,e4⟩ | ⟨d4,e4⟩<;>try omega)
 all_goals
  have H:=aa (And.intro h1 (And.intro h2 h4))
  clear h1 h2 h3 h4 e0 e1 e2 e3 e4
  go_enter Tryz.func154,Tryz.ntmps154
  go_wp2_with fail
  first
   | ((first | refine (tQ HH.out hl c hc).mono ?_); rintro r w1 ⟨rfl,hr⟩; have HR:=aa hr; clear hr; go_wp2; go_ret; obtain ⟨rfl,rfl,rfl⟩:=H.out; exact ⟨rfl,HR.out⟩)
   | (go_ret; obtain ⟨rfl,rfl,rfl⟩:=H.out; exact ⟨rfl,Rg.as (Rg.same HH.out) _ rfl rfl rfl rfl⟩)
theorem tT {w:World} {b:Nat} {g:G} (h:bB w b g.st g) (hl:g.op.length<=6) (c:Nat) (hc:c<256) :
 Calls Tryz.prog 112 #[.pointer (some ⟨b,0,none⟩),.int .u8 (c:Int)] w (vO b w g.st (aD g c)):=by
 have c0:=h.c0
 have HH:=aa h
 clear h
 obtain ⟨c',h1⟩:∃x,x=c:=⟨_,rfl⟩
 obtain ⟨g',h2⟩:∃x,x=g:=⟨_,rfl⟩
 have h3:g'.st=g.st:=by rw [h2]
 obtain ⟨G',h4⟩:∃x,aD g' c'=x:=⟨_,rfl⟩
 rw [show aD g c=G' by rw [<-h1,<-h2]; exact h4]
 unfold aD at h4
 repeat' split at h4
 all_goals (rcases iq g.st 2 with ⟨d0,e0⟩ | ⟨d0,e0⟩<;>try omega)
 all_goals (rcases iq g.st 3 with ⟨d1,e1⟩ | ⟨d1,e1⟩<;>try omega)
 all_goals (rcases iq g.st 4 with ⟨d2,e2⟩ | ⟨d2,e2⟩<;>try omega)
 all_goals (rcases iq g.st 5 with ⟨d3,e3⟩ | ⟨d3,e3⟩<;>try omega)
 all_goals (rcases iq g.st 6 with ⟨d4,e4⟩ | ⟨d4,e4⟩<;>try omega)
 all_goals (rcases iq g.st 7 with ⟨d5,e5⟩ | ⟨d5,e5⟩<;>try omega)
 all_goals (rcases iq g.st 8 with ⟨d6,e6⟩ | ⟨d6,e6⟩<;>try omega)
 all_goals (rcases iq g.st 9 with ⟨d7,e7⟩ | ⟨d7,e7⟩<;>try omega)
 all_goals (rcases iq g.st 10 with ⟨d8,e8⟩ | ⟨d8,e8⟩<;>try omega)
 all_goals (rcases iq g.st 18 with ⟨d9,e9⟩ | ⟨d9,e9⟩<;>try omega)
 all_goals (rcases iq g.st 11 with ⟨d10,e10⟩ | ⟨d10,e10⟩<;>try omega)
 all_goals (rcases iq g.st 15 with ⟨d11,e11⟩ | ⟨d11,e11⟩<;>try omega)
 all_goals (rcases iq g.st 16 with ⟨d12,WC⟩ | ⟨d12,WC⟩<;>try omega)
 all_goals (rcases iq g.st 17 with ⟨d13,e13⟩ | ⟨d13,e13⟩<;>try omega)
 all_goals
  have H:=aa (And.intro h1 (And.intro h2 h4))
  clear h1 h2 h3 h4 e0 e1 e2 e3 e4 e5 e6 e7 e8 e9 e10 e11 WC e13
  go_enter Tryz.func112,Tryz.ntmps112
  go_wp2_with fail
  first
   | ((first | refine (DM HH.out c hc).mono ?_ | refine (Af HH.out c hc).mono ?_ | refine (jt HH.out c hc).mono ?_ | refine (RL HH.out hl c hc).mono ?_ | refine (tQ HH.out hl c hc).mono ?_ | refine (DP HH.out hl c hc).mono ?_ | refine (Ae HH.out c hc).mono ?_ | refine (IW HH.out c hc).mono ?_); rintro r w1 ⟨rfl,hr⟩; have HR:=aa hr; clear hr; go_wp2; go_ret; obtain ⟨rfl,rfl,rfl⟩:=H.out; exact ⟨rfl,HR.out⟩)
   | (go_ret; obtain ⟨rfl,rfl,rfl⟩:=H.out; exact ⟨rfl,Rg.as (Rg.same HH.out) _ rfl rfl rfl rfl⟩)
end Go.Proofs.YtcbadebjpogmlaaGreatDoor
