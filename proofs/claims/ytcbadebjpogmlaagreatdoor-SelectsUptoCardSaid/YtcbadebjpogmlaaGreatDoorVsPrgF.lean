import Derived.Test.YtcbadebjpogmlaaGreatDoorVsPrgE
import Derived.Deep.RegionWith
import Derived.BigRegion
set_option maxHeartbeats 2000000
set_option maxRecDepth 100000
namespace Go.Proofs.YtcbadebjpogmlaaGreatDoor
open Go.RowKit Tr
structure iX (g:G):Prop where
 bh:g.bh<=20
 op:g.op.length<=6
 sz:g.sz<=8
 rs:g.st=24->g.rs≠[]
 rl:g.rs.length<=4
def Ah (b:Nat) (w:World) (g:G) (r:Ending) (w':World):Prop:=∃x,vO b w x g r w'
theorem Rg.RN {b:Nat} {w w':World} {x:Nat} {g:G} (h:Rg b w.drew x g w'):Rg b w x g w':=⟨h.m,⟨h.f.os,h.f.tape,h.f.output,h.f.size,h.f.block⟩⟩
theorem Mz (a:UInt8) (rr:List UInt8):bs ((⟨(a::rr).toArray⟩:ByteArray).extract 1 (rr.length+1))=rr:=by
 simp [bs,List.extract_eq_take_drop]
theorem IX {w:World} {b x:Nat} {g:G} (h:bB w b x g) (t:ByteArray) (l:List UInt8) (hl:bs t=l) (k:Nat) (ki:Int) (hk:ki=k) :
 Calls Tryz.prog 146 #[.pointer (some ⟨b,0,none⟩),.string t,.int .i64 ki] w (vO b w x (eH g l k)):=by
 subst hl
 have e:t=⟨(bs t).toArray⟩:=om (lV (bs t)).symm
 have:=Ce h (bs t) k ki hk
 rw [<-e] at this
 exact this
theorem hJ {w:World} {b:Nat} {g:G} (h:bB w b g.st g) (hz:g.sz<=8) (c:Nat) (hc:c<256) :
 Calls Tryz.prog 145 #[.pointer (some ⟨b,0,none⟩),.int .u8 (c:Int)] w λ r w'=>r=.returned (.bool (bR g c))/\w'=w:=by
 have c0:=h.c0
 have c2:=h.c2
 clear h
 by_cases Cf:g.st=21
 ·have e:bR g c=(isLet c && decide (g.sz<8)):=by simp [bR,Cf]
  rw [e]
  have d1:((g.st:Int) == 21)=true:=zg
  cases hl:isLet c
  all_goals
   have HL:=aa hl
   clear e Cf hl
   go_enter Tryz.func145,Tryz.ntmps145
   go_wp2_with fail
   refine (l_ c hc).mono ?_
   rintro r w1 ⟨rfl,rfl⟩
   rw [HL.out]
   go_wp2
   go_ret
   exact ⟨jN (by first | rfl | (simp; omega)),rfl⟩
 have d1:((g.st:Int) == 21)=false:=cU
 by_cases WD:g.st=22
 ·have e:bR g c=(af c && decide (g.sz<3)):=by simp [bR,WD]
  rw [e]
  have d2:((g.st:Int) == 22)=true:=zg
  cases hl:af c
  all_goals
   have HL:=aa hl
   clear e Cf WD hl
   go_enter Tryz.func145,Tryz.ntmps145
   go_wp2_with fail
   refine (DF c hc).mono ?_
   rintro r w1 ⟨rfl,rfl⟩
   rw [HL.out]
   go_wp2
   go_ret
   exact ⟨jN (by first | rfl | (simp; omega)),rfl⟩
 have d2:((g.st:Int) == 22)=false:=cU
 by_cases h23:g.st=23
 ·have e:bR g c=(aO c && decide (g.sz<8)):=by simp [bR,h23]
  rw [e]
  have d3:((g.st:Int) == 23)=true:=zg
  cases hl:aO c
  all_goals
   have HL:=aa hl
   clear e Cf WD h23 hl
   go_enter Tryz.func145,Tryz.ntmps145
   go_wp2_with fail
   refine (Ad c hc).mono ?_
   rintro r w1 ⟨rfl,rfl⟩
   rw [HL.out]
   go_wp2
   go_ret
   exact ⟨jN (by first | rfl | (simp; omega)),rfl⟩
 have e:bR g c=false:=by simp [bR,Cf,WD,h23]
 rw [e]
 have d3:((g.st:Int) == 23)=false:=cU
 clear e Cf WD h23
 go_enter Tryz.func145,Tryz.ntmps145
 go_wp2
 go_ret
 exact ⟨rfl,rfl⟩
theorem r_ {w:World} {b:Nat} {g:G} (h:bB w b g.st g) (ok:iX g) (c:Nat) (hc:c<256) (hg:bR g c=true) :
 Calls Tryz.prog 111 #[.pointer (some ⟨b,0,none⟩),.int .u8 (c:Int)] w (Ah b w (aQ g c)):=by
 have e:aQ g c={ g with sz:=g.sz+1 }:=by simp [aQ,hg]
 rw [e]
 have hz:=ok.sz
 have c0:=h.c0
 have c2:=h.c2
 have f2:=h.fz 2
 have HH:=aa h
 have HG:=aa hg
 clear h hg e
 go_enter Tryz.func111,Tryz.ntmps111
 go_wp2_with fail
 refine (hJ HH.out hz c hc).mono ?_
 rintro r w1 ⟨rfl,rfl⟩
 rw [HG.out]
 go_wp2
 go_ret
 exact ⟨g.st,rfl,Rg.as ((Rg.same HH.out).DH (g.sz+1)) _ rfl rfl rfl rfl⟩
theorem Ai {w:World} {b:Nat} {g:G} (h:bB w b g.st g) (ok:iX g) (c:Nat) (hc:c<256) (hg:bR g c=false) (hst:g.st=23) :
 Calls Tryz.prog 111 #[.pointer (some ⟨b,0,none⟩),.int .u8 (c:Int)] w (Ah b w (aQ g c)):=by
 have hz:=ok.sz
 have c0:=h.c0
 have c1:=h.c1
 have c2:=h.c2
 have HH:=aa h
 have HG:=aa hg
 have d1:((g.st:Int) == 23)=true:=zg
 have d2:((g.st:Int) == 24)=false:=cU
 have d3:((g.st:Int) == 25)=false:=cU
 have d4:((g.st:Int) == 21)=false:=cU
 have d5:((g.st:Int) == 22)=false:=cU
 by_cases vJ:c=39
 ·have e:aQ g c={ g with st:=g.bh }:=by
   unfold aQ; rw [if_neg (by rw [hg]; simp),if_pos ⟨hst,vJ⟩]
  rw [e]
  have d6:((c:Int) == 39)=true:=zg
  clear h hg e hst vJ
  go_enter Tryz.func111,Tryz.ntmps111
  go_wp2_with fail
  refine (hJ HH.out hz c hc).mono ?_
  rintro r w1 ⟨rfl,rfl⟩
  rw [HG.out]
  go_wp2
  go_ret
  exact ⟨g.st,rfl,Rg.as (Rg.same HH.out) _ rfl rfl rfl rfl⟩
 have e:aQ g c={ g with st:=0 }:=by
  unfold aQ; rw [if_neg (by rw [hg]; simp),if_neg (λ x=>vJ x.2),if_neg (λ x=>by have:=x.1; omega),if_neg (λ x=>by have:=x.1; omega),if_neg (by omega)]
 rw [e]
 have d6:((c:Int) == 39)=false:=cU
 clear h hg e hst vJ
 go_enter Tryz.func111,Tryz.ntmps111
 go_wp2_with fail
 refine (hJ HH.out hz c hc).mono ?_
 rintro r w1 ⟨rfl,rfl⟩
 rw [HG.out]
 go_wp2
 go_ret
 exact ⟨g.st,rfl,Rg.as (Rg.same HH.out) _ rfl rfl rfl rfl⟩
theorem Aj {w:World} {b:Nat} {g:G} (h:bB w b g.st g) (ok:iX g) (c:Nat) (hc:c<256) (hg:bR g c=false) (hst:g.st=24) :
 Calls Tryz.prog 111 #[.pointer (some ⟨b,0,none⟩),.int .u8 (c:Int)] w (Ah b w (aQ g c)):=by
 have hz:=ok.sz
 have hrl:=ok.rl
 obtain ⟨a,rr,hrs⟩:∃a rr,g.rs=a::rr:=by
  cases hq:g.rs with
  | nil=>exact absurd hq (ok.rs hst)
  | cons a rr=>exact ⟨a,rr,rfl⟩
 have c0:=h.c0
 have c1:=h.c1
 have c2:=h.c2
 have c3:=h.c3
 rw [hrs] at c3 hrl
 have HH:=aa h
 have HG:=aa hg
 have d1:((g.st:Int) == 23)=false:=cU
 have d2:((g.st:Int) == 24)=true:=zg
 have d3:((g.st:Int) == 25)=false:=cU
 have d4:((g.st:Int) == 21)=false:=cU
 have d5:((g.st:Int) == 22)=false:=cU
 simp only [List.length_cons] at hrl
 have hx:∀(h:0<(⟨(a::rr).toArray⟩:ByteArray).size),((⟨(a::rr).toArray⟩:ByteArray)[0]'h).toNat=a.toNat:=λ_=>rfl
 by_cases hca:c=a.toNat
 ·have e:aQ g c=eH g rr g.bh:=by
   unfold aQ; rw [if_neg (by rw [hg]; simp),if_neg (λ x=>by have:=x.1; omega),if_pos ⟨hst,by rw [hrs]; exact hca⟩,hrs]; rfl
  rw [e]
  subst hca
  clear h hg e hst hrs ok
  go_enter Tryz.func111,Tryz.ntmps111
  go_wp2_with fail
  refine (hJ HH.out hz a.toNat hc).mono ?_
  rintro r w1 ⟨rfl,rfl⟩
  rw [HG.out]
  go_wp2_with fail
  go_region_with (go_at_call 146; refine (IX (g:=g) (x:=g.st) (by exact HH.out) _ rr (Mz a rr) g.bh _ rfl).mono ?_; rintro r w2 ⟨rfl,hr⟩)
  all_goals
   have HR:=aa hr.RN
   clear hr
   generalize eH g rr g.bh=g2 at *
   go_wp2
   go_ret
   exact ⟨g.st,rfl,HR.out⟩
 have e:aQ g c={ g with st:=0 }:=by
  unfold aQ; rw [if_neg (by rw [hg]; simp),if_neg (λ x=>by have:=x.1; omega),if_neg (λ x=>hca (by have:=x.2; rw [hrs] at this; exact this)),if_neg (λ x=>by have:=x.1; omega),if_neg (by omega)]
 rw [e]
 have d6:((c:Int) == (a.toNat:Int))=false:=cU
 clear h hg e hst hca hrs ok
 go_enter Tryz.func111,Tryz.ntmps111
 go_wp2_with fail
 refine (hJ HH.out hz c hc).mono ?_
 rintro r w1 ⟨rfl,rfl⟩
 rw [HG.out]
 go_wp2
 go_ret
 exact ⟨g.st,rfl,Rg.as (Rg.same HH.out) _ rfl rfl rfl rfl⟩
theorem Ak {w:World} {b:Nat} {g:G} (h:bB w b g.st g) (ok:iX g) (c:Nat) (hc:c<256) (hg:bR g c=false) (hst:g.st=25) :
 Calls Tryz.prog 111 #[.pointer (some ⟨b,0,none⟩),.int .u8 (c:Int)] w (Ah b w (aQ g c)):=by
 have hz:=ok.sz
 have c0:=h.c0
 have c1:=h.c1
 have c2:=h.c2
 have HH:=aa h
 have HG:=aa hg
 have d1:((g.st:Int) == 23)=false:=cU
 have d2:((g.st:Int) == 24)=false:=cU
 have d3:((g.st:Int) == 25)=true:=zg
 have d4:((g.st:Int) == 21)=false:=cU
 have d5:((g.st:Int) == 22)=false:=cU
 by_cases h3:af c=true/\c≠48
 ·have e:aQ g c=bW g c g.bh:=by
   unfold aQ; rw [if_neg (by rw [hg]; simp),if_neg (λ x=>by have:=x.1; omega),if_neg (λ x=>by have:=x.1; omega),if_pos ⟨hst,h3.1,h3.2⟩]
  rw [e]
  have HK:Hid (bL c=3):=by
   unfold Hid bL
   have:isLet c=false:=by have:=h3.1; simp [af] at this; simp [isLet]; omega
   simp [this,h3.1,h3.2]
  clear h hg e hst h3
  go_enter Tryz.func111,Tryz.ntmps111
  go_wp2_with fail
  refine (hJ HH.out hz c hc).mono ?_
  rintro r w1 ⟨rfl,rfl⟩
  rw [HG.out]
  go_wp2_with fail
  refine (cZ c hc).mono ?_
  rintro r w1 ⟨rfl,rfl⟩
  rw [HK.out]
  go_wp2_with fail
  refine (pS HH.out c hc g.bh _ rfl).mono ?_
  rintro r w2 ⟨rfl,hr⟩
  have HR:=aa hr
  clear hr
  generalize bW g c g.bh=g2 at *
  go_wp2
  go_ret
  exact ⟨g.st,rfl,HR.out⟩
 have e:aQ g c={ g with st:=0 }:=by
  unfold aQ; rw [if_neg (by rw [hg]; simp),if_neg (λ x=>by have:=x.1; omega),if_neg (λ x=>by have:=x.1; omega),if_neg (λ x=>h3 x.2),if_neg (by omega)]
 rw [e]
 have d6:((bL c:Int) == 3)=false:=by
  rw [beq_eq_false_iff_ne]
  intro h4
  have h5:bL c=3:=by omega
  apply h3
  unfold bL at h5
  repeat' split at h5
  all_goals (first | omega | (constructor<;>assumption))
 clear h hg e hst h3
 go_enter Tryz.func111,Tryz.ntmps111
 go_wp2_with fail
 refine (hJ HH.out hz c hc).mono ?_
 rintro r w1 ⟨rfl,rfl⟩
 rw [HG.out]
 go_wp2_with fail
 refine (cZ c hc).mono ?_
 rintro r w1 ⟨rfl,rfl⟩
 go_wp2
 go_ret
 exact ⟨g.st,rfl,Rg.as (Rg.same HH.out) _ rfl rfl rfl rfl⟩
theorem Am {w:World} {b:Nat} {g:G} (h:bB w b g.st g) (ok:iX g) (c:Nat) (hc:c<256) (hg:bR g c=false) (hst:g.st=21\/g.st=22) :
 Calls Tryz.prog 111 #[.pointer (some ⟨b,0,none⟩),.int .u8 (c:Int)] w (Ah b w (aQ g c)):=by
 have hz:=ok.sz
 have hop:=ok.op
 have c0:=h.c0
 have c1:=h.c1
 have c2:=h.c2
 have f0:=h.fz 0
 have HH:=aa h
 have HG:=aa hg
 have d1:((g.st:Int) == 23)=false:=cU
 have d2:((g.st:Int) == 24)=false:=cU
 have d3:((g.st:Int) == 25)=false:=cU
 have e:aQ g c=aD { g with st:=g.bh } c:=by
  unfold aQ; rw [if_neg (by rw [hg]; simp),if_neg (λ x=>by have:=x.1; omega),if_neg (λ x=>by have:=x.1; omega),if_neg (λ x=>by have:=x.1; omega),if_pos hst]
 rw [e]
 have HN:Hid (bB (w.setCell ⟨b,0,none⟩ (.int .i64 g.bh)) b ({ g with st:=g.bh }:G).st { g with st:=g.bh }):=by
  have:=HH.out.IQ g.bh
  exact this
 have HF:=aa ((Rg.same HH.out).IQ g.bh).f
 rcases hst with hst | hst
 all_goals
  have d4:((g.st:Int) == 21)=decide (g.st=21):=by rw [Bool.eq_iff_iff]; simp; omega
  have d5:((g.st:Int) == 22)=decide (g.st=22):=by rw [Bool.eq_iff_iff]; simp; omega
  simp only [hst] at d4 d5
  rw [<-hst] at d4 d5
  simp at d4 d5
  clear h hg e hst
  go_enter Tryz.func111,Tryz.ntmps111
  go_wp2_with fail
  refine (hJ HH.out hz c hc).mono ?_
  rintro r w1 ⟨rfl,rfl⟩
  rw [HG.out]
  go_wp2_with fail
  refine (tT (g:={ g with st:=g.bh }) HN.out hop c hc).mono ?_
  rintro r w2 ⟨rfl,hr⟩
  have HR:=aa hr
  clear hr
  generalize aD { g with st:=g.bh } c=g2 at *
  go_wp2
  go_ret
  exact ⟨g.bh,rfl,HR.out.m,HF.out.trans HR.out.f⟩
theorem IY {w:World} {b:Nat} {g:G} (h:bB w b g.st g) (ok:iX g) (c:Nat) (hc:c<256) (hst:21<=g.st/\g.st<=25) :
 Calls Tryz.prog 111 #[.pointer (some ⟨b,0,none⟩),.int .u8 (c:Int)] w (Ah b w (aQ g c)):=by
 cases hg:bR g c
 ·by_cases h1:g.st=21\/g.st=22
  ·exact Am h ok c hc hg h1
  by_cases h2:g.st=23
  ·exact Ai h ok c hc hg h2
  by_cases h3:g.st=24
  ·exact Aj h ok c hc hg h3
  exact Ak h ok c hc hg (by omega)
 exact r_ h ok c hc hg
end Go.Proofs.YtcbadebjpogmlaaGreatDoor
