import Derived.Test.YtcbadebjpogmlaaGreatDoorPPrgE
import Derived.Deep.RegionWith
import Derived.BigRegion
namespace Go.Proofs.YtcbadebjpogmlaaGreatDoor
open Go.RowKit Tr
structure Gok (g:G):Prop where
 bh:g.bh≤20
 op:g.op.length≤6
 sz:g.sz≤8
 rs:g.st=24→g.rs≠[]
 rl:g.rs.length≤4
def AnsX (b:Nat) (w:World) (g:G) (r:Ending) (w':World):Prop:=∃x,Ans b w x g r w'
theorem Rg.undrew {b:Nat} {w w':World} {x:Nat} {g:G} (h:Rg b w.drew x g w'):Rg b w x g w':=⟨h.m,⟨h.f.os,h.f.tape,h.f.output,h.f.size,h.f.block⟩⟩
theorem tail_bs (a:UInt8) (rr:List UInt8):bs ((⟨(a::rr).toArray⟩:ByteArray).extract 1 (rr.length+1))=rr:=by
 simp [bs,List.extract_eq_take_drop]
theorem g_namedT {w:World} {b x:Nat} {g:G} (h:HasG w b x g) (t:ByteArray) (l:List UInt8) (hl:bs t=l) (k:Nat) (ki:Int) (hk:ki=k) :
 Calls Tryz.prog 146 #[.pointer (some ⟨b,0,none⟩),.string t,.int .i64 ki] w (Ans b w x (gNamed g l k)):=by
 subst hl
 have e:t=⟨(bs t).toArray⟩:=bs_inj (bs_mk (bs t)).symm
 have:=g_named h (bs t) k ki hk
 rw [← e] at this
 exact this
set_option maxHeartbeats 1000000 in
theorem g_goesOn {w:World} {b:Nat} {g:G} (h:HasG w b g.st g) (hz:g.sz≤8) (c:Nat) (hc:c<256) :
 Calls Tryz.prog 145 #[.pointer (some ⟨b,0,none⟩),.int .u8 (c:Int)] w fun r w'=>r=.returned (.bool (gGoes g c))∧w'=w:=by
 have c0:=h.c0
 have c2:=h.c2
 clear h
 by_cases h21:g.st=21
 ·have e:gGoes g c=(isLet c && decide (g.sz<8)):=by simp [gGoes,h21]
  rw [e]
  have d1:((g.st:Int) == 21)=true:=by rw [beq_iff_eq]; omega
  cases hl:isLet c
  all_goals
   have HL:=hide hl
   clear e h21 hl
   go_enter Tryz.func145,Tryz.ntmps145
   go_wp2_with fail
   refine (c_isLetter c hc).mono ?_
   rintro r w1 ⟨rfl,rfl⟩
   rw [HL.out]
   go_wp2
   go_ret
   exact ⟨ret_bool (by first | rfl | (simp; omega)),rfl⟩
 have d1:((g.st:Int) == 21)=false:=by rw [beq_eq_false_iff_ne]; omega
 by_cases h22:g.st=22
 ·have e:gGoes g c=(isDig c && decide (g.sz<3)):=by simp [gGoes,h22]
  rw [e]
  have d2:((g.st:Int) == 22)=true:=by rw [beq_iff_eq]; omega
  cases hl:isDig c
  all_goals
   have HL:=hide hl
   clear e h21 h22 hl
   go_enter Tryz.func145,Tryz.ntmps145
   go_wp2_with fail
   refine (c_isDigit c hc).mono ?_
   rintro r w1 ⟨rfl,rfl⟩
   rw [HL.out]
   go_wp2
   go_ret
   exact ⟨ret_bool (by first | rfl | (simp; omega)),rfl⟩
 have d2:((g.st:Int) == 22)=false:=by rw [beq_eq_false_iff_ne]; omega
 by_cases h23:g.st=23
 ·have e:gGoes g c=(isQuo c && decide (g.sz<8)):=by simp [gGoes,h23]
  rw [e]
  have d3:((g.st:Int) == 23)=true:=by rw [beq_iff_eq]; omega
  cases hl:isQuo c
  all_goals
   have HL:=hide hl
   clear e h21 h22 h23 hl
   go_enter Tryz.func145,Tryz.ntmps145
   go_wp2_with fail
   refine (c_isQuoted c hc).mono ?_
   rintro r w1 ⟨rfl,rfl⟩
   rw [HL.out]
   go_wp2
   go_ret
   exact ⟨ret_bool (by first | rfl | (simp; omega)),rfl⟩
 have e:gGoes g c=false:=by simp [gGoes,h21,h22,h23]
 rw [e]
 have d3:((g.st:Int) == 23)=false:=by rw [beq_eq_false_iff_ne]; omega
 clear e h21 h22 h23
 go_enter Tryz.func145,Tryz.ntmps145
 go_wp2
 go_ret
 exact ⟨rfl,rfl⟩
set_option maxHeartbeats 1000000 in
theorem g_inside_goes {w:World} {b:Nat} {g:G} (h:HasG w b g.st g) (ok:Gok g) (c:Nat) (hc:c<256) (hg:gGoes g c=true) :
 Calls Tryz.prog 111 #[.pointer (some ⟨b,0,none⟩),.int .u8 (c:Int)] w (AnsX b w (gInside g c)):=by
 have e:gInside g c={ g with sz:=g.sz+1 }:=by simp [gInside,hg]
 rw [e]
 have hz:=ok.sz
 have c0:=h.c0
 have c2:=h.c2
 have f2:=h.fz 2
 have HH:=hide h
 have HG:=hide hg
 clear h hg e
 go_enter Tryz.func111,Tryz.ntmps111
 go_wp2_with fail
 refine (g_goesOn HH.out hz c hc).mono ?_
 rintro r w1 ⟨rfl,rfl⟩
 rw [HG.out]
 go_wp2
 go_ret
 exact ⟨g.st,rfl,Rg.as ((Rg.same HH.out).set2 (g.sz+1)) _ rfl rfl rfl rfl⟩
set_option maxHeartbeats 1000000 in
theorem g_inside23 {w:World} {b:Nat} {g:G} (h:HasG w b g.st g) (ok:Gok g) (c:Nat) (hc:c<256) (hg:gGoes g c=false) (hst:g.st=23) :
 Calls Tryz.prog 111 #[.pointer (some ⟨b,0,none⟩),.int .u8 (c:Int)] w (AnsX b w (gInside g c)):=by
 have hz:=ok.sz
 have c0:=h.c0
 have c1:=h.c1
 have c2:=h.c2
 have HH:=hide h
 have HG:=hide hg
 have d1:((g.st:Int) == 23)=true:=by rw [beq_iff_eq]; omega
 have d2:((g.st:Int) == 24)=false:=by rw [beq_eq_false_iff_ne]; omega
 have d3:((g.st:Int) == 25)=false:=by rw [beq_eq_false_iff_ne]; omega
 have d4:((g.st:Int) == 21)=false:=by rw [beq_eq_false_iff_ne]; omega
 have d5:((g.st:Int) == 22)=false:=by rw [beq_eq_false_iff_ne]; omega
 by_cases h39:c=39
 ·have e:gInside g c={ g with st:=g.bh }:=by
   unfold gInside; rw [if_neg (by rw [hg]; simp),if_pos ⟨hst,h39⟩]
  rw [e]
  have d6:((c:Int) == 39)=true:=by rw [beq_iff_eq]; omega
  clear h hg e hst h39
  go_enter Tryz.func111,Tryz.ntmps111
  go_wp2_with fail
  refine (g_goesOn HH.out hz c hc).mono ?_
  rintro r w1 ⟨rfl,rfl⟩
  rw [HG.out]
  go_wp2
  go_ret
  exact ⟨g.st,rfl,Rg.as (Rg.same HH.out) _ rfl rfl rfl rfl⟩
 have e:gInside g c={ g with st:=0 }:=by
  unfold gInside; rw [if_neg (by rw [hg]; simp),if_neg (fun x=>h39 x.2),if_neg (fun x=>by have:=x.1; omega),if_neg (fun x=>by have:=x.1; omega),if_neg (by omega)]
 rw [e]
 have d6:((c:Int) == 39)=false:=by rw [beq_eq_false_iff_ne]; omega
 clear h hg e hst h39
 go_enter Tryz.func111,Tryz.ntmps111
 go_wp2_with fail
 refine (g_goesOn HH.out hz c hc).mono ?_
 rintro r w1 ⟨rfl,rfl⟩
 rw [HG.out]
 go_wp2
 go_ret
 exact ⟨g.st,rfl,Rg.as (Rg.same HH.out) _ rfl rfl rfl rfl⟩
set_option maxRecDepth 100000 in
set_option maxHeartbeats 600000 in
theorem g_inside24 {w:World} {b:Nat} {g:G} (h:HasG w b g.st g) (ok:Gok g) (c:Nat) (hc:c<256) (hg:gGoes g c=false) (hst:g.st=24) :
 Calls Tryz.prog 111 #[.pointer (some ⟨b,0,none⟩),.int .u8 (c:Int)] w (AnsX b w (gInside g c)):=by
 have hz:=ok.sz
 have hrl:=ok.rl
 obtain ⟨a,rr,hrs⟩:∃a rr,g.rs=a::rr:=by
  cases hq:g.rs with
  | nil=>exact absurd hq (ok.rs hst)
  | cons a rr=>exact ⟨a,rr,rfl⟩
 have c0:=h.c0
 have c1:=h.c1
 have c2:=h.c2
 have c3:=h.c3
 rw [hrs] at c3 hrl
 have HH:=hide h
 have HG:=hide hg
 have d1:((g.st:Int) == 23)=false:=by rw [beq_eq_false_iff_ne]; omega
 have d2:((g.st:Int) == 24)=true:=by rw [beq_iff_eq]; omega
 have d3:((g.st:Int) == 25)=false:=by rw [beq_eq_false_iff_ne]; omega
 have d4:((g.st:Int) == 21)=false:=by rw [beq_eq_false_iff_ne]; omega
 have d5:((g.st:Int) == 22)=false:=by rw [beq_eq_false_iff_ne]; omega
 simp only [List.length_cons] at hrl
 have hx:∀(h:0<(⟨(a::rr).toArray⟩:ByteArray).size),((⟨(a::rr).toArray⟩:ByteArray)[0]'h).toNat=a.toNat:=fun _=>rfl
 by_cases hca:c=a.toNat
 ·have e:gInside g c=gNamed g rr g.bh:=by
   unfold gInside; rw [if_neg (by rw [hg]; simp),if_neg (fun x=>by have:=x.1; omega),if_pos ⟨hst,by rw [hrs]; exact hca⟩,hrs]; rfl
  rw [e]
  subst hca
  clear h hg e hst hrs ok
  go_enter Tryz.func111,Tryz.ntmps111
  go_wp2_with fail
  refine (g_goesOn HH.out hz a.toNat hc).mono ?_
  rintro r w1 ⟨rfl,rfl⟩
  rw [HG.out]
  go_wp2_with fail
  go_region_with (go_at_call 146; refine (g_namedT (g:=g) (x:=g.st) (by exact HH.out) _ rr (tail_bs a rr) g.bh _ rfl).mono ?_; rintro r w2 ⟨rfl,hr⟩)
  all_goals
   have HR:=hide hr.undrew
   clear hr
   generalize gNamed g rr g.bh=g2 at *
   go_wp2
   go_ret
   exact ⟨g.st,rfl,HR.out⟩
 have e:gInside g c={ g with st:=0 }:=by
  unfold gInside; rw [if_neg (by rw [hg]; simp),if_neg (fun x=>by have:=x.1; omega),if_neg (fun x=>hca (by have:=x.2; rw [hrs] at this; exact this)),if_neg (fun x=>by have:=x.1; omega),if_neg (by omega)]
 rw [e]
 have d6:((c:Int) == (a.toNat:Int))=false:=by rw [beq_eq_false_iff_ne]; omega
 clear h hg e hst hca hrs ok
 go_enter Tryz.func111,Tryz.ntmps111
 go_wp2_with fail
 refine (g_goesOn HH.out hz c hc).mono ?_
 rintro r w1 ⟨rfl,rfl⟩
 rw [HG.out]
 go_wp2
 go_ret
 exact ⟨g.st,rfl,Rg.as (Rg.same HH.out) _ rfl rfl rfl rfl⟩
set_option maxHeartbeats 2000000 in
theorem g_inside25 {w:World} {b:Nat} {g:G} (h:HasG w b g.st g) (ok:Gok g) (c:Nat) (hc:c<256) (hg:gGoes g c=false) (hst:g.st=25) :
 Calls Tryz.prog 111 #[.pointer (some ⟨b,0,none⟩),.int .u8 (c:Int)] w (AnsX b w (gInside g c)):=by
 have hz:=ok.sz
 have c0:=h.c0
 have c1:=h.c1
 have c2:=h.c2
 have HH:=hide h
 have HG:=hide hg
 have d1:((g.st:Int) == 23)=false:=by rw [beq_eq_false_iff_ne]; omega
 have d2:((g.st:Int) == 24)=false:=by rw [beq_eq_false_iff_ne]; omega
 have d3:((g.st:Int) == 25)=true:=by rw [beq_iff_eq]; omega
 have d4:((g.st:Int) == 21)=false:=by rw [beq_eq_false_iff_ne]; omega
 have d5:((g.st:Int) == 22)=false:=by rw [beq_eq_false_iff_ne]; omega
 by_cases h3:isDig c=true∧c≠48
 ·have e:gInside g c=gCount g c g.bh:=by
   unfold gInside; rw [if_neg (by rw [hg]; simp),if_neg (fun x=>by have:=x.1; omega),if_neg (fun x=>by have:=x.1; omega),if_pos ⟨hst,h3.1,h3.2⟩]
  rw [e]
  have HK:Hid (kindN c=3):=by
   unfold Hid kindN
   have:isLet c=false:=by have:=h3.1; simp [isDig] at this; simp [isLet]; omega
   simp [this,h3.1,h3.2]
  clear h hg e hst h3
  go_enter Tryz.func111,Tryz.ntmps111
  go_wp2_with fail
  refine (g_goesOn HH.out hz c hc).mono ?_
  rintro r w1 ⟨rfl,rfl⟩
  rw [HG.out]
  go_wp2_with fail
  refine (c_kindOf c hc).mono ?_
  rintro r w1 ⟨rfl,rfl⟩
  rw [HK.out]
  go_wp2_with fail
  refine (g_count HH.out c hc g.bh _ rfl).mono ?_
  rintro r w2 ⟨rfl,hr⟩
  have HR:=hide hr
  clear hr
  generalize gCount g c g.bh=g2 at *
  go_wp2
  go_ret
  exact ⟨g.st,rfl,HR.out⟩
 have e:gInside g c={ g with st:=0 }:=by
  unfold gInside; rw [if_neg (by rw [hg]; simp),if_neg (fun x=>by have:=x.1; omega),if_neg (fun x=>by have:=x.1; omega),if_neg (fun x=>h3 x.2),if_neg (by omega)]
 rw [e]
 have d6:((kindN c:Int) == 3)=false:=by
  rw [beq_eq_false_iff_ne]
  intro h4
  have h5:kindN c=3:=by omega
  apply h3
  unfold kindN at h5
  repeat' split at h5
  all_goals (first | omega | (constructor<;>assumption))
 clear h hg e hst h3
 go_enter Tryz.func111,Tryz.ntmps111
 go_wp2_with fail
 refine (g_goesOn HH.out hz c hc).mono ?_
 rintro r w1 ⟨rfl,rfl⟩
 rw [HG.out]
 go_wp2_with fail
 refine (c_kindOf c hc).mono ?_
 rintro r w1 ⟨rfl,rfl⟩
 go_wp2
 go_ret
 exact ⟨g.st,rfl,Rg.as (Rg.same HH.out) _ rfl rfl rfl rfl⟩
set_option maxHeartbeats 2000000 in
theorem g_inside21 {w:World} {b:Nat} {g:G} (h:HasG w b g.st g) (ok:Gok g) (c:Nat) (hc:c<256) (hg:gGoes g c=false) (hst:g.st=21∨g.st=22) :
 Calls Tryz.prog 111 #[.pointer (some ⟨b,0,none⟩),.int .u8 (c:Int)] w (AnsX b w (gInside g c)):=by
 have hz:=ok.sz
 have hop:=ok.op
 have c0:=h.c0
 have c1:=h.c1
 have c2:=h.c2
 have f0:=h.fz 0
 have HH:=hide h
 have HG:=hide hg
 have d1:((g.st:Int) == 23)=false:=by rw [beq_eq_false_iff_ne]; omega
 have d2:((g.st:Int) == 24)=false:=by rw [beq_eq_false_iff_ne]; omega
 have d3:((g.st:Int) == 25)=false:=by rw [beq_eq_false_iff_ne]; omega
 have e:gInside g c=gBetween { g with st:=g.bh } c:=by
  unfold gInside; rw [if_neg (by rw [hg]; simp),if_neg (fun x=>by have:=x.1; omega),if_neg (fun x=>by have:=x.1; omega),if_neg (fun x=>by have:=x.1; omega),if_pos hst]
 rw [e]
 have HN:Hid (HasG (w.setCell ⟨b,0,none⟩ (.int .i64 g.bh)) b ({ g with st:=g.bh }:G).st { g with st:=g.bh }):=by
  have:=HH.out.set0 g.bh
  exact this
 have HF:=hide ((Rg.same HH.out).set0 g.bh).f
 rcases hst with hst | hst
 all_goals
  have d4:((g.st:Int) == 21)=decide (g.st=21):=by rw [Bool.eq_iff_iff]; simp; omega
  have d5:((g.st:Int) == 22)=decide (g.st=22):=by rw [Bool.eq_iff_iff]; simp; omega
  simp only [hst] at d4 d5
  rw [← hst] at d4 d5
  simp at d4 d5
  clear h hg e hst
  go_enter Tryz.func111,Tryz.ntmps111
  go_wp2_with fail
  refine (g_goesOn HH.out hz c hc).mono ?_
  rintro r w1 ⟨rfl,rfl⟩
  rw [HG.out]
  go_wp2_with fail
  refine (g_between (g:={ g with st:=g.bh }) HN.out hop c hc).mono ?_
  rintro r w2 ⟨rfl,hr⟩
  have HR:=hide hr
  clear hr
  generalize gBetween { g with st:=g.bh } c=g2 at *
  go_wp2
  go_ret
  exact ⟨g.bh,rfl,HR.out.m,HF.out.trans HR.out.f⟩
theorem g_inside {w:World} {b:Nat} {g:G} (h:HasG w b g.st g) (ok:Gok g) (c:Nat) (hc:c<256) (hst:21≤g.st∧g.st≤25) :
 Calls Tryz.prog 111 #[.pointer (some ⟨b,0,none⟩),.int .u8 (c:Int)] w (AnsX b w (gInside g c)):=by
 cases hg:gGoes g c
 ·by_cases h1:g.st=21∨g.st=22
  ·exact g_inside21 h ok c hc hg h1
  by_cases h2:g.st=23
  ·exact g_inside23 h ok c hc hg h2
  by_cases h3:g.st=24
  ·exact g_inside24 h ok c hc hg h3
  exact g_inside25 h ok c hc hg (by omega)
 exact g_inside_goes h ok c hc hg
end Go.Proofs.YtcbadebjpogmlaaGreatDoor
