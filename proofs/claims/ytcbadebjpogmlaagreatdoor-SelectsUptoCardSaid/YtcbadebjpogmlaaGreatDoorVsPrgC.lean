import Derived.Test.YtcbadebjpogmlaaGreatDoorVsPrgA
set_option maxHeartbeats 4000000
namespace Go.Proofs.YtcbadebjpogmlaaGreatDoor
open Go.RowKit Tr
theorem iq (a:Nat) (k:Int):((a:Int) == k)=true/\(a:Int)=k\/((a:Int) == k)=false/\(a:Int)≠k:=by
 by_cases h:(a:Int)=k
 ·exact Or.inl ⟨zg h,h⟩
 exact Or.inr ⟨cU h,h⟩
theorem iqn (a:Nat) (k:Int):((a:Int) == k)=true/\((a:Int) != k)=false/\(a:Int)=k\/((a:Int) == k)=false/\((a:Int) != k)=true/\(a:Int)≠k:=by
 rcases iq a k with ⟨h,e⟩ | ⟨h,e⟩
 ·exact Or.inl ⟨h,by simp [bne,h],e⟩
 exact Or.inr ⟨h,by simp [bne,h],e⟩
theorem Ae {w:World} {b:Nat} {g:G} (h:bB w b g.st g) (c:Nat) (hc:c<256) :
 Calls Tryz.prog 155 #[.pointer (some ⟨b,0,none⟩),.int .u8 (c:Int)] w (vO b w g.st (fB g c)):=by
 have c0:=h.c0
 have HH:=aa h
 clear h
 obtain ⟨c',h1⟩:∃x,x=c:=⟨_,rfl⟩
 obtain ⟨g',h2⟩:∃x,x=g:=⟨_,rfl⟩
 have h3:g'.st=g.st:=by rw [h2]
 obtain ⟨G',h4⟩:∃x,fB g' c'=x:=⟨_,rfl⟩
 rw [show fB g c=G' by rw [<-h1,<-h2]; exact h4]
 unfold fB at h4
 repeat' split at h4
 all_goals (rcases iq c 61 with ⟨d0,e0⟩ | ⟨d0,e0⟩<;>try omega)
 all_goals (rcases iqn g.st 17 with ⟨d1,f1,e1⟩ | ⟨d1,f1,e1⟩<;>try omega)
 all_goals (rcases iq g.st 15 with ⟨d2,e2⟩ | ⟨d2,e2⟩<;>try omega)
 all_goals (rcases iq c 39 with ⟨d3,e3⟩ | ⟨d3,e3⟩<;>try omega)
 all_goals (rcases iq c 116 with ⟨d4,e4⟩ | ⟨d4,e4⟩<;>try omega)
 all_goals (rcases iq c 102 with ⟨d5,e5⟩ | ⟨d5,e5⟩<;>try omega)
 all_goals (rcases iq c 110 with ⟨d6,e6⟩ | ⟨d6,e6⟩<;>try omega)
 all_goals
  have H:=aa (And.intro h1 (And.intro h2 h4))
  clear h1 h2 h3 h4 e0 e1 e2 e3 e4 e5 e6
  go_enter Tryz.func155,Tryz.ntmps155
  go_wp2_with fail
  first
   | ((first | refine (xX HH.out c hc 18 18 rfl).mono ?_ | refine (Cc HH.out 18 18 rfl).mono ?_ | refine (Ce HH.out _ 18 18 rfl).mono ?_); rintro r w1 ⟨rfl,hr⟩; have HR:=aa hr; clear hr; go_wp2; go_ret; obtain ⟨rfl,rfl,rfl⟩:=H.out; exact ⟨rfl,HR.out⟩)
   | (go_ret; obtain ⟨rfl,rfl,rfl⟩:=H.out; exact ⟨rfl,Rg.as (Rg.same HH.out) _ rfl rfl rfl rfl⟩)
theorem IW {w:World} {b:Nat} {g:G} (h:bB w b g.st g) (c:Nat) (hc:c<256) :
 Calls Tryz.prog 156 #[.pointer (some ⟨b,0,none⟩),.int .u8 (c:Int)] w (vO b w g.st (cT g c)):=by
 have c0:=h.c0
 have HH:=aa h
 clear h
 obtain ⟨c',h1⟩:∃x,x=c:=⟨_,rfl⟩
 obtain ⟨g',h2⟩:∃x,x=g:=⟨_,rfl⟩
 have h3:g'.st=g.st:=by rw [h2]
 obtain ⟨G',h4⟩:∃x,cT g' c'=x:=⟨_,rfl⟩
 rw [show cT g c=G' by rw [<-h1,<-h2]; exact h4]
 unfold cT at h4
 repeat' split at h4
 all_goals (rcases iq g.st 12 with ⟨d0,e0⟩ | ⟨d0,e0⟩<;>try omega)
 all_goals (rcases iq g.st 13 with ⟨d1,e1⟩ | ⟨d1,e1⟩<;>try omega)
 all_goals (rcases iq g.st 14 with ⟨d2,e2⟩ | ⟨d2,e2⟩<;>try omega)
 all_goals (rcases iq g.st 19 with ⟨d3,e3⟩ | ⟨d3,e3⟩<;>try omega)
 all_goals (rcases iq g.st 20 with ⟨d4,e4⟩ | ⟨d4,e4⟩<;>try omega)
 all_goals (rcases iq c 93 with ⟨d5,e5⟩ | ⟨d5,e5⟩<;>try omega)
 all_goals (rcases iq c 38 with ⟨d6,e6⟩ | ⟨d6,e6⟩<;>try omega)
 all_goals (rcases iq c 124 with ⟨d7,e7⟩ | ⟨d7,e7⟩<;>try omega)
 all_goals
  have H:=aa (And.intro h1 (And.intro h2 h4))
  clear h1 h2 h3 h4 e0 e1 e2 e3 e4 e5 e6 e7
  go_enter Tryz.func156,Tryz.ntmps156
  go_wp2_with fail
  first
   | ((first | refine (IS HH.out c hc 11 11 rfl).mono ?_ | refine (xX HH.out c hc 14 14 rfl).mono ?_); rintro r w1 ⟨rfl,hr⟩; have HR:=aa hr; clear hr; go_wp2; go_ret; obtain ⟨rfl,rfl,rfl⟩:=H.out; exact ⟨rfl,HR.out⟩)
   | (go_ret; obtain ⟨rfl,rfl,rfl⟩:=H.out; exact ⟨rfl,Rg.as (Rg.same HH.out) _ rfl rfl rfl rfl⟩)
theorem jt {w:World} {b:Nat} {g:G} (h:bB w b g.st g) (c:Nat) (hc:c<256) :
 Calls Tryz.prog 151 #[.pointer (some ⟨b,0,none⟩),.int .u8 (c:Int)] w (vO b w g.st (bF g c)):=by
 have c0:=h.c0
 have HH:=aa h
 clear h
 obtain ⟨c',h1⟩:∃x,x=c:=⟨_,rfl⟩
 obtain ⟨g',h2⟩:∃x,x=g:=⟨_,rfl⟩
 have h3:g'.st=g.st:=by rw [h2]
 obtain ⟨G',h4⟩:∃x,bF g' c'=x:=⟨_,rfl⟩
 rw [show bF g c=G' by rw [<-h1,<-h2]; exact h4]
 unfold bF at h4
 repeat' split at h4
 all_goals (rcases iq c 44 with ⟨d0,e0⟩ | ⟨d0,e0⟩<;>try omega)
 all_goals (rcases iq c 93 with ⟨d1,e1⟩ | ⟨d1,e1⟩<;>try omega)
 all_goals (rcases iq c 58 with ⟨d2,e2⟩ | ⟨d2,e2⟩<;>try omega)
 all_goals (rcases iq g.st 7 with ⟨d3,e3⟩ | ⟨d3,e3⟩<;>try omega)
 all_goals (rcases iq g.st 8 with ⟨d4,e4⟩ | ⟨d4,e4⟩<;>try omega)
 all_goals
  have H:=aa (And.intro h1 (And.intro h2 h4))
  clear h1 h2 h3 h4 e0 e1 e2 e3 e4
  go_enter Tryz.func151,Tryz.ntmps151
  go_wp2_with fail
  first
   | ((first | refine (pS HH.out c hc 9 9 rfl).mono ?_); rintro r w1 ⟨rfl,hr⟩; have HR:=aa hr; clear hr; go_wp2; go_ret; obtain ⟨rfl,rfl,rfl⟩:=H.out; exact ⟨rfl,HR.out⟩)
   | (go_ret; obtain ⟨rfl,rfl,rfl⟩:=H.out; exact ⟨rfl,Rg.as (Rg.same HH.out) _ rfl rfl rfl rfl⟩)
theorem uZ {w:World} {b:Nat} {g:G} (h:bB w b g.st g) (c:Nat) (hc:c<256) :
 Calls Tryz.prog 196 #[.pointer (some ⟨b,0,none⟩),.int .u8 (c:Int)] w (vO b w g.st (ku g c)):=by
 have c0:=h.c0
 have HH:=aa h
 clear h
 obtain ⟨c',h1⟩:∃x,x=c:=⟨_,rfl⟩
 obtain ⟨g',h2⟩:∃x,x=g:=⟨_,rfl⟩
 have h3:g'.st=g.st:=by rw [h2]
 obtain ⟨G',h4⟩:∃x,ku g' c'=x:=⟨_,rfl⟩
 rw [show ku g c=G' by rw [<-h1,<-h2]; exact h4]
 unfold ku at h4
 repeat' split at h4
 all_goals (rcases iq c 42 with ⟨d0,e0⟩ | ⟨d0,e0⟩<;>try omega)
 all_goals
  have H:=aa (And.intro h1 (And.intro h2 h4))
  clear h1 h2 h3 h4 e0
  go_enter Tryz.func196,Tryz.ntmps196
  go_wp2_with fail
  first
   | ((first | refine (IS HH.out c hc 3 3 rfl).mono ?_); rintro r w1 ⟨rfl,hr⟩; have HR:=aa hr; clear hr; go_wp2; go_ret; obtain ⟨rfl,rfl,rfl⟩:=H.out; exact ⟨rfl,HR.out⟩)
   | (go_ret; obtain ⟨rfl,rfl,rfl⟩:=H.out; exact ⟨rfl,Rg.as (Rg.same HH.out) _ rfl rfl rfl rfl⟩)
theorem Af {w:World} {b:Nat} {g:G} (h:bB w b g.st g) (c:Nat) (hc:c<256) :
 Calls Tryz.prog 150 #[.pointer (some ⟨b,0,none⟩),.int .u8 (c:Int)] w (vO b w g.st (cO g c)):=by
 have c0:=h.c0
 have HH:=aa h
 clear h
 obtain ⟨c',h1⟩:∃x,x=c:=⟨_,rfl⟩
 obtain ⟨g',h2⟩:∃x,x=g:=⟨_,rfl⟩
 have h3:g'.st=g.st:=by rw [h2]
 obtain ⟨G',h4⟩:∃x,cO g' c'=x:=⟨_,rfl⟩
 rw [show cO g c=G' by rw [<-h1,<-h2]; exact h4]
 unfold cO at h4
 repeat' split at h4
 all_goals (rcases iq c 42 with ⟨d0,e0⟩ | ⟨d0,e0⟩<;>try omega)
 all_goals (rcases iq c 39 with ⟨d1,e1⟩ | ⟨d1,e1⟩<;>try omega)
 all_goals (rcases iq c 45 with ⟨d2,e2⟩ | ⟨d2,e2⟩<;>try omega)
 all_goals (rcases iq c 58 with ⟨d3,e3⟩ | ⟨d3,e3⟩<;>try omega)
 all_goals (rcases iq c 63 with ⟨d4,e4⟩ | ⟨d4,e4⟩<;>try omega)
 all_goals
  have H:=aa (And.intro h1 (And.intro h2 h4))
  clear h1 h2 h3 h4 e0 e1 e2 e3 e4
  go_enter Tryz.func150,Tryz.ntmps150
  go_wp2_with fail
  first
   | ((first | refine (Cc HH.out 9 9 rfl).mono ?_ | refine (Cd HH.out 9 9 rfl).mono ?_ | refine (pS HH.out c hc 7 7 rfl).mono ?_); rintro r w1 ⟨rfl,hr⟩; have HR:=aa hr; clear hr; go_wp2; go_ret; obtain ⟨rfl,rfl,rfl⟩:=H.out; exact ⟨rfl,HR.out⟩)
   | (go_ret; obtain ⟨rfl,rfl,rfl⟩:=H.out; exact ⟨rfl,Rg.as (Rg.same HH.out) _ rfl rfl rfl rfl⟩)
theorem DM {w:World} {b:Nat} {g:G} (h:bB w b g.st g) (c:Nat) (hc:c<256) :
 Calls Tryz.prog 149 #[.pointer (some ⟨b,0,none⟩),.int .u8 (c:Int)] w (vO b w g.st (cE g c)):=by
 have c0:=h.c0
 have HH:=aa h
 clear h
 obtain ⟨c',h1⟩:∃x,x=c:=⟨_,rfl⟩
 obtain ⟨g',h2⟩:∃x,x=g:=⟨_,rfl⟩
 have h3:g'.st=g.st:=by rw [h2]
 obtain ⟨G',h4⟩:∃x,cE g' c'=x:=⟨_,rfl⟩
 rw [show cE g c=G' by rw [<-h1,<-h2]; exact h4]
 unfold cE at h4
 repeat' split at h4
 all_goals (rcases iq g.st 2 with ⟨d0,e0⟩ | ⟨d0,e0⟩<;>try omega)
 all_goals (rcases iq g.st 3 with ⟨d1,e1⟩ | ⟨d1,e1⟩<;>try omega)
 all_goals (rcases iq g.st 4 with ⟨d2,e2⟩ | ⟨d2,e2⟩<;>try omega)
 all_goals (rcases iq g.st 5 with ⟨d3,e3⟩ | ⟨d3,e3⟩<;>try omega)
 all_goals (rcases iq c 36 with ⟨d4,e4⟩ | ⟨d4,e4⟩<;>try omega)
 all_goals (rcases iq c 46 with ⟨d5,e5⟩ | ⟨d5,e5⟩<;>try omega)
 all_goals (rcases iq c 91 with ⟨d6,e6⟩ | ⟨d6,e6⟩<;>try omega)
 all_goals
  have H:=aa (And.intro h1 (And.intro h2 h4))
  clear h1 h2 h3 h4 e0 e1 e2 e3 e4 e5 e6
  go_enter Tryz.func149,Tryz.ntmps149
  go_wp2_with fail
  first
   | ((first | refine (uZ HH.out c hc).mono ?_); rintro r w1 ⟨rfl,hr⟩; have HR:=aa hr; clear hr; go_wp2; go_ret; obtain ⟨rfl,rfl,rfl⟩:=H.out; exact ⟨rfl,HR.out⟩)
   | (go_ret; obtain ⟨rfl,rfl,rfl⟩:=H.out; exact ⟨rfl,Rg.as (Rg.same HH.out) _ rfl rfl rfl rfl⟩)
end Go.Proofs.YtcbadebjpogmlaaGreatDoor
