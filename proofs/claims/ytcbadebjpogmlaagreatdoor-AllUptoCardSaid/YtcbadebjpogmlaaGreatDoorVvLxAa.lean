import Derived.Test.YtcbadebjpogmlaaGreatDoorVvLwT
set_option maxRecDepth 100000
namespace Go.Proofs.YtcbadebjpogmlaaGreatDoor
open Go.ChangeShapes Go.WideShapes Go.ChangeAt Go.RowKit Go.ChangeMaps
section
variable{H:Type}
theorem vM(f:TypeId×Value->H)(W:World)(g:Nat)(b:Array Value)(l z:List (DataW H))(c:List MemPlace)(G:EN W)(d:∀(j:Nat)t v,Tryz.f13.params[j]?=some t->b[j]?=some v->Value.okWide Tryz.prog W .any g t v)(o:DataW.Whole f Tryz.prog Tryz.f13.params.toList Rows.allSpec.vars false W b.toList l z c)(B:Rows.uptoSmall H (l++z)=true):Calls Tryz.prog 13 b W λe y=>∃v,e=.returned v/\Rows.allSpec.post f Tryz.prog Tryz.f13 false true false false W b v y:=by
 have h:=o;have k:=o.lt;obtain⟨p,q,Zx,F,rfl,K,L⟩:=o;have m:DataW.TrodAll f Tryz.prog W 0 (λ_=>true) true Tryz.f13.params.toList b.toList l p:=Zx;rw[Tryz.params13]at m d;obtain⟨C,S,U,D,N,q0,s,rfl,rfl,A,P⟩:=trodAll_cons m;obtain⟨rfl,rfl,rfl⟩:=trodAll_nil P;obtain rfl:b=#[C]:=by cases b;simp_all
 obtain⟨rfl,rfl⟩:=trodVars_none F;clear Zx m;simp only[List.append_nil]at h B k;have J:=of_decide_eq_true B;simp only[Rows.uptoBulkAll]at J;obtain⟨a,n,T,M,rfl,w,hn,hs⟩:=n7 (B:=1048576) (d 0 22 C rfl rfl) A (by omega);refine mo (Zw G w (by omega) (by omega)) λy i=>?_;refine⟨_,rfl,rM (pa:=N) (pv:=[]) h (λ_ _ _=>trodAll_cons_mk (shut_bool Tryz.underlying4 _) trodAll_mk0) (λR x=>?_) (λ_ _=>rfl) (by simp) i (ok_one (by kernel_rfl) rfl (okWide_bool_mk Tryz.underlying4 _))⟩;have r:=trodAll_cons_mk (ts:=[]) (pW (sp:=R) A (λp u=>k p u) i λp u=>x p u) trodAll_mk0;rw[Tryz.params13];simp only[List.append_nil]at r;exact r
