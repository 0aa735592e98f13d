/- Proved: Rows.SoonCardSaid: the law Soon returns true, whatever numbers come in (if a query has no late selector each node is told as soon as it has ended); the package-level variables that the row lists start as the program's text lays them. -/
import Derived.Test.YtcbadebjpogmlaaGreatDoorSDa
import Derived.Test.YtcbadebjpogmlaaGreatDoorSLsb
import Derived.Test.YtcbadebjpogmlaaGreatDoorSLsc
namespace Go.Proofs.YtcbadebjpogmlaaGreatDoor
open Go.ChangeShapes Go.WideShapes Go.ChangeAt Go.RowKit
theorem wit_all (os:Os) {H:Type} (enc:TypeId×Value→H):∃(w:World) (tape:Tape) (i:Input),w.os=os∧(w.forCall tape i).Shaped Tryz.checked.prog∧i.vars=[]∧Input.okWide Tryz.checked.prog (w.forCall tape i) .any w.heap.size 7 i ∧
 (OpenSpec.ofChange Rows.soonSpec).preRow enc Tryz.checked.prog Tryz.f7 Rows.soonRow.domain false Rows.soonRow.laid (w.forCall tape i).memory i.args∧({ modest:=false }:Assume).holds Tryz.checked.prog (lone (Frame.enter Tryz.checked.prog 7 i.args .normal) [] (w.forCall tape i)) :=
 (witness_row_atRef (enc:=enc) (C:=Tryz.checked) false (layIn (World.settled Tryz.prog os).heap.size (World.holding Tryz.prog os errsH)) #[.slice none 0 0,.slice none 0 0] rfl (wit_v os) (wit_r os) (wit_ok os) (witness_row os enc))
set_option maxRecDepth 100000 in
theorem lifted (os:Os) (started:os.Started) (H:Type) (enc:TypeId×Value→H) (F:Stop.Interp) :
 ReturnsInHanded {} Tryz.checked os 7 .any ((OpenSpec.ofChange Rows.soonSpec).preRow enc Tryz.prog Tryz.f7 Rows.soonRow.domain false Rows.soonRow.laid)
  (((OpenSpec.ofChange Rows.soonSpec).at F).post enc Tryz.prog Tryz.f7 false true false false) :=
 returnsInHanded_of_row (a:={}) (C:=Tryz.checked) (os:=os) (f:=7) (fn:=Tryz.f7) (s:=OpenSpec.ofChange Rows.soonSpec) (F:=F) (conds:=Rows.soonRow.domain) (apart:=false) (fresh:=true) (handsOn:=false) (again:=false) (laid:=Rows.soonRow.laid) own started no_init Tryz.func7 (wit_all os enc)
  (fun W base args ds gs before hval hW _ _ _ hL hsh _=>soon_contract enc W base args ds gs before (en_of hL hsh) hval hW)
theorem said:Rows.SoonSaid :=
 OpenClaim.holds_of_cond 7 Tryz.f7 rfl rfl rfl rfl rfl rfl rfl ⟨rfl,rfl,rfl,rfl,rfl⟩ rfl rfl rfl rfl rfl (by kernel_rfl) Tryz.func7 facts
  (of_decide_eq_true (by kernel_rfl)) (by unfold Func.isWrapper; first | (rw [if_pos (by decide +kernel)]; kernel_rfl) | (rw [if_neg (by decide +kernel)]; exact ⟨rfl,rfl⟩))
  (fun os started H enc _ F=>by rw [OpenClaim.pre_eq_preRow]; exact lifted os started H enc F)
theorem plain (f:FuncId) (fn:Func) (hf:Tryz.pinned.checked.prog.funcNamed "trail/trailkeep.Soon"=some f) (hfn:Tryz.pinned.checked.prog.funcs[f]?=some fn) :
 Rows.soonCard.stood.looks=Tryz.pinned.checked.prog.looks []∧∀(j:Nat) t,fn.params[j]?=some t→Tryz.pinned.checked.prog.wantsStandIn t=false:=by
 obtain rfl:f=7:=Option.some.inj ((show Tryz.prog.funcNamed "trail/trailkeep.Soon"=some 7 by kernel_rfl).symm.trans hf) |>.symm
 obtain rfl:fn=Tryz.f7:=(Option.some.inj (Tryz.func7.symm.trans hfn)).symm
 refine ⟨by kernel_rfl,fun j t ht=>?_⟩
 rw [Tryz.params7] at ht
 have hm:=Array.mem_of_getElem? ht
 simp only [List.mem_toArray,List.mem_cons,List.not_mem_nil,or_false] at hm
 rcases hm with rfl | rfl
 ·exact (show Tryz.prog.wantsStandIn 24=false by kernel_rfl)
 exact (show Tryz.prog.wantsStandIn 24=false by kernel_rfl)
theorem soon_holds:Rows.SoonCardSaid :=
 Claim7.holds_tied_plain_at .later [] _ _ _ _ said (fun _ h=>by cases h) (by kernel_rfl) (fun _ h=>by cases h) soon_row_tie rfl ⟨rfl,rfl⟩ (by kernel_rfl) rfl plain (by kernel_rfl)
end Go.Proofs.YtcbadebjpogmlaaGreatDoor
