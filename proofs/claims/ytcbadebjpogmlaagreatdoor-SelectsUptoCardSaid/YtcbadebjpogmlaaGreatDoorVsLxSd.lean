/- Proved: Rows.SelectsUptoCardSaid: where a script holds at most 1048576 letters and values, the law Selects returns true; the package-level variables that the row lists start as the program's text lays them. -/
import Derived.Test.YtcbadebjpogmlaaGreatDoorVsLwH
import Derived.Test.YtcbadebjpogmlaaGreatDoorVsLawA
set_option maxRecDepth 100000
namespace Go.Proofs.YtcbadebjpogmlaaGreatDoor
open Go.ChangeShapes Go.WideShapes Go.ChangeAt Go.RowKit
theorem LZ (os:Os) {H:Type} (enc:TypeId×Value->H):∃(w:World) (tape:Tape) (i:Input),w.os=os/\(w.forCall tape i).Shaped Tryz.checked.prog/\i.vars=[]/\Input.okWide Tryz.checked.prog (w.forCall tape i) .any w.heap.size 4 i /\
 (Rows.OpenSpec.upto Rows.selectsSpec).preRow enc Tryz.checked.prog Tryz.f4 Rows.selectsUptoRow.domain false Rows.selectsUptoRow.laid (w.forCall tape i).memory i.args/\({ modest:=false }:Assume).holds Tryz.checked.prog (lone (Frame.enter Tryz.checked.prog 4 i.args .normal) [] (w.forCall tape i)) :=
 (witness_row_atRef (enc:=enc) (C:=Tryz.checked) false (qq (World.settled Tryz.prog os).heap.size (World.holding Tryz.prog os qp)) #[.slice none 0 0] rfl (U9 os) (U_ os) (QH os) (wK os enc))
theorem lifted (os:Os) (started:os.Started) (H:Type) (enc:TypeId×Value->H) (F:Stop.Interp) :
 ReturnsInHanded {} Tryz.checked os 4 .any ((Rows.OpenSpec.upto Rows.selectsSpec).preRow enc Tryz.prog Tryz.f4 Rows.selectsUptoRow.domain false Rows.selectsUptoRow.laid)
  (((Rows.OpenSpec.upto Rows.selectsSpec).at F).post enc Tryz.prog Tryz.f4 false true false false) :=
 returnsInHanded_of_row (a:={}) (C:=Tryz.checked) (os:=os) (f:=4) (fn:=Tryz.f4) (s:=Rows.OpenSpec.upto Rows.selectsSpec) (F:=F) (conds:=Rows.selectsUptoRow.domain) (apart:=false) (fresh:=true) (handsOn:=false) (again:=false) (laid:=Rows.selectsUptoRow.laid) own started Lx Tryz.func4 (LZ os enc)
  (λ W base args ds gs before hval hW _ VJ _ hL hsh _=>nO enc W base args ds gs before (U6 hL hsh) hval hW (VJ _ rfl))
theorem said:Rows.SelectsUptoSaid :=
 OpenClaim.holds_of_cond 4 Tryz.f4 rfl rfl rfl rfl rfl rfl rfl ⟨rfl,rfl,rfl,rfl,rfl⟩ rfl rfl rfl rfl rfl (by kernel_rfl) Tryz.func4 facts
  (of_decide_eq_true (by kernel_rfl)) (by unfold Func.isWrapper; first | (rw [if_pos (by decide +kernel)]; kernel_rfl) | (rw [if_neg (by decide +kernel)]; exact ⟨rfl,rfl⟩))
  (λ os started H enc _ F=>by rw [OpenClaim.pre_eq_preRow]; exact lifted os started H enc F)
theorem plain (f:FuncId) (fn:Func) (hf:Tryz.pinned.checked.prog.funcNamed "trail/traillaw.Selects"=some f) (hfn:Tryz.pinned.checked.prog.funcs[f]?=some fn) :
 Rows.selectsUptoCard.stood.looks=Tryz.pinned.checked.prog.looks []/\∀(j:Nat) t,fn.params[j]?=some t->Tryz.pinned.checked.prog.wantsStandIn t=false:=by
 obtain rfl:f=4:=Option.some.inj ((show Tryz.prog.funcNamed "trail/traillaw.Selects"=some 4 by kernel_rfl).symm.trans hf) |>.symm
 obtain rfl:fn=Tryz.f4:=(Option.some.inj (Tryz.func4.symm.trans hfn)).symm
 refine ⟨by kernel_rfl,λ j t ht=>?_⟩
 rw [Tryz.params4] at ht
 obtain rfl:t=22:=by simpa using Array.mem_of_getElem? ht
 exact (show Tryz.prog.wantsStandIn 22=false by kernel_rfl)
theorem selects_holds:Rows.SelectsUptoCardSaid :=
 Claim7.holds_tied_plain_at .later [] _ _ _ _ said (λ_ h=>by cases h) (by kernel_rfl) (λ_ h=>by cases h) selectsUpto_row_tie rfl ⟨rfl,rfl⟩ (by kernel_rfl) rfl plain (by kernel_rfl)
end Go.Proofs.YtcbadebjpogmlaaGreatDoor
