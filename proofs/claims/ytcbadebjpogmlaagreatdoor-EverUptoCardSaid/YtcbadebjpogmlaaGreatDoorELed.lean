/- Proved: Rows.EverUptoCardSaid: where all that comes in holds at most 1048576 letters and values together, the law Ever returns true (what is told of the beginning of a text is told first of all of whatever text begins so); the package-level variables that the row lists start as the program's text lays them. -/
import Derived.Test.YtcbadebjpogmlaaGreatDoorELp0
import Derived.Test.YtcbadebjpogmlaaGreatDoorELeb
import Derived.Test.YtcbadebjpogmlaaGreatDoorELec
namespace Go.Proofs.YtcbadebjpogmlaaGreatDoor
open Go.ChangeShapes Go.WideShapes Go.ChangeAt Go.RowKit
theorem wit_all (os:Os) {H:Type} (enc:TypeId×Value→H):∃(w:World) (tape:Tape) (i:Input),w.os=os∧(w.forCall tape i).Shaped Tryz.checked.prog∧i.vars=[]∧Input.okWide Tryz.checked.prog (w.forCall tape i) .any w.heap.size 6 i ∧
      (Rows.OpenSpec.upto Rows.everSpec).preRow enc Tryz.checked.prog Tryz.f6 Rows.everUptoRow.domain false Rows.everUptoRow.laid (w.forCall tape i).memory i.args∧({ modest:=false }:Assume).holds Tryz.checked.prog (lone (Frame.enter Tryz.checked.prog 6 i.args .normal) [] (w.forCall tape i)) :=
    (witness_row_atRef (enc:=enc) (C:=Tryz.checked) false (layIn (World.settled Tryz.prog os).heap.size (World.holding Tryz.prog os errsH)) #[.slice none 0 0,.slice none 0 0,.string ⟨#[]⟩,.int .i64 0,.slice none 0 0] rfl (wit_v os) (wit_r os) (wit_ok os) (witness_row os enc))
set_option maxRecDepth 100000 in
theorem lifted (os:Os) (started:os.Started) (H:Type) (enc:TypeId×Value→H) (F:Stop.Interp) :
    ReturnsInHanded {} Tryz.checked os 6 .any ((Rows.OpenSpec.upto Rows.everSpec).preRow enc Tryz.prog Tryz.f6 Rows.everUptoRow.domain false Rows.everUptoRow.laid)
      (((Rows.OpenSpec.upto Rows.everSpec).at F).post enc Tryz.prog Tryz.f6 false true false false) :=
  returnsInHanded_of_row (a:={}) (C:=Tryz.checked) (os:=os) (f:=6) (fn:=Tryz.f6) (s:=Rows.OpenSpec.upto Rows.everSpec) (F:=F) (conds:=Rows.everUptoRow.domain) (apart:=false) (fresh:=true) (handsOn:=false) (again:=false) (laid:=Rows.everUptoRow.laid) own started no_init Tryz.func6 (wit_all os enc)
    (fun W base args ds gs before hval hW _ hcond _ hL hsh _=>ever_contract enc W base args ds gs before (en_of hL hsh) hval hW (hcond _ rfl))
theorem said:Rows.EverUptoSaid :=
  OpenClaim.holds_of_cond 6 Tryz.f6 rfl rfl rfl rfl rfl rfl rfl ⟨rfl,rfl,rfl,rfl,rfl⟩ rfl rfl rfl rfl rfl (by kernel_rfl) Tryz.func6 facts
    (of_decide_eq_true (by kernel_rfl)) (by unfold Func.isWrapper; first | (rw [if_pos (by decide +kernel)]; kernel_rfl) | (rw [if_neg (by decide +kernel)]; exact ⟨rfl,rfl⟩))
    (fun os started H enc _ F=>by rw [OpenClaim.pre_eq_preRow]; exact lifted os started H enc F)
theorem plain (f:FuncId) (fn:Func) (hf:Tryz.pinned.checked.prog.funcNamed "trail/trailkeep.Ever"=some f) (hfn:Tryz.pinned.checked.prog.funcs[f]?=some fn) :
    Rows.everUptoCard.stood.looks=Tryz.pinned.checked.prog.looks []∧∀(j:Nat) t,fn.params[j]?=some t→Tryz.pinned.checked.prog.wantsStandIn t=false:=by
  obtain rfl:f=6:=Option.some.inj ((show Tryz.prog.funcNamed "trail/trailkeep.Ever"=some 6 by kernel_rfl).symm.trans hf) |>.symm
  obtain rfl:fn=Tryz.f6:=(Option.some.inj (Tryz.func6.symm.trans hfn)).symm
  refine ⟨by kernel_rfl,fun j t ht=>?_⟩
  rw [Tryz.params6] at ht
  have hm:=Array.mem_of_getElem? ht
  simp only [List.mem_toArray,List.mem_cons,List.not_mem_nil,or_false] at hm
  rcases hm with rfl | rfl | rfl | rfl | rfl
  · exact (show Tryz.prog.wantsStandIn 24=false by kernel_rfl)
  · exact (show Tryz.prog.wantsStandIn 24=false by kernel_rfl)
  · exact (show Tryz.prog.wantsStandIn 9=false by kernel_rfl)
  · exact (show Tryz.prog.wantsStandIn 3=false by kernel_rfl)
  exact (show Tryz.prog.wantsStandIn 24=false by kernel_rfl)
theorem ever_holds:Rows.EverUptoCardSaid :=
  Claim7.holds_tied_plain_at .later [] _ _ _ _ said (fun _ h=>by cases h) (by kernel_rfl) (fun _ h=>by cases h) everUpto_row_tie rfl ⟨rfl,rfl⟩ (by kernel_rfl) rfl plain (by kernel_rfl)
end Go.Proofs.YtcbadebjpogmlaaGreatDoor
