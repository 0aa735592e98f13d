/- Proved: Rows.AgreedUptoCardSaid: where all that comes in holds at most 1048576 letters and values together, the law Agreed returns true (a stream tells each of Select's nodes once, with how often it is there, however a right text is cut; and what is wrong is told at the same place by both); the package-level variables that the row lists start as the program's text lays them. -/
import Derived.Test.YtcbadebjpogmlaaGreatDoorALp0
import Derived.Test.YtcbadebjpogmlaaGreatDoorALab
import Derived.Test.YtcbadebjpogmlaaGreatDoorALac
namespace Go.Proofs.YtcbadebjpogmlaaGreatDoor
open Go.ChangeShapes Go.WideShapes Go.ChangeAt Go.RowKit
theorem wit_all (os:Os) {H:Type} (enc:TypeId×Value→H):∃(w:World) (tape:Tape) (i:Input),w.os=os∧(w.forCall tape i).Shaped Tryz.checked.prog∧i.vars=[]∧Input.okWide Tryz.checked.prog (w.forCall tape i) .any w.heap.size 5 i ∧
 (Rows.OpenSpec.upto Rows.agreedSpec).preRow enc Tryz.checked.prog Tryz.f5 Rows.agreedUptoRow.domain false Rows.agreedUptoRow.laid (w.forCall tape i).memory i.args∧({ modest:=false }:Assume).holds Tryz.checked.prog (lone (Frame.enter Tryz.checked.prog 5 i.args .normal) [] (w.forCall tape i)) :=
 (witness_row_atRef (enc:=enc) (C:=Tryz.checked) false (layIn (World.settled Tryz.prog os).heap.size (World.holding Tryz.prog os errsH)) #[.slice none 0 0,.slice none 0 0,.string ⟨#[]⟩,.slice none 0 0,.slice none 0 0] rfl (wit_v os) (wit_r os) (wit_ok os) (witness_row os enc))
set_option maxRecDepth 100000 in
theorem lifted (os:Os) (started:os.Started) (H:Type) (enc:TypeId×Value→H) (F:Stop.Interp) :
 ReturnsInHanded {} Tryz.checked os 5 .any ((Rows.OpenSpec.upto Rows.agreedSpec).preRow enc Tryz.prog Tryz.f5 Rows.agreedUptoRow.domain false Rows.agreedUptoRow.laid)
  (((Rows.OpenSpec.upto Rows.agreedSpec).at F).post enc Tryz.prog Tryz.f5 false true false false) :=
 returnsInHanded_of_row (a:={}) (C:=Tryz.checked) (os:=os) (f:=5) (fn:=Tryz.f5) (s:=Rows.OpenSpec.upto Rows.agreedSpec) (F:=F) (conds:=Rows.agreedUptoRow.domain) (apart:=false) (fresh:=true) (handsOn:=false) (again:=false) (laid:=Rows.agreedUptoRow.laid) own started no_init Tryz.func5 (wit_all os enc)
  (fun W base args ds gs before hval hW _ hcond _ hL hsh _=>agreed_contract enc W base args ds gs before (en_of hL hsh) hval hW (hcond _ rfl))
theorem said:Rows.AgreedUptoSaid :=
 OpenClaim.holds_of_cond 5 Tryz.f5 rfl rfl rfl rfl rfl rfl rfl ⟨rfl,rfl,rfl,rfl,rfl⟩ rfl rfl rfl rfl rfl (by kernel_rfl) Tryz.func5 facts
  (of_decide_eq_true (by kernel_rfl)) (by unfold Func.isWrapper; first | (rw [if_pos (by decide +kernel)]; kernel_rfl) | (rw [if_neg (by decide +kernel)]; exact ⟨rfl,rfl⟩))
  (fun os started H enc _ F=>by rw [OpenClaim.pre_eq_preRow]; exact lifted os started H enc F)
theorem plain (f:FuncId) (fn:Func) (hf:Tryz.pinned.checked.prog.funcNamed "trail/trailkeep.Agreed"=some f) (hfn:Tryz.pinned.checked.prog.funcs[f]?=some fn) :
 Rows.agreedUptoCard.stood.looks=Tryz.pinned.checked.prog.looks []∧∀(j:Nat) t,fn.params[j]?=some t→Tryz.pinned.checked.prog.wantsStandIn t=false:=by
 obtain rfl:f=5:=Option.some.inj ((show Tryz.prog.funcNamed "trail/trailkeep.Agreed"=some 5 by kernel_rfl).symm.trans hf) |>.symm
 obtain rfl:fn=Tryz.f5:=(Option.some.inj (Tryz.func5.symm.trans hfn)).symm
 refine ⟨by kernel_rfl,fun j t ht=>?_⟩
 rw [Tryz.params5] at ht
 have hm:=Array.mem_of_getElem? ht
 simp only [List.mem_toArray,List.mem_cons,List.not_mem_nil,or_false] at hm
 rcases hm with rfl | rfl | rfl | rfl | rfl
 ·exact (show Tryz.prog.wantsStandIn 24=false by kernel_rfl)
 ·exact (show Tryz.prog.wantsStandIn 24=false by kernel_rfl)
 ·exact (show Tryz.prog.wantsStandIn 9=false by kernel_rfl)
 ·exact (show Tryz.prog.wantsStandIn 24=false by kernel_rfl)
 exact (show Tryz.prog.wantsStandIn 24=false by kernel_rfl)
theorem agreed_holds:Rows.AgreedUptoCardSaid :=
 Claim7.holds_tied_plain_at .later [] _ _ _ _ said (fun _ h=>by cases h) (by kernel_rfl) (fun _ h=>by cases h) agreedUpto_row_tie rfl ⟨rfl,rfl⟩ (by kernel_rfl) rfl plain (by kernel_rfl)
end Go.Proofs.YtcbadebjpogmlaaGreatDoor
