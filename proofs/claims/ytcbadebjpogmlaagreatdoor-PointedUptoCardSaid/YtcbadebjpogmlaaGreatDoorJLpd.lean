/- Proved: Rows.PointedUptoCardSaid: where both strings together hold at most 1048576 letters and values, the law Pointed returns true (the place that Compile and Select tell of something wrong is the first one); the package-level variables that the row lists start as the program's text lays them. -/
import Derived.Test.YtcbadebjpogmlaaGreatDoorJLpa
import Derived.Test.YtcbadebjpogmlaaGreatDoorJLpb
import Derived.Test.YtcbadebjpogmlaaGreatDoorJLpc
namespace Go.Proofs.YtcbadebjpogmlaaGreatDoor
open Go.ChangeShapes Go.WideShapes Go.ChangeAt Go.RowKit
theorem wit_all (os : Os) {H : Type} (enc : TypeId × Value → H) : ∃ (w : World) (tape : Tape) (i : Input), w.os = os ∧ (w.forCall tape i).Shaped Tryz.checked.prog ∧ i.vars = [] ∧ Input.okWide Tryz.checked.prog (w.forCall tape i) .any w.heap.size 11 i ∧
      (Rows.OpenSpec.upto Rows.pointedSpec).preRow enc Tryz.checked.prog Tryz.f11 Rows.pointedUptoRow.domain false Rows.pointedUptoRow.laid (w.forCall tape i).memory i.args ∧ ({ modest := false } : Assume).holds Tryz.checked.prog (lone (Frame.enter Tryz.checked.prog 11 i.args .normal) [] (w.forCall tape i)) :=
    (witness_row_atRef (enc := enc) (C := Tryz.checked) false (layIn (World.settled Tryz.prog os).heap.size (World.holding Tryz.prog os errsH)) #[.string ⟨#[]⟩, .string ⟨#[]⟩] rfl (wit_v os) (wit_r os) (wit_ok os) (witness_row os enc))
set_option maxRecDepth 100000 in
theorem lifted (os : Os) (started : os.Started) (H : Type) (enc : TypeId × Value → H) (F : Stop.Interp) :
    ReturnsInHanded {} Tryz.checked os 11 .any ((Rows.OpenSpec.upto Rows.pointedSpec).preRow enc Tryz.prog Tryz.f11 Rows.pointedUptoRow.domain false Rows.pointedUptoRow.laid)
      (((Rows.OpenSpec.upto Rows.pointedSpec).at F).post enc Tryz.prog Tryz.f11 false true false false) :=
  returnsInHanded_of_row (a := {}) (C := Tryz.checked) (os := os) (f := 11) (fn := Tryz.f11) (s := Rows.OpenSpec.upto Rows.pointedSpec) (F := F) (conds := Rows.pointedUptoRow.domain) (apart := false) (fresh := true) (handsOn := false) (again := false) (laid := Rows.pointedUptoRow.laid) own started no_init Tryz.func11 (wit_all os enc)
    (fun W base args ds gs before hval hW _ hcond _ hL hsh _ => pointed_contract enc W base args ds gs before (en_of hL hsh) hval hW (hcond _ rfl))
theorem said : Rows.PointedUptoSaid :=
  OpenClaim.holds_of_cond 11 Tryz.f11 rfl rfl rfl rfl rfl rfl rfl ⟨rfl, rfl, rfl, rfl, rfl⟩ rfl rfl rfl rfl rfl (by kernel_rfl) Tryz.func11 facts
    (of_decide_eq_true (by kernel_rfl)) (by unfold Func.isWrapper; first | (rw [if_pos (by decide +kernel)]; kernel_rfl) | (rw [if_neg (by decide +kernel)]; exact ⟨rfl, rfl⟩))
    (fun os started H enc _ F => by rw [OpenClaim.pre_eq_preRow]; exact lifted os started H enc F)
theorem plain (f : FuncId) (fn : Func) (hf : Tryz.pinned.checked.prog.funcNamed "trail/trailkeep.Pointed" = some f) (hfn : Tryz.pinned.checked.prog.funcs[f]? = some fn) :
    Rows.pointedUptoCard.stood.looks = Tryz.pinned.checked.prog.looks [] ∧ ∀ (j : Nat) t, fn.params[j]? = some t → Tryz.pinned.checked.prog.wantsStandIn t = false := by
  obtain rfl : f = 11 := Option.some.inj ((show Tryz.prog.funcNamed "trail/trailkeep.Pointed" = some 11 by kernel_rfl).symm.trans hf) |>.symm
  obtain rfl : fn = Tryz.f11 := (Option.some.inj (Tryz.func11.symm.trans hfn)).symm
  refine ⟨by kernel_rfl, fun j t ht => ?_⟩
  rw [Tryz.params11] at ht
  obtain rfl : t = 9 := by simpa using Array.mem_of_getElem? ht
  exact (show Tryz.prog.wantsStandIn 9 = false by kernel_rfl)
theorem pointed_holds : Rows.PointedUptoCardSaid :=
  Claim7.holds_tied_plain_at .later [] _ _ _ _ said (fun _ h => by cases h) (by kernel_rfl) (fun _ h => by cases h) pointedUpto_row_tie rfl ⟨rfl, rfl⟩ (by kernel_rfl) rfl plain (by kernel_rfl)
end Go.Proofs.YtcbadebjpogmlaaGreatDoor
