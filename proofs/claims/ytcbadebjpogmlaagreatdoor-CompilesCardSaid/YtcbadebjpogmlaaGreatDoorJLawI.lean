/- The law Compiles: the row's statement and the card, if the program's Compile and Text are right. -/
import Derived.Test.YtcbadebjpogmlaaGreatDoorJLawG
import Derived.Test.YtcbadebjpogmlaaGreatDoorJLawH2
namespace Go.Proofs.YtcbadebjpogmlaaGreatDoor
open Go.ChangeShapes Go.WideShapes Go.ChangeAt Go.RowKit

/-- What is left: the program's Compile and Text, in every world that holds what the row lists. -/
def Left : Prop := ∀ W : World, laidMetH Tryz.prog Rows.compilesRow.laid W → SaidX W

theorem wit_all (os : Os) {H : Type} (enc : TypeId × Value → H) : ∃ (w : World) (tape : Tape) (i : Input), w.os = os ∧ (w.forCall tape i).Shaped Tryz.checked.prog ∧ i.vars = [] ∧ Input.okWide Tryz.checked.prog (w.forCall tape i) .any w.heap.size 3 i ∧
      (OpenSpec.ofChange Rows.compilesSpec).preRow enc Tryz.checked.prog Tryz.f3 Rows.compilesRow.domain false Rows.compilesRow.laid (w.forCall tape i).memory i.args ∧ ({ modest := false } : Assume).holds Tryz.checked.prog (lone (Frame.enter Tryz.checked.prog 3 i.args .normal) [] (w.forCall tape i)) :=
    (witness_row_atRef (enc := enc) (C := Tryz.checked) false (layIn (World.settled Tryz.prog os).heap.size (World.holding Tryz.prog os errsH)) #[.slice none 0 0] rfl (wit_v os) (wit_r os) (wit_ok os) (witness_row os enc))

set_option maxRecDepth 100000 in
theorem contract_at (hX : Left) {H : Type} (enc : TypeId × Value → H) (F : Stop.Interp) (W : World) (base : Nat) (args : Array Value) (ds gs : List (DataW H)) (before : List MemPlace)
      (hval : ∀ (j : Nat) t v, Tryz.f3.params[j]? = some t → args[j]? = some v → Value.okWide Tryz.checked.prog W .any base t v)
      (hW : DataW.Whole enc Tryz.checked.prog Tryz.f3.params.toList (OpenSpec.ofChange Rows.compilesSpec).vars false W args.toList ds gs before)
      (hsz : (DataW.weightsEach Tryz.checked.prog (Tryz.f3.params.toList ++ (OpenSpec.ofChange Rows.compilesSpec).bare.plain.varTypes Tryz.checked.prog) (ds ++ gs)).all (· ≤ reachBytes) = true)
      (hL : laidMetH Tryz.checked.prog Rows.compilesRow.laid W) :
      Calls Tryz.checked.prog 3 args W fun e W' => ∃ v, e = .returned v ∧ (((OpenSpec.ofChange Rows.compilesSpec)).at F).post enc Tryz.checked.prog Tryz.f3 false true false false W args v W' :=
  contract enc W base args ds gs before (hX W hL) hval hW hsz

set_option maxRecDepth 100000 in
theorem lifted (hX : Left) (os : Os) (started : os.Started) (H : Type) (enc : TypeId × Value → H) (F : Stop.Interp) :
    ReturnsInHanded {} Tryz.checked os 3 .any ((OpenSpec.ofChange Rows.compilesSpec).preRow enc Tryz.prog Tryz.f3 Rows.compilesRow.domain false Rows.compilesRow.laid)
      (((OpenSpec.ofChange Rows.compilesSpec).at F).post enc Tryz.prog Tryz.f3 false true false false) :=
  returnsInHanded_of_row (a := {}) (C := Tryz.checked) (os := os) (f := 3) (fn := Tryz.f3) (s := OpenSpec.ofChange Rows.compilesSpec) (F := F) (conds := Rows.compilesRow.domain) (apart := false) (fresh := true) (handsOn := false) (again := false) (laid := Rows.compilesRow.laid) own started no_init Tryz.func3 (wit_all os enc)
    (fun W base args ds gs before hval hW _ _ hsz hL _ _ => contract_at hX enc F W base args ds gs before hval hW hsz hL)

theorem said_of (hX : Left) : Rows.CompilesSaid :=
  OpenClaim.holds_of_cond 3 Tryz.f3 rfl rfl rfl rfl rfl rfl rfl ⟨rfl, rfl, rfl, rfl, rfl⟩ rfl rfl rfl rfl rfl (by kernel_rfl) Tryz.func3 facts
    (of_decide_eq_true (by kernel_rfl)) (by unfold Func.isWrapper; first | (rw [if_pos (by decide +kernel)]; kernel_rfl) | (rw [if_neg (by decide +kernel)]; exact ⟨rfl, rfl⟩))
    (fun os started H enc _ F => by rw [OpenClaim.pre_eq_preRow]; exact lifted hX os started H enc F)

theorem plain (f : FuncId) (fn : Func) (hf : Tryz.pinned.checked.prog.funcNamed "trail/traillaw.Compiles" = some f) (hfn : Tryz.pinned.checked.prog.funcs[f]? = some fn) :
    Rows.compilesCard.stood.looks = Tryz.pinned.checked.prog.looks [] ∧ ∀ (j : Nat) t, fn.params[j]? = some t → Tryz.pinned.checked.prog.wantsStandIn t = false := by
  obtain rfl : f = 3 := Option.some.inj ((show Tryz.prog.funcNamed "trail/traillaw.Compiles" = some 3 by kernel_rfl).symm.trans hf) |>.symm
  obtain rfl : fn = Tryz.f3 := (Option.some.inj (Tryz.func3.symm.trans hfn)).symm
  refine ⟨by kernel_rfl, fun j t ht => ?_⟩
  rw [Tryz.params3] at ht
  obtain rfl : t = 22 := by simpa using Array.mem_of_getElem? ht
  exact (show Tryz.prog.wantsStandIn 22 = false by kernel_rfl)

theorem card_of (hX : Left) : Rows.CompilesCardSaid :=
  Claim7.holds_tied_plain_at .later [] _ _ _ _ (said_of hX) (fun _ h => by cases h) (by kernel_rfl) (fun _ h => by cases h) compiles_row_tie rfl ⟨rfl, rfl⟩ (by kernel_rfl) rfl plain (by kernel_rfl)

end Go.Proofs.YtcbadebjpogmlaaGreatDoor
