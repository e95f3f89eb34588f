/- The card of StepAdded: it answers true for every input, and each argument reads behind the call as before; conditions: none but the row's own. -/
import Derived.Test.YtjdopbcoaocllaaGreatDoorStepAddedLaw
namespace Go.Proofs.YtjdopbcoaocllaaGreatDoor.stepAddedLaw
open Go.ChangeShapes Go.WideShapes Go.ChangeAt Go.RowKit Go.AX Go.AX.Sa Go.Proofs.YtjdopbcoaocllaaGreatDoor.tables
set_option maxRecDepth 100000

theorem plain (f : FuncId) (fn : Func) (hf : Tryz.pinned.checked.prog.funcNamed "ephemerist/ephemeristlaw05.StepAdded" = some f) (hfn : Tryz.pinned.checked.prog.funcs[f]? = some fn) :
    true = Tryz.pinned.checked.prog.looks [] ∧ ∀ (j : Nat) t, fn.params[j]? = some t → Tryz.pinned.checked.prog.wantsStandIn t = false := by
  obtain rfl : f = 13 := Option.some.inj ((show Tryz.prog.funcNamed "ephemerist/ephemeristlaw05.StepAdded" = some 13 by kernel_rfl).symm.trans hf) |>.symm
  obtain rfl : fn = Tryz.f13 := (Option.some.inj (Tryz.func13.symm.trans hfn)).symm
  refine ⟨by kernel_rfl, fun j t ht => ?_⟩
  rw [Tryz.params13] at ht
  have h3 : t = 25 ∨ t = 26 ∨ t = 3 := by
    match j, ht with
    | 0, ht => left; simpa using ht.symm
    | 1, ht => right; left; simpa using ht.symm
    | 2, ht => right; right; simpa using ht.symm
    | j + 3, ht => simp at ht
  rcases h3 with rfl | rfl | rfl
  · exact (show Tryz.prog.wantsStandIn 25 = false by kernel_rfl)
  · exact (show Tryz.prog.wantsStandIn 26 = false by kernel_rfl)
  · exact (show Tryz.prog.wantsStandIn 3 = false by kernel_rfl)

/-- THE CARD. -/
theorem card : Rows.StepAddedCardSaid :=
  Claim7.holds_tied_plain_at .later [] _ _ _ _ said (fun _ h => by cases h) (by kernel_rfl) (fun _ h => by cases h) stepAdded_row_tie rfl ⟨rfl, rfl⟩ (by kernel_rfl) rfl plain goes

end Go.Proofs.YtjdopbcoaocllaaGreatDoor.stepAddedLaw
