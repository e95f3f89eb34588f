/- Pieces of the examples' run. -/
import Derived.Test.YtfbeibiokpaicaaGreatDoorKnS
namespace Go.AX.Sa
open Go.Proofs
set_option maxRecDepth 100000
theorem kSg2 : groupF (runF Tryz.prog (fun _ _ _ => none) 20000) ⟨10, none, false⟩ (cutAt 1 kSc2).1 kS2 [0, 1, 2, 3, 4, 5, 6, 7, 8, 13, 26, 33, 47, 52, 97, 103, 151, 162, 234, 240, 303] = some kS3 := by kernel_rfl
end Go.AX.Sa
