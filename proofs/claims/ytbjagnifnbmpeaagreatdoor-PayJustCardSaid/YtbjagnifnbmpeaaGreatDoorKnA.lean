/- Pieces of the examples' run. -/
import Derived.Test.YtbjagnifnbmpeaaGreatDoorKnS
namespace Go.AX.Sa
open Go.Proofs
set_option maxRecDepth 100000
theorem kSg0 : groupW Tryz.prog (fun _ _ _ => none) 100000 20000 206 ⟨20, none, false⟩ (cutAt 13 kSc0).1 kS0 [0, 1, 2, 3, 4, 5, 6, 7, 8, 9, 26, 30, 122, 126, 127, 208, 212, 213, 299, 586, 590, 748, 752, 871, 931, 1380, 1681, 1685, 1736] = some kS1 := by kernel_rfl
end Go.AX.Sa
