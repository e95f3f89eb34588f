/- Pieces of the examples' run. -/
import Derived.Test.YtbhocbogedodnaaGreatDoorKnS
namespace Go.AX.Sa
open Go.Proofs
set_option maxRecDepth 100000
theorem kSg3 : groupW Tryz.prog (fun _ _ _ => none) 100000 20000 230 ⟨17, none, false⟩ (cutAt 1 kSc3).1 kS3 [0, 1, 2, 3, 4, 5, 6, 8, 9, 10, 11, 12, 13, 14, 34, 36, 37, 38, 39, 40, 41, 42, 82, 83, 84, 85, 86, 87, 88, 89, 90, 91, 92, 93, 94, 95, 123, 125, 126, 127, 128, 129, 130, 131, 1347, 1348, 1349, 1350, 1351, 1352, 1353, 2569, 2573, 2577, 2581, 2585, 2589, 2593, 2595, 2596, 2597, 2598, 2599, 2600, 2601] = some kS4 := by kernel_rfl
end Go.AX.Sa

namespace Go.AX.Sa
open Go.Proofs
set_option maxRecDepth 100000
theorem kSg4 : groupW Tryz.prog (fun _ _ _ => none) 100000 20000 230 ⟨17, none, false⟩ (cutAt 1 kSc4).1 kS4 [0, 1, 2, 3, 4, 5, 6, 8, 9, 10, 11, 12, 13, 14, 34, 36, 37, 38, 39, 40, 41, 42, 82, 83, 84, 85, 86, 87, 88, 89, 90, 91, 92, 93, 94, 95, 123, 125, 126, 127, 128, 129, 130, 131, 1347, 1348, 1349, 1350, 1351, 1352, 1353, 2569, 2573, 2577, 2581, 2585, 2589, 2593, 2595, 2596, 2597, 2598, 2599, 2600, 2601, 3818, 3819, 3820, 3821, 3822, 3823, 3824, 5103] = some kS5 := by kernel_rfl
end Go.AX.Sa
