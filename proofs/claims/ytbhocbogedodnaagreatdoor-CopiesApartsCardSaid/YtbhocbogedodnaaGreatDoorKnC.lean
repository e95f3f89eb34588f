/- Pieces of the examples' run. -/
import Derived.Test.YtbhocbogedodnaaGreatDoorKnS
namespace Go.AX.Sa
open Go.Proofs
set_option maxRecDepth 100000
theorem kSg5 : groupW Tryz.prog (fun _ _ _ => none) 100000 20000 230 ⟨17, none, false⟩ (cutAt 1 kSc5).1 kS5 [0, 1, 2, 3, 4, 5, 6, 8, 9, 10, 11, 12, 13, 14, 34, 36, 37, 38, 39, 40, 41, 42, 82, 83, 84, 85, 86, 87, 88, 89, 90, 91, 92, 93, 94, 95, 123, 125, 126, 127, 128, 129, 130, 131, 1347, 1348, 1349, 1350, 1351, 1352, 1353, 2569, 2573, 2577, 2581, 2585, 2589, 2593, 2595, 2596, 2597, 2598, 2599, 2600, 2601, 3818, 3819, 3820, 3821, 3822, 3823, 3824, 5103, 5105, 5106, 5107, 5108, 5109, 5110, 5111, 6332] = some kS6 := by kernel_rfl
end Go.AX.Sa

namespace Go.AX.Sa
open Go.Proofs
set_option maxRecDepth 100000
theorem kSg6 : groupW Tryz.prog (fun _ _ _ => none) 100000 20000 230 ⟨17, none, false⟩ (cutAt 1 kSc6).1 kS6 [0, 1, 2, 3, 4, 5, 6, 8, 9, 10, 11, 12, 13, 14, 34, 36, 37, 38, 39, 40, 41, 42, 82, 83, 84, 85, 86, 87, 88, 89, 90, 91, 92, 93, 94, 95, 123, 125, 126, 127, 128, 129, 130, 131, 1347, 1348, 1349, 1350, 1351, 1352, 1353, 2569, 2573, 2577, 2581, 2585, 2589, 2593, 2595, 2596, 2597, 2598, 2599, 2600, 2601, 3818, 3819, 3820, 3821, 3822, 3823, 3824, 5103, 5105, 5106, 5107, 5108, 5109, 5110, 5111, 6332, 6334, 6335, 6336, 6337, 6338, 6339, 6340] = some kS7 := by kernel_rfl
end Go.AX.Sa

namespace Go.AX.Sa
open Go.Proofs
set_option maxRecDepth 100000
theorem kSlast : lastW Tryz.prog (fun _ _ _ => none) 100000 20000 230 ⟨17, none, false⟩ kSc7 kS7 = some kS8 := by kernel_rfl
end Go.AX.Sa
