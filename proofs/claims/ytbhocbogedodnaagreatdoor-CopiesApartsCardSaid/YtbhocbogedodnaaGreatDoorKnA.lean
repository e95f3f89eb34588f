/- Pieces of the examples' run. -/
import Derived.Test.YtbhocbogedodnaaGreatDoorKnS
namespace Go.AX.Sa
open Go.Proofs
set_option maxRecDepth 100000
theorem kSg0 : groupW Tryz.prog (fun _ _ _ => none) 100000 20000 230 ⟨17, none, false⟩ (cutAt 4 kSc0).1 kS0 [0, 1, 2, 3, 4, 5, 6, 8, 9, 10, 11, 12, 13, 14, 34, 36, 37, 38, 39, 40, 41, 42, 82, 83, 84, 85, 86, 87, 88, 89, 90, 91, 92, 93, 94, 95, 123] = some kS1 := by kernel_rfl
end Go.AX.Sa

namespace Go.AX.Sa
open Go.Proofs
set_option maxRecDepth 100000
theorem kSg1 : groupW Tryz.prog (fun _ _ _ => none) 100000 20000 230 ⟨17, none, false⟩ (cutAt 1 kSc1).1 kS1 [0, 1, 2, 3, 4, 5, 6, 8, 9, 10, 11, 12, 13, 14, 34, 36, 37, 38, 39, 40, 41, 42, 82, 83, 84, 85, 86, 87, 88, 89, 90, 91, 92, 93, 94, 95, 123, 125, 126, 127, 128, 129, 130, 131] = some kS2 := by kernel_rfl
end Go.AX.Sa

namespace Go.AX.Sa
open Go.Proofs
set_option maxRecDepth 100000
theorem kSg2 : groupW Tryz.prog (fun _ _ _ => none) 100000 20000 230 ⟨17, none, false⟩ (cutAt 1 kSc2).1 kS2 [0, 1, 2, 3, 4, 5, 6, 8, 9, 10, 11, 12, 13, 14, 34, 36, 37, 38, 39, 40, 41, 42, 82, 83, 84, 85, 86, 87, 88, 89, 90, 91, 92, 93, 94, 95, 123, 125, 126, 127, 128, 129, 130, 131, 1347, 1348, 1349, 1350, 1351, 1352, 1353, 2569, 2573, 2577, 2581, 2585, 2589, 2593] = some kS3 := by kernel_rfl
end Go.AX.Sa
