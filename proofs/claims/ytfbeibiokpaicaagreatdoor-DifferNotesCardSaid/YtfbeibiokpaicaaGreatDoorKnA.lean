/- Pieces of the examples' run. -/
import Derived.Test.YtfbeibiokpaicaaGreatDoorKnS
namespace Go.AX.Sa
open Go.Proofs
set_option maxRecDepth 100000
theorem kSg0 : groupF (runF Tryz.prog (fun _ _ _ => none) 20000) ⟨10, none, false⟩ (cutAt 6 kSc0).1 kS0 [0, 1, 2, 3, 4, 5, 6, 7, 8, 13, 26, 33, 47, 52, 97, 103, 151] = some kS1 := by kernel_rfl
end Go.AX.Sa

namespace Go.AX.Sa
open Go.Proofs
set_option maxRecDepth 100000
theorem kSg1 : groupF (runF Tryz.prog (fun _ _ _ => none) 20000) ⟨10, none, false⟩ (cutAt 2 kSc1).1 kS1 [0, 1, 2, 3, 4, 5, 6, 7, 8, 13, 26, 33, 47, 52, 97, 103, 151, 162, 234, 240] = some kS2 := by kernel_rfl
end Go.AX.Sa

namespace Go.AX.Sa
open Go.Proofs
set_option maxRecDepth 100000
theorem kSg3 : groupF (runF Tryz.prog (fun _ _ _ => none) 20000) ⟨10, none, false⟩ (cutAt 2 kSc3).1 kS3 [0, 1, 2, 3, 4, 5, 6, 7, 8, 13, 26, 33, 47, 52, 97, 103, 151, 162, 234, 240, 303, 771, 805, 806] = some kS4 := by kernel_rfl
end Go.AX.Sa

namespace Go.AX.Sa
open Go.Proofs
set_option maxRecDepth 100000
theorem kSg4 : groupF (runF Tryz.prog (fun _ _ _ => none) 20000) ⟨10, none, false⟩ (cutAt 2 kSc4).1 kS4 [0, 1, 2, 3, 4, 5, 6, 7, 8, 13, 26, 33, 47, 52, 97, 103, 151, 162, 234, 240, 303, 771, 805, 806, 813, 826, 828, 830, 832, 837, 838, 839, 840, 841, 859] = some kS5 := by kernel_rfl
end Go.AX.Sa
