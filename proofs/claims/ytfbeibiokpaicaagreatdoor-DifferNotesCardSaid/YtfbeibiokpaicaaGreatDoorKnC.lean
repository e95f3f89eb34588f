/- Pieces of the examples' run. -/
import Derived.Test.YtfbeibiokpaicaaGreatDoorKnS
namespace Go.AX.Sa
open Go.Proofs
set_option maxRecDepth 100000
theorem kSg5 : groupF (runF Tryz.prog (fun _ _ _ => none) 20000) ⟨10, none, false⟩ (cutAt 1 kSc5).1 kS5 [0, 1, 2, 3, 4, 5, 6, 7, 8, 13, 26, 33, 47, 52, 97, 103, 151, 162, 234, 240, 303, 771, 805, 806, 813, 826, 828, 830, 832, 837, 838, 839, 840, 841, 859, 864] = some kS6 := by kernel_rfl
end Go.AX.Sa

namespace Go.AX.Sa
open Go.Proofs
set_option maxRecDepth 100000
theorem kSg6 : groupF (runF Tryz.prog (fun _ _ _ => none) 20000) ⟨10, none, false⟩ (cutAt 1 kSc6).1 kS6 [0, 1, 2, 3, 4, 5, 6, 7, 8, 13, 26, 33, 47, 52, 97, 103, 151, 162, 234, 240, 303, 771, 805, 806, 813, 826, 828, 830, 832, 837, 838, 839, 840, 841, 859, 864, 1009, 1077] = some kS7 := by kernel_rfl
end Go.AX.Sa

namespace Go.AX.Sa
open Go.Proofs
set_option maxRecDepth 100000
theorem kSg7 : groupF (runF Tryz.prog (fun _ _ _ => none) 20000) ⟨10, none, false⟩ (cutAt 1 kSc7).1 kS7 [0, 1, 2, 3, 4, 5, 6, 7, 8, 13, 26, 33, 47, 52, 97, 103, 151, 162, 234, 240, 303, 771, 805, 806, 813, 826, 828, 830, 832, 837, 838, 839, 840, 841, 859, 864, 1009, 1077, 1163] = some kS8 := by kernel_rfl
end Go.AX.Sa
