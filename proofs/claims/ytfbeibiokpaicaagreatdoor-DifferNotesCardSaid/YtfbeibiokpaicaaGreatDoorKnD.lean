/- Pieces of the examples' run. -/
import Derived.Test.YtfbeibiokpaicaaGreatDoorKnS
namespace Go.AX.Sa
open Go.Proofs
set_option maxRecDepth 100000
theorem kSg8 : groupF (runF Tryz.prog (fun _ _ _ => none) 20000) ⟨10, none, false⟩ (cutAt 1 kSc8).1 kS8 [0, 1, 2, 3, 4, 5, 6, 7, 8, 13, 26, 33, 47, 52, 97, 103, 151, 162, 234, 240, 303, 771, 805, 806, 813, 826, 828, 830, 832, 837, 838, 839, 840, 841, 859, 864, 1009, 1077, 1163, 1378, 1384] = some kS9 := by kernel_rfl
end Go.AX.Sa

namespace Go.AX.Sa
open Go.Proofs
set_option maxRecDepth 100000
theorem kSlast : (match (runF Tryz.prog (fun _ _ _ => none) 20000).code ⟨10, none, false⟩ kSc9 kS9 with | some (e, s) => some (e, s.keep []) | none => none) = some (.ret, kS10) := by kernel_rfl
end Go.AX.Sa
