/- Pieces of the examples' run. -/
import Derived.Test.YtkemoboalaegjaaGreatDoorKnS
namespace Go.AX.Sa
open Go.Proofs
set_option maxRecDepth 100000
theorem kSg5 : groupF (runF Tryz.prog (fun _ _ _ => none) 20000) ⟨10, none, false⟩ (cutAt 1 kSc5).1 kS5 [0, 1, 2, 3, 4, 5, 6, 7, 8, 13, 24, 31, 43, 48, 78, 84, 117, 128, 185, 191, 239, 599, 630, 631, 638, 649, 651, 653, 655, 660, 661, 662, 663, 664, 679, 684] = some kS6 := by kernel_rfl
end Go.AX.Sa

namespace Go.AX.Sa
open Go.Proofs
set_option maxRecDepth 100000
theorem kSg6 : groupF (runF Tryz.prog (fun _ _ _ => none) 20000) ⟨10, none, false⟩ (cutAt 1 kSc6).1 kS6 [0, 1, 2, 3, 4, 5, 6, 7, 8, 13, 24, 31, 43, 48, 78, 84, 117, 128, 185, 191, 239, 599, 630, 631, 638, 649, 651, 653, 655, 660, 661, 662, 663, 664, 679, 684, 764, 805] = some kS7 := by kernel_rfl
end Go.AX.Sa

namespace Go.AX.Sa
open Go.Proofs
set_option maxRecDepth 100000
theorem kSg7 : groupF (runF Tryz.prog (fun _ _ _ => none) 20000) ⟨10, none, false⟩ (cutAt 1 kSc7).1 kS7 [0, 1, 2, 3, 4, 5, 6, 7, 8, 13, 24, 31, 43, 48, 78, 84, 117, 128, 185, 191, 239, 599, 630, 631, 638, 649, 651, 653, 655, 660, 661, 662, 663, 664, 679, 684, 764, 805, 853] = some kS8 := by kernel_rfl
end Go.AX.Sa
