/- Pieces of the examples' run. -/
import Derived.Test.YtkemoboalaegjaaGreatDoorKnS
namespace Go.AX.Sa
open Go.Proofs
set_option maxRecDepth 100000
theorem kSg0 : groupF (runF Tryz.prog (fun _ _ _ => none) 20000) ⟨10, none, false⟩ (cutAt 6 kSc0).1 kS0 [0, 1, 2, 3, 4, 5, 6, 7, 8, 13, 24, 31, 43, 48, 78, 84, 117] = some kS1 := by kernel_rfl
end Go.AX.Sa

namespace Go.AX.Sa
open Go.Proofs
set_option maxRecDepth 100000
theorem kSg1 : groupF (runF Tryz.prog (fun _ _ _ => none) 20000) ⟨10, none, false⟩ (cutAt 2 kSc1).1 kS1 [0, 1, 2, 3, 4, 5, 6, 7, 8, 13, 24, 31, 43, 48, 78, 84, 117, 128, 185, 191] = some kS2 := by kernel_rfl
end Go.AX.Sa

namespace Go.AX.Sa
open Go.Proofs
set_option maxRecDepth 100000
theorem kSg3 : groupF (runF Tryz.prog (fun _ _ _ => none) 20000) ⟨10, none, false⟩ (cutAt 2 kSc3).1 kS3 [0, 1, 2, 3, 4, 5, 6, 7, 8, 13, 24, 31, 43, 48, 78, 84, 117, 128, 185, 191, 239, 599, 630, 631] = some kS4 := by kernel_rfl
end Go.AX.Sa

namespace Go.AX.Sa
open Go.Proofs
set_option maxRecDepth 100000
theorem kSg4 : groupF (runF Tryz.prog (fun _ _ _ => none) 20000) ⟨10, none, false⟩ (cutAt 2 kSc4).1 kS4 [0, 1, 2, 3, 4, 5, 6, 7, 8, 13, 24, 31, 43, 48, 78, 84, 117, 128, 185, 191, 239, 599, 630, 631, 638, 649, 651, 653, 655, 660, 661, 662, 663, 664, 679] = some kS5 := by kernel_rfl
end Go.AX.Sa
