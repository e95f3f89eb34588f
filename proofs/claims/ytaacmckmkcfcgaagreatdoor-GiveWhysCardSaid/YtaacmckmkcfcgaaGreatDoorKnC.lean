/- Pieces of the examples' run. -/
import Derived.Test.YtaacmckmkcfcgaaGreatDoorKnS
namespace Go.AX.Sa
open Go.Proofs
set_option maxRecDepth 100000
theorem kSg2 : groupW Tryz.prog (fun _ _ _ => none) 100000 20000 242 ⟨10, none, false⟩ (cutAt 1 kSc2).1 kS2 [0, 1, 2, 3, 4, 5, 6, 16, 17, 18, 21, 81, 82, 83, 86, 87, 88, 89, 179, 227, 228, 229, 232, 481, 491, 492, 493, 496, 761, 771, 772, 773, 776, 1039, 1040, 1041, 1044, 1115, 1116, 1117, 1120, 1383, 1393, 1394, 1395, 2363, 2583, 2584, 2585, 3986, 3987, 3988, 4732, 4847, 4848, 4849, 7196] = some kS3 := by kernel_rfl
end Go.AX.Sa
