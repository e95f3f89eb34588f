/- A piece of the examples' run. -/
import Derived.Test.YtjdopbcoaocllaaGreatDoorKnS
namespace Go.AX.Sa
open Go.Proofs
set_option maxRecDepth 100000
theorem kSg0 : groupW Tryz.prog KI 100000 20000 230 ⟨16, none, false⟩ (cutAt 6 kSc0).1 kS0 [0, 1, 2, 3, 4, 5, 6, 14, 15, 16, 47, 80, 81, 82, 143, 167, 169, 402, 404, 555] = some kS1 := by kernel_rfl
end Go.AX.Sa
