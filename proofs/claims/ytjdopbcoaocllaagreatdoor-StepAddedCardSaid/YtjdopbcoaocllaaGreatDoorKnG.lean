/- A piece of the examples' run. -/
import Derived.Test.YtjdopbcoaocllaaGreatDoorKnS
namespace Go.AX.Sa
open Go.Proofs
set_option maxRecDepth 100000
theorem kSlast : lastW Tryz.prog KI 100000 20000 230 ⟨16, none, false⟩ kSc6 kS6 = some kS7 := by kernel_rfl
end Go.AX.Sa
