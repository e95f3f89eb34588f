/- Pieces of the examples' run. -/
import Derived.Test.YtliligceejfakaaGreatDoorKnS
namespace Go.AX.Sa
open Go.Proofs
set_option maxRecDepth 100000
theorem kSlast : lastW Tryz.prog (fun _ _ _ => none) 100000 20000 244 ⟨16, none, false⟩ kSc1 kS1 = some kS2 := by kernel_rfl
end Go.AX.Sa
