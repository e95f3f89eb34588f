/- Pieces of the examples' run. -/
import Derived.Test.YtkemoboalaegjaaGreatDoorKnS
namespace Go.AX.Sa
open Go.Proofs
set_option maxRecDepth 100000
theorem kSg8 : groupF (runF Tryz.prog (fun _ _ _ => none) 20000) ⟨10, none, false⟩ (cutAt 1 kSc8).1 kS8 [0, 1, 2, 3, 4, 5, 6, 7, 8, 13, 24, 31, 43, 48, 78, 84, 117, 128, 185, 191, 239, 599, 630, 631, 638, 649, 651, 653, 655, 660, 661, 662, 663, 664, 679, 684, 764, 805, 853, 1003, 1008] = some kS9 := by kernel_rfl
end Go.AX.Sa

namespace Go.AX.Sa
open Go.Proofs
set_option maxRecDepth 100000
theorem kSlast : (match (runF Tryz.prog (fun _ _ _ => none) 20000).code ⟨10, none, false⟩ kSc9 kS9 with | some (e, s) => some (e, s.keep []) | none => none) = some (.ret, kS10) := by kernel_rfl
end Go.AX.Sa
