/- Pieces of the examples' run. -/
import Derived.Test.YtliligceejfakaaGreatDoorKnS
namespace Go.AX.Sa
open Go.Proofs
set_option maxRecDepth 100000
theorem kSg0 : groupW Tryz.prog (fun _ _ _ => none) 100000 20000 244 ⟨16, none, false⟩ (cutAt 10 kSc0).1 kS0 [0, 1, 2, 3, 4, 5, 6, 9, 11, 13, 15, 19, 21, 121, 152, 154, 156, 158, 162, 164, 266, 295, 297, 299, 301, 305, 307, 440, 443, 445, 447, 449, 453, 455, 597, 600, 602, 604, 606, 610, 612, 752, 754, 756, 758, 760, 761, 897, 899, 901, 903, 907, 909, 1041, 1043, 1045, 1047, 1049, 1050, 1187, 1191, 1193, 1195, 1197, 1201, 1203, 1362] = some kS1 := by kernel_rfl
end Go.AX.Sa
