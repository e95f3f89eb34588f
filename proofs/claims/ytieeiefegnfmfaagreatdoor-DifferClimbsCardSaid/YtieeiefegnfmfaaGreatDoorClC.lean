/- All paths of DifferClimbs with four numbers and rows within the bounds. -/
import Derived.Test.YtieeiefegnfmfaaGreatDoorClA
namespace Go.AX.Sa
open Go.Proofs
set_option maxRecDepth 100000
theorem c4x1 : tree4x1.ok (clOK 4 (.int .i64 1)) 5 stop4 = true := by kernel_rfl
theorem c4x2 : tree4x2.ok (clOK 4 (.int .i64 2)) 5 stop4 = true := by kernel_rfl
theorem c4x3 : tree4x3.ok (clOK 4 (.int .i64 3)) 5 stop4 = true := by kernel_rfl
theorem c4x4 : tree4x4.ok (clOK 4 (.int .i64 4)) 5 stop4 = true := by kernel_rfl
theorem c4x5 : tree4x5.ok (clOK 4 (.int .i64 5)) 5 stop4 = true := by kernel_rfl
theorem c4x6 : tree4x6.ok (clOK 4 (.int .i64 6)) 5 stop4 = true := by kernel_rfl
theorem c4x7 : tree4x7.ok (clOK 4 (.int .i64 7)) 5 stop4 = true := by kernel_rfl
theorem c4x8 : tree4x8.ok (clOK 4 (.int .i64 8)) 5 stop4 = true := by kernel_rfl
theorem c4x9 : tree4x9.ok (clOK 4 (.int .i64 9)) 5 stop4 = true := by kernel_rfl
theorem c4x10 : tree4x10.ok (clOK 4 (.int .i64 10)) 5 stop4 = true := by kernel_rfl
theorem c4x11 : tree4x11.ok (clOK 4 (.int .i64 11)) 5 stop4 = true := by kernel_rfl
theorem c4x12 : tree4x12.ok (clOK 4 (.int .i64 12)) 5 stop4 = true := by kernel_rfl
end Go.AX.Sa
