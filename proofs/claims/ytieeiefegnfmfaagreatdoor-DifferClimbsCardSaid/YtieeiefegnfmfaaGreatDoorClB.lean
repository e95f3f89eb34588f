/- All paths of DifferClimbs with one to three numbers and rows within the bounds. -/
import Derived.Test.YtieeiefegnfmfaaGreatDoorClA
namespace Go.AX.Sa
open Go.Proofs
set_option maxRecDepth 100000
theorem c1x1 : tree1x1.ok (clOK 1 (.int .i64 1)) 2 stop1 = true := by kernel_rfl
theorem c1x2 : tree1x2.ok (clOK 1 (.int .i64 2)) 2 stop1 = true := by kernel_rfl
theorem c1x3 : tree1x3.ok (clOK 1 (.int .i64 3)) 2 stop1 = true := by kernel_rfl
theorem c1x4 : tree1x4.ok (clOK 1 (.int .i64 4)) 2 stop1 = true := by kernel_rfl
theorem c1x5 : tree1x5.ok (clOK 1 (.int .i64 5)) 2 stop1 = true := by kernel_rfl
theorem c1x6 : tree1x6.ok (clOK 1 (.int .i64 6)) 2 stop1 = true := by kernel_rfl
theorem c1x7 : tree1x7.ok (clOK 1 (.int .i64 7)) 2 stop1 = true := by kernel_rfl
theorem c1x8 : tree1x8.ok (clOK 1 (.int .i64 8)) 2 stop1 = true := by kernel_rfl
theorem c1x9 : tree1x9.ok (clOK 1 (.int .i64 9)) 2 stop1 = true := by kernel_rfl
theorem c1x10 : tree1x10.ok (clOK 1 (.int .i64 10)) 2 stop1 = true := by kernel_rfl
theorem c1x11 : tree1x11.ok (clOK 1 (.int .i64 11)) 2 stop1 = true := by kernel_rfl
theorem c1x12 : tree1x12.ok (clOK 1 (.int .i64 12)) 2 stop1 = true := by kernel_rfl
end Go.AX.Sa

namespace Go.AX.Sa
open Go.Proofs
set_option maxRecDepth 100000
theorem c2x1 : tree2x1.ok (clOK 2 (.int .i64 1)) 3 stop2 = true := by kernel_rfl
theorem c2x2 : tree2x2.ok (clOK 2 (.int .i64 2)) 3 stop2 = true := by kernel_rfl
theorem c2x3 : tree2x3.ok (clOK 2 (.int .i64 3)) 3 stop2 = true := by kernel_rfl
theorem c2x4 : tree2x4.ok (clOK 2 (.int .i64 4)) 3 stop2 = true := by kernel_rfl
theorem c2x5 : tree2x5.ok (clOK 2 (.int .i64 5)) 3 stop2 = true := by kernel_rfl
theorem c2x6 : tree2x6.ok (clOK 2 (.int .i64 6)) 3 stop2 = true := by kernel_rfl
theorem c2x7 : tree2x7.ok (clOK 2 (.int .i64 7)) 3 stop2 = true := by kernel_rfl
theorem c2x8 : tree2x8.ok (clOK 2 (.int .i64 8)) 3 stop2 = true := by kernel_rfl
theorem c2x9 : tree2x9.ok (clOK 2 (.int .i64 9)) 3 stop2 = true := by kernel_rfl
theorem c2x10 : tree2x10.ok (clOK 2 (.int .i64 10)) 3 stop2 = true := by kernel_rfl
theorem c2x11 : tree2x11.ok (clOK 2 (.int .i64 11)) 3 stop2 = true := by kernel_rfl
theorem c2x12 : tree2x12.ok (clOK 2 (.int .i64 12)) 3 stop2 = true := by kernel_rfl
end Go.AX.Sa

namespace Go.AX.Sa
open Go.Proofs
set_option maxRecDepth 100000
theorem c3x1 : tree3x1.ok (clOK 3 (.int .i64 1)) 4 stop3 = true := by kernel_rfl
theorem c3x2 : tree3x2.ok (clOK 3 (.int .i64 2)) 4 stop3 = true := by kernel_rfl
theorem c3x3 : tree3x3.ok (clOK 3 (.int .i64 3)) 4 stop3 = true := by kernel_rfl
theorem c3x4 : tree3x4.ok (clOK 3 (.int .i64 4)) 4 stop3 = true := by kernel_rfl
theorem c3x5 : tree3x5.ok (clOK 3 (.int .i64 5)) 4 stop3 = true := by kernel_rfl
theorem c3x6 : tree3x6.ok (clOK 3 (.int .i64 6)) 4 stop3 = true := by kernel_rfl
theorem c3x7 : tree3x7.ok (clOK 3 (.int .i64 7)) 4 stop3 = true := by kernel_rfl
theorem c3x8 : tree3x8.ok (clOK 3 (.int .i64 8)) 4 stop3 = true := by kernel_rfl
theorem c3x9 : tree3x9.ok (clOK 3 (.int .i64 9)) 4 stop3 = true := by kernel_rfl
theorem c3x10 : tree3x10.ok (clOK 3 (.int .i64 10)) 4 stop3 = true := by kernel_rfl
theorem c3x11 : tree3x11.ok (clOK 3 (.int .i64 11)) 4 stop3 = true := by kernel_rfl
theorem c3x12 : tree3x12.ok (clOK 3 (.int .i64 12)) 4 stop3 = true := by kernel_rfl
end Go.AX.Sa
