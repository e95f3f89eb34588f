/- The closed facts of the row of StepAdds. -/
import Derived.Test.YtjdopbcoaocllaaGreatDoorGen
namespace Go.Proofs.YtjdopbcoaocllaaGreatDoor.stepAddsLaw
open Go.ChangeShapes Go.WideShapes Go.ChangeAt Go.RowKit Go.AX Go.AX.Sa Go.Proofs.YtjdopbcoaocllaaGreatDoor.tables
set_option maxRecDepth 100000

/-! The closed facts of the row, one by one. -/
theorem and2 {a b : Bool} (h : a = true) (k : b = true) : (a && b) = true := by rw [h, k]; rfl
theorem j2 : laidOutB Tryz.pinned.checked.prog = true := by kernel_rfl
theorem j3 : mapsRowed Tryz.pinned.checked.prog = true := by kernel_rfl
theorem j7 : (Tryz.pinned.checked.prog.stops == []) = true := by kernel_rfl
theorem j9 : (Tryz.pinned.checked.prog.stopKnobs == []) = true := by kernel_rfl
theorem j10 : (Rows.stepAddsRow.inPlace == Tryz.pinned.checked.prog.inPlace 12) = true := by kernel_rfl
theorem j11 : (Rows.stepAddsRow.unfollowed == Tryz.pinned.checked.prog.unfollowed 12) = true := by kernel_rfl
theorem j12 : (Rows.stepAddsRow.recurses == Tryz.pinned.checked.prog.recurses 12) = true := by kernel_rfl
theorem j13 : (Rows.stepAddsRow.named == Tryz.pinned.checked.prog.varsNamed 12) = true := by kernel_rfl
theorem j25 : Tryz.pinned.checked.prog.stopsHeard = true := by kernel_rfl
theorem j27 : (Rows.stepAddsRow.lifted == Tryz.pinned.checked.prog.liftsFinal) = true := by kernel_rfl
theorem j28 : (Tryz.pinned.checked.prog.make == some Rows.stepAddsRow.make) = true := by kernel_rfl
theorem j30 : (Rows.stepAddsRow.pinned == Rows.stepAddsRow.pinnedBy) = true := by kernel_rfl
theorem goes : false = Rows.stepAddsRow.goesBy Tryz.pinned.checked.prog := by kernel_rfl
theorem joined : joinedFacts Tryz.pinned.checked.prog 12 Tryz.f12 (OpenSpec.ofChange Rows.stepAddsSpec).bare Rows.stepAddsRow = true := by
  unfold joinedFacts
  exact (and2 (and2 (and2 (and2 (and2 (and2 (and2 (and2 (and2 (and2 (and2 (and2 (and2 (and2 (and2 (and2 (and2 (and2 (and2 (and2 (and2 (and2 (and2 (and2 (and2 (and2 (and2 (and2 (and2 (and2 (and2 (by kernel_rfl) j2) j3) (by kernel_rfl)) (by kernel_rfl)) (by kernel_rfl)) j7) (by kernel_rfl)) j9) j10) j11) j12) j13) (by kernel_rfl)) (by kernel_rfl)) (by kernel_rfl)) (by kernel_rfl)) (by kernel_rfl)) (by kernel_rfl)) (by kernel_rfl)) (by kernel_rfl)) (by kernel_rfl)) (by kernel_rfl)) (by kernel_rfl)) j25) (by kernel_rfl)) j27) j28) (by kernel_rfl)) j30) (by kernel_rfl)) (by kernel_rfl))

end Go.Proofs.YtjdopbcoaocllaaGreatDoor.stepAddsLaw
