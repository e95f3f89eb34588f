/- The closed facts of the row of StepAdded. -/
import Derived.Test.YtjdopbcoaocllaaGreatDoorGen
namespace Go.Proofs.YtjdopbcoaocllaaGreatDoor.stepAddedLaw
open Go.ChangeShapes Go.WideShapes Go.ChangeAt Go.RowKit Go.AX Go.AX.Sa Go.Proofs.YtjdopbcoaocllaaGreatDoor.tables
set_option maxRecDepth 100000

/-! The closed facts of the row, one by one. -/
theorem and2 {a b : Bool} (h : a = true) (k : b = true) : (a && b) = true := by rw [h, k]; rfl
theorem j2 : laidOutB Tryz.pinned.checked.prog = true := by kernel_rfl
theorem j3 : mapsRowed Tryz.pinned.checked.prog = true := by kernel_rfl
theorem j7 : (Tryz.pinned.checked.prog.stops == []) = true := by kernel_rfl
theorem j9 : (Tryz.pinned.checked.prog.stopKnobs == []) = true := by kernel_rfl
theorem j10 : (Rows.stepAddedRow.inPlace == Tryz.pinned.checked.prog.inPlace 13) = true := by kernel_rfl
theorem j11 : (Rows.stepAddedRow.unfollowed == Tryz.pinned.checked.prog.unfollowed 13) = true := by kernel_rfl
theorem j12 : (Rows.stepAddedRow.recurses == Tryz.pinned.checked.prog.recurses 13) = true := by kernel_rfl
theorem j13 : (Rows.stepAddedRow.named == Tryz.pinned.checked.prog.varsNamed 13) = true := by kernel_rfl
theorem j25 : Tryz.pinned.checked.prog.stopsHeard = true := by kernel_rfl
theorem j27 : (Rows.stepAddedRow.lifted == Tryz.pinned.checked.prog.liftsFinal) = true := by kernel_rfl
theorem j28 : (Tryz.pinned.checked.prog.make == some Rows.stepAddedRow.make) = true := by kernel_rfl
theorem j30 : (Rows.stepAddedRow.pinned == Rows.stepAddedRow.pinnedBy) = true := by kernel_rfl
theorem goes : false = Rows.stepAddedRow.goesBy Tryz.pinned.checked.prog := by kernel_rfl
theorem joined : joinedFacts Tryz.pinned.checked.prog 13 Tryz.f13 (OpenSpec.ofChange Rows.stepAddedSpec).bare Rows.stepAddedRow = true := by
  unfold joinedFacts
  exact (and2 (and2 (and2 (and2 (and2 (and2 (and2 (and2 (and2 (and2 (and2 (and2 (and2 (and2 (and2 (and2 (and2 (and2 (and2 (and2 (and2 (and2 (and2 (and2 (and2 (and2 (and2 (and2 (and2 (and2 (and2 (by kernel_rfl) j2) j3) (by kernel_rfl)) (by kernel_rfl)) (by kernel_rfl)) j7) (by kernel_rfl)) j9) j10) j11) j12) j13) (by kernel_rfl)) (by kernel_rfl)) (by kernel_rfl)) (by kernel_rfl)) (by kernel_rfl)) (by kernel_rfl)) (by kernel_rfl)) (by kernel_rfl)) (by kernel_rfl)) (by kernel_rfl)) (by kernel_rfl)) j25) (by kernel_rfl)) j27) j28) (by kernel_rfl)) j30) (by kernel_rfl)) (by kernel_rfl))

end Go.Proofs.YtjdopbcoaocllaaGreatDoor.stepAddedLaw
