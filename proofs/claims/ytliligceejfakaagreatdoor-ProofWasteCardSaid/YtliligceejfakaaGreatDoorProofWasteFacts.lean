/- The closed facts of the row of ProofWaste. -/
import Derived.Test.YtliligceejfakaaGreatDoorGen
namespace Go.Proofs.YtliligceejfakaaGreatDoor.proofWasteLaw
open Go.ChangeShapes Go.WideShapes Go.ChangeAt Go.RowKit Go.AX Go.AX.Sa Go.Proofs.YtliligceejfakaaGreatDoor.tables
set_option maxRecDepth 100000

/-! The closed facts of the row, one by one. -/
theorem and2 {a b : Bool} (h : a = true) (k : b = true) : (a && b) = true := by rw [h, k]; rfl
theorem j2 : laidOutB Tryz.pinned.checked.prog = true := by kernel_rfl
theorem j3 : mapsRowed Tryz.pinned.checked.prog = true := by kernel_rfl
theorem j7 : (Tryz.pinned.checked.prog.stops == []) = true := by kernel_rfl
theorem j9 : (Tryz.pinned.checked.prog.stopKnobs == []) = true := by kernel_rfl
theorem j10 : (Rows.proofWasteRow.inPlace == Tryz.pinned.checked.prog.inPlace 12) = true := by kernel_rfl
theorem j11 : (Rows.proofWasteRow.unfollowed == Tryz.pinned.checked.prog.unfollowed 12) = true := by kernel_rfl
theorem j12 : (Rows.proofWasteRow.recurses == Tryz.pinned.checked.prog.recurses 12) = true := by kernel_rfl
theorem j13 : (Rows.proofWasteRow.named == Tryz.pinned.checked.prog.varsNamed 12) = true := by kernel_rfl
theorem j25 : Tryz.pinned.checked.prog.stopsHeard = true := by kernel_rfl
theorem j27 : (Rows.proofWasteRow.lifted == Tryz.pinned.checked.prog.liftsFinal) = true := by kernel_rfl
theorem j28 : (Tryz.pinned.checked.prog.make == some Rows.proofWasteRow.make) = true := by kernel_rfl
theorem j30 : (Rows.proofWasteRow.pinned == Rows.proofWasteRow.pinnedBy) = true := by kernel_rfl
theorem goes : false = Rows.proofWasteRow.goesBy Tryz.pinned.checked.prog := by kernel_rfl
theorem joined : joinedFacts Tryz.pinned.checked.prog 12 Tryz.f12 (OpenSpec.ofChange Rows.proofWasteSpec).bare Rows.proofWasteRow = true := by
  unfold joinedFacts
  exact (and2 (and2 (and2 (and2 (and2 (and2 (and2 (and2 (and2 (and2 (and2 (and2 (and2 (and2 (and2 (and2 (and2 (and2 (and2 (and2 (and2 (and2 (and2 (and2 (and2 (and2 (and2 (and2 (and2 (and2 (and2 (by kernel_rfl) j2) j3) (by kernel_rfl)) (by kernel_rfl)) (by kernel_rfl)) j7) (by kernel_rfl)) j9) j10) j11) j12) j13) (by kernel_rfl)) (by kernel_rfl)) (by kernel_rfl)) (by kernel_rfl)) (by kernel_rfl)) (by kernel_rfl)) (by kernel_rfl)) (by kernel_rfl)) (by kernel_rfl)) (by kernel_rfl)) (by kernel_rfl)) j25) (by kernel_rfl)) j27) j28) (by kernel_rfl)) j30) (by kernel_rfl)) (by kernel_rfl))

end Go.Proofs.YtliligceejfakaaGreatDoor.proofWasteLaw
