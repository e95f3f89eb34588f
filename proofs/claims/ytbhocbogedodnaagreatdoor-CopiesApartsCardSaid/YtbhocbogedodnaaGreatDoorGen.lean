/- What all rows share. -/
import Derived.Test.YtbhocbogedodnaaGreatDoorCall
import Derived.Test.YtbhocbogedodnaaGreatDoorCards
import Derived.Test.YtbhocbogedodnaaGreatDoorTie
import Derived.WalkKit
import Derived.ProofKit
import Derived.OpenShut
import Derived.Deep.DeepHandedRow
import Derived.Lib.LaidTab
import Derived.Lib.LaidU8
import Derived.Lay
import Derived.MakeChecks
namespace Go.Proofs.YtbhocbogedodnaaGreatDoor.tables
open Go.ChangeShapes Go.WideShapes Go.ChangeAt Go.RowKit Go.AX.Sa
set_option maxRecDepth 100000

theorem own : ownKnob Tryz.prog.godebug = none := by kernel_rfl
theorem laidOut : laidOutB Tryz.prog = true := by kernel_rfl
theorem cells3 : Tryz.prog.cellsOf 3 = 1 := by kernel_rfl
theorem cells9 : Tryz.prog.cellsOf 9 = 1 := by kernel_rfl
theorem cellsE : Tryz.prog.cellsOf 174 = 1 := by kernel_rfl
theorem cells243 : Tryz.prog.cellsOf 243 = 20 := by kernel_rfl
theorem cells142 : Tryz.prog.cellsOf 142 = 2 := by kernel_rfl
theorem tPow : (Tryz.prog.globals[4]?).map (·.type) = some 243 := by kernel_rfl
theorem tWords : (Tryz.prog.globals[0]?).map (·.type) = some 142 := by kernel_rfl

theorem str_of_trod {H : Type} {enc : TypeId × Value → H} {w : World} {base : Nat} {sp : Nat → Bool} {held : Bool} {fuel : Nat} {c : Value} {y : DataW H × List MemPlace}
    (h : DataW.trod enc Tryz.prog w base sp held fuel 9 [c] = some y) : ∃ s : ByteArray, c = .string s ∧ y = (.lit (.string s.data.toList), []) := by
  obtain ⟨s, hc, hy, _⟩ := DataW.trod_string Tryz.underlying9 h
  simp only [List.cons.injEq, and_true] at hc
  exact ⟨s, hc, hy⟩
theorem ba_of_list {s : ByteArray} {l : List UInt8} (h : s.data.toList = l) : s = ⟨⟨l⟩⟩ := by
  cases s; rename_i d; cases d; simp at h; subst h; rfl

end Go.Proofs.YtbhocbogedodnaaGreatDoor.tables
