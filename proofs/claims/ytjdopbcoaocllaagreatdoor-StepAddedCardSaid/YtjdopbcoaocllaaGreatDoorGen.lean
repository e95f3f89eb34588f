/- What all rows share. -/
import Derived.Test.YtjdopbcoaocllaaGreatDoorCall
import Derived.Test.YtjdopbcoaocllaaGreatDoorCards
import Derived.Test.YtjdopbcoaocllaaGreatDoorTie
import Derived.WalkKit
import Derived.ProofKit
import Derived.OpenShut
import Derived.Deep.DeepHandedRow
import Derived.Lib.LaidTab
import Derived.Lib.LaidU8
import Derived.Lay
import Derived.MakeChecks
namespace Go.Proofs.YtjdopbcoaocllaaGreatDoor.tables
open Go.ChangeShapes Go.WideShapes Go.ChangeAt Go.RowKit Go.AX.Sa
set_option maxRecDepth 100000

theorem own : ownKnob Tryz.prog.godebug = none := by kernel_rfl
theorem laidOut : laidOutB Tryz.prog = true := by kernel_rfl
theorem cells3 : Tryz.prog.cellsOf 3 = 1 := by kernel_rfl
theorem cells9 : Tryz.prog.cellsOf 9 = 1 := by kernel_rfl
theorem cellsE : Tryz.prog.cellsOf 211 = 1 := by kernel_rfl
theorem cells230 : Tryz.prog.cellsOf 230 = 20 := by kernel_rfl
theorem cells155 : Tryz.prog.cellsOf 155 = 2 := by kernel_rfl
theorem tWords : (Tryz.prog.globals[0]?).map (·.type) = some 155 := by kernel_rfl
theorem tPow : (Tryz.prog.globals[4]?).map (·.type) = some 230 := by kernel_rfl

theorem zdP {H : Type} {enc : TypeId × Value → H} {w : World} {base : Nat} {sp : Nat → Bool} {held : Bool} {fuel : Nat} {c : Value} {y : DataW H × List MemPlace}
    (h : DataW.trod enc Tryz.prog w base sp held fuel 9 [c] = some y) : ∃ s : ByteArray, c = .string s ∧ y = (.lit (.string s.data.toList), []) := by
  obtain ⟨s, hc, hy, _⟩ := DataW.trod_string Tryz.underlying9 h
  simp only [List.cons.injEq, and_true] at hc
  exact ⟨s, hc, hy⟩
theorem zeV {s : ByteArray} {l : List UInt8} (h : s.data.toList = l) : s = ⟨⟨l⟩⟩ := by
  cases s; rename_i d; cases d; simp at h; subst h; rfl

/-- What a row's list gives: the two variables that are read. -/
theorem good_of {W : World} {L : List (String × DataW Unit)} (h : laidMet Tryz.prog L W)
    (m2 : ("ephemerist/step.words", Rows.laid_ephemerist_step_words) ∈ L) (m3 : ("internal/strconv.uint64pow10", Rows.laid_internal_strconv_uint64pow10) ∈ L) : GoodW W := by
  refine ⟨?_, ?_⟩
  · obtain ⟨g, t, cs, fuel, p, hg, ht, hvar, hd⟩ := Lib.laidMet.reads h m2
    obtain rfl := Option.some.inj (gForms.symm.trans hg)
    obtain rfl := Option.some.inj (tWords.symm.trans ht)
    rw [hvar]
    congr 1
    obtain ⟨l⟩ := cs
    cases fuel with
    | zero => simp [DataW.trod] at hd
    | succ fuel =>
      simp only [DataW.trod, Tryz.underlying155, cells155, cells9] at hd
      split at hd
      · rename_i hl
        obtain ⟨c0, c1, rfl⟩ : ∃ c0 c1, l = [c0, c1] := by
          match l, hl with
          | [a, b], _ => exact ⟨a, b, rfl⟩
        have e : List.range 2 = [0, 1] := rfl
        rw [e] at hd
        simp only [Option.map_eq_some_iff, List.mapM_cons, List.mapM_nil, Option.bind_eq_bind, Option.bind_eq_some_iff, Option.pure_def, Option.some.injEq] at hd
        obtain ⟨xs, ⟨y0, h0, _, ⟨y1, h1, _, rfl, rfl⟩, rfl⟩, hx⟩ := hd
        obtain ⟨n0, rfl, rfl⟩ := zdP h0
        obtain ⟨n1, rfl, rfl⟩ := zdP h1
        simp [Rows.laid_ephemerist_step_words] at hx
        obtain ⟨⟨e0, e1⟩, _⟩ := hx
        rw [zeV e0, zeV e1]
        rfl
      · cases hd
  · obtain ⟨g, t, cs, fuel, p, hg, ht, hvar, hd⟩ := Lib.laidMet.reads h m3
    obtain rfl := Option.some.inj (gPow.symm.trans hg)
    obtain rfl := Option.some.inj (tPow.symm.trans ht)
    rw [hvar, ← Lib.cells_of_tab (zs := (List.range 20).map fun i => (10 ^ i : Int)) Tryz.underlying230 Tryz.underlying211 cellsE cells230 hd]

end Go.Proofs.YtjdopbcoaocllaaGreatDoor.tables
