/- What all rows share. -/
import Derived.Test.YtliligceejfakaaGreatDoorCall
import Derived.Test.YtliligceejfakaaGreatDoorCards
import Derived.Test.YtliligceejfakaaGreatDoorTie
import Derived.WalkKit
import Derived.ProofKit
import Derived.OpenShut
import Derived.Deep.DeepHandedRow
import Derived.Lib.LaidTab
import Derived.Lib.LaidU8
import Derived.Lay
import Derived.MakeChecks
namespace Go.Proofs.YtliligceejfakaaGreatDoor.tables
open Go.ChangeShapes Go.WideShapes Go.ChangeAt Go.RowKit Go.AX.Sa
set_option maxRecDepth 100000

theorem own : ownKnob Tryz.prog.godebug = none := by kernel_rfl
theorem laidOut : laidOutB Tryz.prog = true := by kernel_rfl
theorem cells3 : Tryz.prog.cellsOf 3 = 1 := by kernel_rfl
theorem cells9 : Tryz.prog.cellsOf 9 = 1 := by kernel_rfl
theorem cellsE : Tryz.prog.cellsOf 230 = 1 := by kernel_rfl
theorem cells249 : Tryz.prog.cellsOf 249 = 20 := by kernel_rfl
theorem cells165 : Tryz.prog.cellsOf 165 = 3 := by kernel_rfl
theorem cells166 : Tryz.prog.cellsOf 166 = 15 := by kernel_rfl
theorem tForms : (Tryz.prog.globals[0]?).map (·.type) = some 166 := by kernel_rfl
theorem tPow : (Tryz.prog.globals[4]?).map (·.type) = some 249 := by kernel_rfl

theorem zgM {H : Type} {enc : TypeId × Value → H} {w : World} {base : Nat} {sp : Nat → Bool} {held : Bool} {fuel : Nat} {c : Value} {y : DataW H × List MemPlace}
    (h : DataW.trod enc Tryz.prog w base sp held fuel 9 [c] = some y) : ∃ s : ByteArray, c = .string s ∧ y = (.lit (.string s.data.toList), []) := by
  obtain ⟨s, hc, hy, _⟩ := DataW.trod_string Tryz.underlying9 h
  simp only [List.cons.injEq, and_true] at hc
  exact ⟨s, hc, hy⟩
theorem zb3 {s : ByteArray} {l : List UInt8} (h : s.data.toList = l) : s = ⟨⟨l⟩⟩ := by
  cases s; rename_i d; cases d; simp at h; subst h; rfl

theorem zbE {H : Type} {enc : TypeId × Value → H} {w : World} {base : Nat} {sp : Nat → Bool} {held : Bool} {fuel : Nat} {u0 u1 u2 : Value} {y : DataW H × List MemPlace}
    (h : DataW.trod enc Tryz.prog w base sp held fuel 165 [u0, u1, u2] = some y) : ∃ (s : ByteArray) (a b : Int), u0 = .string s ∧ u1 = .int .i64 a ∧ u2 = .int .i64 b ∧ y.1 = .agg [.lit (.string s.data.toList), .lit (.int .i64 a), .lit (.int .i64 b)] := by
  obtain ⟨xs, n, _, hy, _, hlen, hfs⟩ := DataW.trod_struct Tryz.underlying165 h
  have hlen3 : xs.length = 3 := hlen
  have e0 : DataW.trod enc Tryz.prog w base sp held n 9 (List.take (Tryz.prog.cellsOf 9) (List.drop 0 [u0, u1, u2])) = xs[0]? := hfs 0 _ rfl
  have e1 : DataW.trod enc Tryz.prog w base sp held n 3 (List.take (Tryz.prog.cellsOf 3) (List.drop 1 [u0, u1, u2])) = xs[1]? := hfs 1 _ rfl
  have e2 : DataW.trod enc Tryz.prog w base sp held n 3 (List.take (Tryz.prog.cellsOf 3) (List.drop 2 [u0, u1, u2])) = xs[2]? := hfs 2 _ rfl
  obtain ⟨x0, x1, x2, rfl⟩ : ∃ x0 x1 x2, xs = [x0, x1, x2] := by
    match xs, hlen3 with
    | [a, b, c], _ => exact ⟨a, b, c, rfl⟩
  simp only [cells3, cells9, List.drop_zero, List.take_succ_cons, List.take_zero, List.drop_succ_cons, List.getElem?_cons_zero, List.getElem?_cons_succ] at e0 e1 e2
  obtain ⟨s, hs, hx0⟩ := zgM e0
  obtain ⟨a, ha, hx1, _⟩ := DataW.trod_int Tryz.underlying3 e1
  obtain ⟨b, hb, hx2, _⟩ := DataW.trod_int Tryz.underlying3 e2
  simp only [List.cons.injEq, and_true] at ha hb
  refine ⟨s, a, b, hs, ha, hb, ?_⟩
  rw [hy, hx0, hx1, hx2]
  rfl

/-- What a row's list gives: the two variables that are read. -/
theorem good_of {W : World} {L : List (String × DataW Unit)} (h : laidMet Tryz.prog L W)
    (m0 : ("ephemerist/proof.forms", Rows.laid_ephemerist_proof_forms) ∈ L) (m3 : ("internal/strconv.uint64pow10", Rows.laid_internal_strconv_uint64pow10) ∈ L) : GoodW W := by
  refine ⟨?_, ?_⟩
  · obtain ⟨g, t, cs, fuel, p, hg, ht, hvar, hd⟩ := Lib.laidMet.reads h m0
    obtain rfl := Option.some.inj (gForms.symm.trans hg)
    obtain rfl := Option.some.inj (tForms.symm.trans ht)
    rw [hvar]
    congr 1
    obtain ⟨l⟩ := cs
    cases fuel with
    | zero => simp [DataW.trod] at hd
    | succ fuel =>
      simp only [DataW.trod, Tryz.underlying166, cells166, cells165] at hd
      split at hd
      · rename_i hl
        obtain ⟨c0, c1, c2, c3, c4, c5, c6, c7, c8, c9, ca, cb, cc, cd, ce, rfl⟩ : ∃ c0 c1 c2 c3 c4 c5 c6 c7 c8 c9 ca cb cc cd ce, l = [c0, c1, c2, c3, c4, c5, c6, c7, c8, c9, ca, cb, cc, cd, ce] := by
          match l, hl with
          | [a0, a1, a2, a3, a4, a5, a6, a7, a8, a9, b0, b1, b2, b3, b4], _ => exact ⟨a0, a1, a2, a3, a4, a5, a6, a7, a8, a9, b0, b1, b2, b3, b4, rfl⟩
        have e : List.range 5 = [0, 1, 2, 3, 4] := rfl
        rw [e] at hd
        simp only [Option.map_eq_some_iff, List.mapM_cons, List.mapM_nil, Option.bind_eq_bind, Option.bind_eq_some_iff, Option.pure_def, Option.some.injEq] at hd
        obtain ⟨xs, ⟨y0, h0, _, ⟨y1, h1, _, ⟨y2, h2, _, ⟨y3, h3, _, ⟨y4, h4, _, rfl, rfl⟩, rfl⟩, rfl⟩, rfl⟩, rfl⟩, hx⟩ := hd
        obtain ⟨s0, a0, b0, rfl, rfl, rfl, z0⟩ := zbE h0
        obtain ⟨s1, a1, b1, rfl, rfl, rfl, z1⟩ := zbE h1
        obtain ⟨s2, a2, b2, rfl, rfl, rfl, z2⟩ := zbE h2
        obtain ⟨s3, a3, b3, rfl, rfl, rfl, z3⟩ := zbE h3
        obtain ⟨s4, a4, b4, rfl, rfl, rfl, z4⟩ := zbE h4
        simp [Rows.laid_ephemerist_proof_forms, z0, z1, z2, z3, z4] at hx
        obtain ⟨⟨⟨e0, rfl, rfl⟩, ⟨e1, rfl, rfl⟩, ⟨e2, rfl, rfl⟩, ⟨e3, rfl, rfl⟩, ⟨e4, rfl, rfl⟩⟩, _⟩ := hx
        rw [zb3 e0, zb3 e1, zb3 e2, zb3 e3, zb3 e4]
        rfl
      · cases hd
  · obtain ⟨g, t, cs, fuel, p, hg, ht, hvar, hd⟩ := Lib.laidMet.reads h m3
    obtain rfl := Option.some.inj (gPow.symm.trans hg)
    obtain rfl := Option.some.inj (tPow.symm.trans ht)
    rw [hvar, ← Lib.cells_of_tab (zs := (List.range 20).map fun i => (10 ^ i : Int)) Tryz.underlying249 Tryz.underlying230 cellsE cells249 hd]

end Go.Proofs.YtliligceejfakaaGreatDoor.tables
