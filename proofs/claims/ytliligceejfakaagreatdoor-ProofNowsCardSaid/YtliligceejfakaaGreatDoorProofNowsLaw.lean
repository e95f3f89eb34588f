/- ProofNows answers true for every input, and each argument reads behind the call as before; conditions: none but the row's own (its listed variables hold what the program's text lays). -/
import Derived.Test.YtliligceejfakaaGreatDoorGen
import Derived.Test.YtliligceejfakaaGreatDoorProofNowsTextC
import Derived.Test.YtliligceejfakaaGreatDoorProofNowsFacts
namespace Go.Proofs.YtliligceejfakaaGreatDoor.proofNowsLaw
open Go.ChangeShapes Go.WideShapes Go.ChangeAt Go.RowKit Go.AX Go.AX.Sa Go.Proofs.YtliligceejfakaaGreatDoor.tables
set_option maxRecDepth 100000

theorem proofNowsLaw_calls {w : World} (hg : GoodW w) {m : Int} {y s : Value} {n : Nat} {z : List Int} {l : List (Int × Value × List Int)} (hz : z.length = n * 3) (hy : Arg w y n (ints z)) (hA : Arg w s l.length (mcop l)) (hI : ∀ q ∈ l, ArgI w q.2.1 q.2.2.length (ints q.2.2)) :
    Done 3 #[.agg #[.int .i64 m, y, s]] w :=
  zj9 [] hg hz hy hA hI fun _ _ hT => zfN KO_noK KO_kn hT

/-- What the row's list gives: the variables that are read. -/
theorem good {W : World} (h : laidMetH Tryz.prog Rows.proofNowsRow.laid W) : GoodW W := by
  rw [MakeChecks.laidMetH_plain _ _ _ (by kernel_rfl)] at h
  exact good_of h (by simp [Rows.proofNowsRow]) (by simp [Rows.proofNowsRow])

/-- The contract: in every world that holds the variables. -/
theorem contract (H : Type) (enc : TypeId × Value → H) (W : World) (base : Nat) (args : Array Value) (ds gs : List (DataW H)) (before : List MemPlace)
    (hval : ∀ (j : Nat) t v, Tryz.f3.params[j]? = some t → args[j]? = some v → Value.okWide Tryz.prog W .any base t v)
    (hW : DataW.Whole enc Tryz.prog Tryz.f3.params.toList Rows.proofNowsSpec.vars false W args.toList ds gs before) (hL : laidMetH Tryz.prog Rows.proofNowsRow.laid W) :
    Calls Tryz.prog 3 args W fun e W' => ∃ v, e = .returned v ∧ Rows.proofNowsSpec.post enc Tryz.prog Tryz.f3 false true false false W args v W' := by
  have hW' := hW
  obtain ⟨p, q, hA0, hV, rfl, hfz, hnd⟩ := hW
  have hA : DataW.TrodAll enc Tryz.prog W 0 (fun _ => true) true Tryz.f3.params.toList args.toList ds p := hA0
  rw [Tryz.params3] at hA hval
  obtain ⟨v0, vs0, d0, ds0, p0, q0, hargs, rfl, rfl, h0, r0⟩ := trodAll_cons hA
  obtain ⟨rfl, rfl, rfl⟩ := trodAll_nil r0
  obtain rfl : args = #[v0] := by cases args; simp_all
  obtain ⟨rfl, rfl⟩ := trodVars_none hV
  have h0k := h0
  have hlt : ∀ x ∈ (p0 ++ []) ++ [], x.block < W.heap.size := fun x hx => by simpa using hW'.lt x hx
  obtain ⟨m, y, n, z, s, l, rfl, hz, hy, hA, hI⟩ := zkd (hval 0 25 v0 rfl rfl) h0
  refine (proofNowsLaw_calls (good hL) hz hy hA hI).mono fun e W' ⟨he, hb⟩ => ?_
  subst he
  have a0 := Below.trod laidOut (by kernel_rfl) (of_decide_eq_true (by kernel_rfl)) h0k hb (fun x hx => hlt x (by simp [hx]))
  exact ⟨_, rfl, _, _, _, [], _, [], hW', trodAll_mk1 (shut_bool Tryz.underlying4 _), trodAll_cons_mk a0 trodAll_mk0, rfl, hb.frame _, fun h => by cases h⟩

/-- A world for the witness. -/
theorem laid_met (os : Os) : laidMet Tryz.prog Rows.proofNowsRow.laid ((World.laidAll Tryz.prog os Rows.proofNowsRow.laid).forCall (fun _ _ => 0) ⟨#[], #[.agg #[.int .i64 0, .slice none 0 0, .slice none 0 0]], []⟩).memory :=
  laidMet_laidAll _ (by kernel_rfl) (by kernel_rfl)
theorem reads (os : Os) {H : Type} (enc : TypeId × Value → H) : ∃ places, DataW.whole enc Tryz.prog ((World.laidAll Tryz.prog os Rows.proofNowsRow.laid).forCall (fun _ _ => 0) ⟨#[], #[.agg #[.int .i64 0, .slice none 0 0, .slice none 0 0]], []⟩).memory Tryz.f3.params.toList Rows.proofNowsSpec.vars false #[Value.agg #[.int .i64 0, .slice none 0 0, .slice none 0 0]].toList 8 = some ([.agg [.lit (.int .i64 0), .nil, .nil]], [], places) :=
  ⟨[], by kernel_rfl⟩

theorem lifted (os : Os) (started : os.Started) (H : Type) (enc : TypeId × Value → H) (F : Stop.Interp) :
    ReturnsInHanded {} Tryz.checked os 3 .any ((OpenSpec.ofChange Rows.proofNowsSpec).preRow enc Tryz.prog Tryz.f3 Rows.proofNowsRow.domain false Rows.proofNowsRow.laid) (((OpenSpec.ofChange Rows.proofNowsSpec).at F).post enc Tryz.prog Tryz.f3 false true false false) := by
  obtain ⟨places, hx⟩ := reads os enc
  refine returnsInHanded_of_row (C := Tryz.checked) (s := OpenSpec.ofChange Rows.proofNowsSpec) own started (by kernel_rfl) Tryz.func3
    (witness_row_at (enc := enc) (C := Tryz.checked) false (World.laidAll Tryz.prog os Rows.proofNowsRow.laid) #[.agg #[.int .i64 0, .slice none 0 0, .slice none 0 0]] (World.laidAll_os ..) (by kernel_rfl) (by kernel_rfl) (by kernel_rfl)
      (OpenSpec.preRow_of_cond 8 hx (by kernel_rfl) (fun k hk => by cases hk) (by kernel_rfl) (laid_met os))) ?_
  intro W base args ds gs before hval hW _ _ _ hL _ _
  exact contract H enc W base args ds gs before hval hW hL

theorem said : Rows.ProofNowsSaid :=
  OpenClaim.holds_of_cond 3 Tryz.f3 rfl rfl rfl rfl rfl rfl rfl ⟨rfl, rfl, rfl, rfl, rfl⟩ rfl rfl rfl rfl rfl (by kernel_rfl) Tryz.func3 joined
    (of_decide_eq_true (by kernel_rfl)) (by unfold Func.isWrapper; first | (rw [if_pos (by decide +kernel)]; kernel_rfl) | (rw [if_neg (by decide +kernel)]; exact ⟨rfl, rfl⟩))
    (fun os started H enc _ F => by rw [OpenClaim.pre_eq_preRow]; exact lifted os started H enc F)

end Go.Proofs.YtliligceejfakaaGreatDoor.proofNowsLaw
