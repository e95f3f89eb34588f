/- DifferClimbs answers true for every input, and each argument reads behind the call as before; conditions: none but the row's own (its listed variables hold what the program's text lays). -/
import Derived.Test.YtippnehdneojlaaGreatDoorTables
import Derived.Test.YtippnehdneojlaaGreatDoorSwE
namespace Go.Proofs.YtippnehdneojlaaGreatDoor.climbs
open Go.ChangeShapes Go.WideShapes Go.ChangeAt Go.RowKit Go.AX Go.AX.Sa Go.Proofs.YtippnehdneojlaaGreatDoor.tables
set_option maxRecDepth 100000

theorem XR_2 {ρ : Ren} {a a' b b' : Value} (h1 : VR ρ a a') (h2 : VR ρ b b') : XR ρ #[a, b] #[a', b'] := LR.cons h1 (LR.cons h2 (LR.nil ρ))
/-- From what the reading says to what the machine does, for a list and a number. -/
theorem list_int {f : FuncId} {w : World} (hg : GoodW w) {v : Value} {row : Int} {t : List Int} (h1 : Arg w v t.length (ints t))
    (H : ∀ (q : Option Addr) (cap' : Nat) (h : Heap), Rd h q (ints t) → CallW Tryz.prog KO f #[.slice q t.length cap', .int .i64 row] h fun v _ => v = .bool true) :
    Calls Tryz.prog f #[v, .int .i64 row] w fun e w' => e = .returned (.bool true) ∧ Below w.heap.size w w' := by
  obtain ⟨n, r, hh, hr, rfl⟩ := H (absOf 8 v).1 (absOf 8 v).2 (hA .dead (blkOf (ints t) 3)) (rd_of h1 (hA_8 _ _))
  refine run_calls_plain hmx known_ok rfl hr (R_A (v7 := .nilFunc) (v8 := v) (fun ρ => .dead) (fun ρ => blk_br h1 (ints_int t) (fun e => by cases t with | nil => rfl | cons a l => simp at e)) (.inl rfl) (blkOf_ro _ _)) ?_ (good_safe hg)
  exact XR_2 (vr_slice h1 rfl) (.int _ _)
/-- DifferClimbs, called, returns true. -/
theorem climbs_calls {w : World} (hg : GoodW w) {v : Value} {rows : Int} {t : List Int} (h1 : Arg w v t.length (ints t)) :
    Calls Tryz.prog 7 #[v, .int .i64 rows] w fun e w' => e = .returned (.bool true) ∧ Below w.heap.size w w' :=
  list_int hg h1 fun _ _ _ hr' => by
    by_cases hm : t.length ≤ 6
    · exact climbs_ok KO_noK KO_kn hm hr'
    · exact climbs_long KO_noK KO_kn hm

/-- What the row's list gives: the two variables that are read. -/
theorem good {W : World} (h : laidMetH Tryz.prog Rows.differClimbsRow.laid W) : GoodW W := by
  rw [MakeChecks.laidMetH_plain _ _ _ (by kernel_rfl)] at h
  constructor
  · obtain ⟨g, t, cs, fuel, p, hg, ht, hvar, hd⟩ := Lib.laidMet.reads h (n := "ephemerist/differ.words") (d := Rows.laid_ephemerist_differ_words) (by simp [Rows.differClimbsRow])
    obtain rfl := Option.some.inj (gWords.symm.trans hg)
    obtain rfl := Option.some.inj (tWords.symm.trans ht)
    rw [hvar]
    congr 1
    obtain ⟨l⟩ := cs
    cases fuel with
    | zero => simp [DataW.trod] at hd
    | succ fuel =>
      simp only [DataW.trod, Tryz.underlying130, cells130, cells9] at hd
      split at hd
      · rename_i hl
        obtain ⟨c0, c1, rfl⟩ : ∃ c0 c1, l = [c0, c1] := by
          match l, hl with
          | [a, b], _ => exact ⟨a, b, rfl⟩
        have e : List.range 2 = [0, 1] := rfl
        rw [e] at hd
        simp only [Option.map_eq_some_iff, List.mapM_cons, List.mapM_nil, Option.bind_eq_bind, Option.bind_eq_some_iff, Option.pure_def, Option.some.injEq] at hd
        obtain ⟨xs, ⟨y0, h0, _, ⟨y1, h1, _, rfl, rfl⟩, rfl⟩, hx⟩ := hd
        obtain ⟨n0, rfl, rfl⟩ := str_of_trod h0
        obtain ⟨n1, rfl, rfl⟩ := str_of_trod h1
        simp [Rows.laid_ephemerist_differ_words] at hx
        obtain ⟨⟨e0, e1⟩, _⟩ := hx
        rw [ba_of_list e0, ba_of_list e1]
        rfl
      · cases hd
  · obtain ⟨g, t, cs, fuel, p, hg, ht, hvar, hd⟩ := Lib.laidMet.reads h (n := "internal/strconv.uint64pow10") (d := Rows.laid_internal_strconv_uint64pow10) (by simp [Rows.differClimbsRow])
    obtain rfl := Option.some.inj (gPow.symm.trans hg)
    obtain rfl := Option.some.inj (tPow.symm.trans ht)
    rw [hvar, ← Lib.cells_of_tab (zs := (List.range 20).map fun i => (10 ^ i : Int)) Tryz.underlying198 Tryz.underlying179 cellsE cells198 hd]

/-- The contract: for every list and number, in every world that holds the variables. -/
theorem contract (H : Type) (enc : TypeId × Value → H) (W : World) (base : Nat) (args : Array Value) (ds gs : List (DataW H)) (before : List MemPlace)
    (hval : ∀ (j : Nat) t v, Tryz.f7.params[j]? = some t → args[j]? = some v → Value.okWide Tryz.prog W .any base t v)
    (hW : DataW.Whole enc Tryz.prog Tryz.f7.params.toList Rows.differClimbsSpec.vars false W args.toList ds gs before) (hL : laidMetH Tryz.prog Rows.differClimbsRow.laid W) :
    Calls Tryz.prog 7 args W fun e W' => ∃ v, e = .returned v ∧ Rows.differClimbsSpec.post enc Tryz.prog Tryz.f7 false true false false W args v W' := by
  have hW' := hW
  obtain ⟨p, q, hA0, hV, rfl, hfz, hnd⟩ := hW
  have hA : DataW.TrodAll enc Tryz.prog W 0 (fun _ => true) true Tryz.f7.params.toList args.toList ds p := hA0
  rw [Tryz.params7] at hA hval
  obtain ⟨v0, vs0, d0, ds0, p0, q0, hargs, rfl, rfl, h0, r0⟩ := trodAll_cons hA
  obtain ⟨v1, vs1, d1, ds1, p1, q1, hargs1, rfl, rfl, h1, r1⟩ := trodAll_cons r0
  obtain ⟨rfl, rfl, rfl⟩ := trodAll_nil r1
  subst hargs1
  obtain rfl : args = #[v0, v1] := by cases args; simp_all
  obtain ⟨rfl, rfl⟩ := trodVars_none hV
  have h0k := h0
  have h1k := h1
  have hlt : ∀ x ∈ (p0 ++ (p1 ++ [])) ++ [], x.block < W.heap.size := fun x hx => by simpa using hW'.lt x hx
  obtain ⟨rows, rfl, rfl, hp1⟩ := open_int Tryz.underlying3 (hval 1 3 v1 rfl rfl) h1
  obtain ⟨t, hv0⟩ := open_list (hval 0 25 v0 rfl rfl) h0
  refine (climbs_calls (good hL) (rows := rows) hv0).mono fun e W' ⟨he, hb⟩ => ?_
  subst he
  have a0 := Below.trod laidOut (by kernel_rfl) (of_decide_eq_true (by kernel_rfl)) h0k hb (fun x hx => hlt x (by simp [hx]))
  have a1 := Below.trod laidOut (by kernel_rfl) (of_decide_eq_true (by kernel_rfl)) h1k hb (fun x hx => hlt x (by simp [hx]))
  exact ⟨_, rfl, _, _, _, [], _, [], hW', trodAll_mk1 (shut_bool Tryz.underlying4 _), trodAll_cons_mk a0 (trodAll_cons_mk a1 trodAll_mk0), rfl, hb.frame _, fun h => by cases h⟩

/-- A world for the witness. -/
theorem laid_met (os : Os) : laidMet Tryz.prog Rows.differClimbsRow.laid ((World.laidAll Tryz.prog os Rows.differClimbsRow.laid).forCall (fun _ _ => 0) ⟨#[], #[.slice none 0 0, .int .i64 0], []⟩).memory :=
  laidMet_laidAll _ (by kernel_rfl) (by kernel_rfl)
theorem reads (os : Os) {H : Type} (enc : TypeId × Value → H) : ∃ places, DataW.whole enc Tryz.prog ((World.laidAll Tryz.prog os Rows.differClimbsRow.laid).forCall (fun _ _ => 0) ⟨#[], #[.slice none 0 0, .int .i64 0], []⟩).memory Tryz.f7.params.toList Rows.differClimbsSpec.vars false #[Value.slice none 0 0, Value.int .i64 0].toList 8 = some ([.nil, .lit (.int .i64 0)], [], places) :=
  ⟨[], by kernel_rfl⟩

theorem lifted (os : Os) (started : os.Started) (H : Type) (enc : TypeId × Value → H) (F : Stop.Interp) :
    ReturnsInHanded {} Tryz.checked os 7 .any ((OpenSpec.ofChange Rows.differClimbsSpec).preRow enc Tryz.prog Tryz.f7 Rows.differClimbsRow.domain false Rows.differClimbsRow.laid) (((OpenSpec.ofChange Rows.differClimbsSpec).at F).post enc Tryz.prog Tryz.f7 false true false false) := by
  obtain ⟨places, hx⟩ := reads os enc
  refine returnsInHanded_of_row (C := Tryz.checked) (s := OpenSpec.ofChange Rows.differClimbsSpec) own started (by kernel_rfl) Tryz.func7
    (witness_row_at (enc := enc) (C := Tryz.checked) false (World.laidAll Tryz.prog os Rows.differClimbsRow.laid) #[.slice none 0 0, .int .i64 0] (World.laidAll_os ..) (by kernel_rfl) (by kernel_rfl) (by kernel_rfl)
      (OpenSpec.preRow_of_cond 8 hx (by kernel_rfl) (fun k hk => by cases hk) (by kernel_rfl) (laid_met os))) ?_
  intro W base args ds gs before hval hW _ _ _ hL _ _
  exact contract H enc W base args ds gs before hval hW hL

theorem said : Rows.DifferClimbsSaid :=
  OpenClaim.holds_of_cond 7 Tryz.f7 rfl rfl rfl rfl rfl rfl rfl ⟨rfl, rfl, rfl, rfl, rfl⟩ rfl rfl rfl rfl rfl (by kernel_rfl) Tryz.func7 (by kernel_rfl)
    (of_decide_eq_true (by kernel_rfl)) (by unfold Func.isWrapper; first | (rw [if_pos (by decide +kernel)]; kernel_rfl) | (rw [if_neg (by decide +kernel)]; exact ⟨rfl, rfl⟩))
    (fun os started H enc _ F => by rw [OpenClaim.pre_eq_preRow]; exact lifted os started H enc F)

theorem plain (f : FuncId) (fn : Func) (hf : Tryz.pinned.checked.prog.funcNamed "ephemerist/ephemeristlaw01.DifferClimbs" = some f) (hfn : Tryz.pinned.checked.prog.funcs[f]? = some fn) :
    true = Tryz.pinned.checked.prog.looks [] ∧ ∀ (j : Nat) t, fn.params[j]? = some t → Tryz.pinned.checked.prog.wantsStandIn t = false := by
  obtain rfl : f = 7 := Option.some.inj ((show Tryz.prog.funcNamed "ephemerist/ephemeristlaw01.DifferClimbs" = some 7 by kernel_rfl).symm.trans hf) |>.symm
  obtain rfl : fn = Tryz.f7 := (Option.some.inj (Tryz.func7.symm.trans hfn)).symm
  refine ⟨by kernel_rfl, fun j t ht => ?_⟩
  rw [Tryz.params7] at ht
  have h3 : t = 25 ∨ t = 3 := by
    match j, ht with
    | 0, ht => left; simpa using ht.symm
    | 1, ht => right; simpa using ht.symm
    | j + 2, ht => simp at ht
  rcases h3 with rfl | rfl
  · exact (show Tryz.prog.wantsStandIn 25 = false by kernel_rfl)
  · exact (show Tryz.prog.wantsStandIn 3 = false by kernel_rfl)

/-- THE CARD. -/
theorem card : Rows.DifferClimbsCardSaid :=
  Claim7.holds_tied_plain_at .later [] _ _ _ _ said (fun _ h => by cases h) (by kernel_rfl) (fun _ h => by cases h) differClimbs_row_tie rfl ⟨rfl, rfl⟩ (by kernel_rfl) rfl plain (by kernel_rfl)

end Go.Proofs.YtippnehdneojlaaGreatDoor.climbs
