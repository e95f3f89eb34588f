/- DifferNotes answers true for every input, and each argument reads behind the call as before; conditions: none but the row's own (its listed variables hold what the program's text lays). -/
import Derived.Test.YtfbeibiokpaicaaGreatDoorGen
import Derived.Test.YtfbeibiokpaicaaGreatDoorCallB
import Derived.Test.YtfbeibiokpaicaaGreatDoorSwS
namespace Go.Proofs.YtfbeibiokpaicaaGreatDoor.notesLaw
open Go.ChangeShapes Go.WideShapes Go.ChangeAt Go.RowKit Go.AX Go.AX.Sa Go.Proofs.YtfbeibiokpaicaaGreatDoor.tables
set_option maxRecDepth 100000

/-- DifferNotes, called, returns true. -/
theorem notesLaw_calls {w : World} (hg : GoodW w) {s v x : Value} {rows guard row : Int} {l sn : List (Int × Int)} {t : List Int} (h0 : Arg w s l.length (spanCells l)) (h1 : Arg w v sn.length (spanCells sn)) (h2 : Arg w x t.length (ints t)) :
    Calls Tryz.prog 5 #[.agg #[s, .int .i64 rows, .int .i64 guard], v, x, .int .i64 row] w fun e w' => e = .returned (.bool true) ∧ Below w.heap.size w w' :=
  plan_seen_list_int hg h0 h1 h2 fun _ _ _ _ _ _ _ hz hr hrs hr' => by
    by_cases hn : l.length ≤ 6 ∧ t.length ≤ 6
    · by_cases hc : (PlanP l rows guard ∧ TruthP l t) ∧ sn.length < 6 ∧ SeenP rows.toNat sn ∧ 0 ≤ row ∧ row ≤ rows - 1
      · obtain ⟨⟨hP, hT⟩, h6, hS, hrow⟩ := hc
        obtain ⟨R, hR⟩ : ∃ R : Nat, rows = R := ⟨rows.toNat, by have := hP.2.2.1; omega⟩
        obtain ⟨r, hr2⟩ : ∃ r : Nat, row = r := ⟨row.toNat, by omega⟩
        subst hR
        subst hr2
        exact notes_main KO_noK KO_kn hn.1 hn.2 hr hr' hrs hz hP hT h6 hS hrow
      · exact notes_small KO_noK KO_kn hn.1 hn.2 hr hr' hrs hc
    · exact notes_long KO_noK KO_kn hn


/-- What the row's list gives: the two variables that are read. -/
theorem good {W : World} (h : laidMetH Tryz.prog Rows.differNotesRow.laid W) : GoodW W := by
  rw [MakeChecks.laidMetH_plain _ _ _ (by kernel_rfl)] at h
  constructor
  · obtain ⟨g, t, cs, fuel, p, hg, ht, hvar, hd⟩ := Lib.laidMet.reads h (n := "ephemerist/differ.words") (d := Rows.laid_ephemerist_differ_words) (by simp [Rows.differNotesRow])
    obtain rfl := Option.some.inj (gWords.symm.trans hg)
    obtain rfl := Option.some.inj (tWords.symm.trans ht)
    rw [hvar]
    congr 1
    obtain ⟨l⟩ := cs
    cases fuel with
    | zero => simp [DataW.trod] at hd
    | succ fuel =>
      simp only [DataW.trod, Tryz.underlying143, cells130, cells9] at hd
      split at hd
      · rename_i hl
        obtain ⟨c0, c1, rfl⟩ : ∃ c0 c1, l = [c0, c1] := by
          match l, hl with
          | [a, b], _ => exact ⟨a, b, rfl⟩
        have e : List.range 2 = [0, 1] := rfl
        rw [e] at hd
        simp only [Option.map_eq_some_iff, List.mapM_cons, List.mapM_nil, Option.bind_eq_bind, Option.bind_eq_some_iff, Option.pure_def, Option.some.injEq] at hd
        obtain ⟨xs, ⟨y0, h0, _, ⟨y1, h1, _, rfl, rfl⟩, rfl⟩, hx⟩ := hd
        obtain ⟨n0, rfl, rfl⟩ := str_of_trod h0
        obtain ⟨n1, rfl, rfl⟩ := str_of_trod h1
        simp [Rows.laid_ephemerist_differ_words] at hx
        obtain ⟨⟨e0, e1⟩, _⟩ := hx
        rw [ba_of_list e0, ba_of_list e1]
        rfl
      · cases hd
  · obtain ⟨g, t, cs, fuel, p, hg, ht, hvar, hd⟩ := Lib.laidMet.reads h (n := "internal/strconv.uint64pow10") (d := Rows.laid_internal_strconv_uint64pow10) (by simp [Rows.differNotesRow])
    obtain rfl := Option.some.inj (gPow.symm.trans hg)
    obtain rfl := Option.some.inj (tPow.symm.trans ht)
    rw [hvar, ← Lib.cells_of_tab (zs := (List.range 20).map fun i => (10 ^ i : Int)) Tryz.underlying207 Tryz.underlying191 cellsE cells198 hd]

/-- The contract: in every world that holds the variables. -/
theorem contract (H : Type) (enc : TypeId × Value → H) (W : World) (base : Nat) (args : Array Value) (ds gs : List (DataW H)) (before : List MemPlace)
    (hval : ∀ (j : Nat) t v, Tryz.f5.params[j]? = some t → args[j]? = some v → Value.okWide Tryz.prog W .any base t v)
    (hW : DataW.Whole enc Tryz.prog Tryz.f5.params.toList Rows.differNotesSpec.vars false W args.toList ds gs before) (hL : laidMetH Tryz.prog Rows.differNotesRow.laid W) :
    Calls Tryz.prog 5 args W fun e W' => ∃ v, e = .returned v ∧ Rows.differNotesSpec.post enc Tryz.prog Tryz.f5 false true false false W args v W' := by
  have hW' := hW
  obtain ⟨p, q, hA0, hV, rfl, hfz, hnd⟩ := hW
  have hA : DataW.TrodAll enc Tryz.prog W 0 (fun _ => true) true Tryz.f5.params.toList args.toList ds p := hA0
  rw [Tryz.params5] at hA hval
  obtain ⟨v0, vs0, d0, ds0, p0, q0, hargs, rfl, rfl, h0, r0⟩ := trodAll_cons hA
  obtain ⟨v1, vs1, d1, ds1, p1, q1, hargs1, rfl, rfl, h1, r1⟩ := trodAll_cons r0
  obtain ⟨v2, vs2, d2, ds2, p2, q2, hargs2, rfl, rfl, h2, r2⟩ := trodAll_cons r1
  obtain ⟨v3, vs3, d3, ds3, p3, q3, hargs3, rfl, rfl, h3, r3⟩ := trodAll_cons r2
  obtain ⟨rfl, rfl, rfl⟩ := trodAll_nil r3
  subst hargs3
  subst hargs2
  subst hargs1
  obtain rfl : args = #[v0, v1, v2, v3] := by cases args; simp_all
  obtain ⟨rfl, rfl⟩ := trodVars_none hV
  have h0k := h0
  have h1k := h1
  have h2k := h2
  have h3k := h3
  have hlt : ∀ x ∈ (p0 ++ (p1 ++ (p2 ++ (p3 ++ [])))) ++ [], x.block < W.heap.size := fun x hx => by simpa using hW'.lt x hx
  obtain ⟨row3, rfl, rfl, hp3⟩ := open_int Tryz.underlying3 (hval 3 3 v3 rfl rfl) h3
  obtain ⟨t2, hv2⟩ := open_list (hval 2 43 v2 rfl rfl) h2
  obtain ⟨t1, hv1⟩ := open_seen (hval 1 34 v1 rfl rfl) h1
  obtain ⟨s0, rows0, guard0, l0, rfl, hv0⟩ := open_plan (hval 0 24 v0 rfl rfl) h0
  refine (notesLaw_calls (good hL) hv0 hv1 hv2).mono fun e W' ⟨he, hb⟩ => ?_
  subst he
  have a0 := Below.trod laidOut (by kernel_rfl) (of_decide_eq_true (by kernel_rfl)) h0k hb (fun x hx => hlt x (by simp [hx]))
  have a1 := Below.trod laidOut (by kernel_rfl) (of_decide_eq_true (by kernel_rfl)) h1k hb (fun x hx => hlt x (by simp [hx]))
  have a2 := Below.trod laidOut (by kernel_rfl) (of_decide_eq_true (by kernel_rfl)) h2k hb (fun x hx => hlt x (by simp [hx]))
  have a3 := Below.trod laidOut (by kernel_rfl) (of_decide_eq_true (by kernel_rfl)) h3k hb (fun x hx => hlt x (by simp [hx]))
  exact ⟨_, rfl, _, _, _, [], _, [], hW', trodAll_mk1 (shut_bool Tryz.underlying4 _), trodAll_cons_mk a0 (trodAll_cons_mk a1 (trodAll_cons_mk a2 (trodAll_cons_mk a3 trodAll_mk0))), rfl, hb.frame _, fun h => by cases h⟩

/-- A world for the witness. -/
theorem laid_met (os : Os) : laidMet Tryz.prog Rows.differNotesRow.laid ((World.laidAll Tryz.prog os Rows.differNotesRow.laid).forCall (fun _ _ => 0) ⟨#[], #[.agg #[.slice none 0 0, .int .i64 0, .int .i64 0], .slice none 0 0, .slice none 0 0, .int .i64 0], []⟩).memory :=
  laidMet_laidAll _ (by kernel_rfl) (by kernel_rfl)
theorem reads (os : Os) {H : Type} (enc : TypeId × Value → H) : ∃ places, DataW.whole enc Tryz.prog ((World.laidAll Tryz.prog os Rows.differNotesRow.laid).forCall (fun _ _ => 0) ⟨#[], #[.agg #[.slice none 0 0, .int .i64 0, .int .i64 0], .slice none 0 0, .slice none 0 0, .int .i64 0], []⟩).memory Tryz.f5.params.toList Rows.differNotesSpec.vars false #[Value.agg #[.slice none 0 0, .int .i64 0, .int .i64 0], .slice none 0 0, .slice none 0 0, .int .i64 0].toList 8 = some ([.agg [.nil, .lit (.int .i64 0), .lit (.int .i64 0)], .nil, .nil, .lit (.int .i64 0)], [], places) :=
  ⟨[], by kernel_rfl⟩

theorem lifted (os : Os) (started : os.Started) (H : Type) (enc : TypeId × Value → H) (F : Stop.Interp) :
    ReturnsInHanded {} Tryz.checked os 5 .any ((OpenSpec.ofChange Rows.differNotesSpec).preRow enc Tryz.prog Tryz.f5 Rows.differNotesRow.domain false Rows.differNotesRow.laid) (((OpenSpec.ofChange Rows.differNotesSpec).at F).post enc Tryz.prog Tryz.f5 false true false false) := by
  obtain ⟨places, hx⟩ := reads os enc
  refine returnsInHanded_of_row (C := Tryz.checked) (s := OpenSpec.ofChange Rows.differNotesSpec) own started (by kernel_rfl) Tryz.func5
    (witness_row_at (enc := enc) (C := Tryz.checked) false (World.laidAll Tryz.prog os Rows.differNotesRow.laid) #[.agg #[.slice none 0 0, .int .i64 0, .int .i64 0], .slice none 0 0, .slice none 0 0, .int .i64 0] (World.laidAll_os ..) (by kernel_rfl) (by kernel_rfl) (by kernel_rfl)
      (OpenSpec.preRow_of_cond 8 hx (by kernel_rfl) (fun k hk => by cases hk) (by kernel_rfl) (laid_met os))) ?_
  intro W base args ds gs before hval hW _ _ _ hL _ _
  exact contract H enc W base args ds gs before hval hW hL

theorem said : Rows.DifferNotesSaid :=
  OpenClaim.holds_of_cond 5 Tryz.f5 rfl rfl rfl rfl rfl rfl rfl ⟨rfl, rfl, rfl, rfl, rfl⟩ rfl rfl rfl rfl rfl (by kernel_rfl) Tryz.func5 (by kernel_rfl)
    (of_decide_eq_true (by kernel_rfl)) (by unfold Func.isWrapper; first | (rw [if_pos (by decide +kernel)]; kernel_rfl) | (rw [if_neg (by decide +kernel)]; exact ⟨rfl, rfl⟩))
    (fun os started H enc _ F => by rw [OpenClaim.pre_eq_preRow]; exact lifted os started H enc F)

theorem plain (f : FuncId) (fn : Func) (hf : Tryz.pinned.checked.prog.funcNamed "ephemerist/ephemeristlaw01.DifferNotes" = some f) (hfn : Tryz.pinned.checked.prog.funcs[f]? = some fn) :
    true = Tryz.pinned.checked.prog.looks [] ∧ ∀ (j : Nat) t, fn.params[j]? = some t → Tryz.pinned.checked.prog.wantsStandIn t = false := by
  obtain rfl : f = 5 := Option.some.inj ((show Tryz.prog.funcNamed "ephemerist/ephemeristlaw01.DifferNotes" = some 5 by kernel_rfl).symm.trans hf) |>.symm
  obtain rfl : fn = Tryz.f5 := (Option.some.inj (Tryz.func5.symm.trans hfn)).symm
  refine ⟨by kernel_rfl, fun j t ht => ?_⟩
  rw [Tryz.params5] at ht
  have h3 : t = 24 ∨ t = 34 ∨ t = 43 ∨ t = 3 := by
    match j, ht with
    | 0, ht => left; simpa using ht.symm
    | 1, ht => right; left; simpa using ht.symm
    | 2, ht => right; right; left; simpa using ht.symm
    | 3, ht => right; right; right; simpa using ht.symm
    | j + 4, ht => simp at ht
  rcases h3 with rfl | rfl | rfl | rfl
  · exact (show Tryz.prog.wantsStandIn 24 = false by kernel_rfl)
  · exact (show Tryz.prog.wantsStandIn 34 = false by kernel_rfl)
  · exact (show Tryz.prog.wantsStandIn 43 = false by kernel_rfl)
  · exact (show Tryz.prog.wantsStandIn 3 = false by kernel_rfl)

/-- THE CARD. -/
theorem card : Rows.DifferNotesCardSaid :=
  Claim7.holds_tied_plain_at .later [] _ _ _ _ said (fun _ h => by cases h) (by kernel_rfl) (fun _ h => by cases h) differNotes_row_tie rfl ⟨rfl, rfl⟩ (by kernel_rfl) rfl plain (by kernel_rfl)

end Go.Proofs.YtfbeibiokpaicaaGreatDoor.notesLaw
