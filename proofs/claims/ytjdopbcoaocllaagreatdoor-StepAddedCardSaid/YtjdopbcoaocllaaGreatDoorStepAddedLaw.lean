/- StepAdded answers true for every input, and each argument reads behind the call as before; conditions: none but the row's own (its listed variables hold what the program's text lays). -/
import Derived.Test.YtjdopbcoaocllaaGreatDoorCall
import Derived.Test.YtjdopbcoaocllaaGreatDoorStepAddedTextA
import Derived.Test.YtjdopbcoaocllaaGreatDoorGen
import Derived.Test.YtjdopbcoaocllaaGreatDoorStepAddedTextC
import Derived.Test.YtjdopbcoaocllaaGreatDoorStepAddedFacts
namespace Go.AX.Sa
open Go.Proofs Go.RowKit
set_option maxRecDepth 100000
/-! A table, lists and numbers, as arguments. -/
def pairsOf : List Int → List (Int × Int)
  | a :: b :: l => (a, b) :: pairsOf l
  | _ => []
theorem pairsOf_is : ∀ (n : Nat) (z : List Int), z.length = n * 2 → spanCells (pairsOf z) = ints z ∧ (pairsOf z).length = n := by
  intro n
  induction n with
  | zero => intro z hz; have : z = [] := List.length_eq_zero_iff.1 (by omega); subst this; exact ⟨rfl, rfl⟩
  | succ n ih =>
    intro z hz
    match z, hz with
    | [_], hz => exact absurd hz (by simp only [List.length_cons, List.length_nil]; omega)
    | a :: b :: l, hz =>
      obtain ⟨h1, h2⟩ := ih l (by simp only [List.length_cons] at hz; omega)
      refine ⟨?_, by simp [pairsOf, h2]⟩
      show spanCells ((a, b) :: pairsOf l) = ints (a :: b :: l)
      simp only [spanCells, ints, List.map_cons] at h1 ⊢
      first
        | rw [h1]
        | simp [h1]
def tbIt (s : Value) (n : Nat) (z : List Int) : It := ⟨s, n, ints z, ints z, 72⟩
theorem tbIt_ok {w : World} {ρ : Ren} {s : Value} {n : Nat} {z : List Int} (h : Arg w s n (ints z)) : ItOK w ρ (tbIt s n z) :=
  ⟨.inl h, rfl, fun j u' e => ⟨u', e, by obtain ⟨x, _, rfl⟩ := List.mem_map.1 (List.mem_of_getElem? e); exact ⟨rfl, .int _ _⟩⟩⟩
def tbOf (k : Nat) (s : Value) (z : List Int) (r o : Int) : Tb := ⟨(absOf (7 + k) s).1, (absOf (7 + k) s).2, pairsOf z, r, o⟩
section
variable {w : World} {its : List It} {k n : Nat} {s : Value} {z : List Int} {r o : Int}
theorem tb_at (h : its[k]? = some (tbIt s n z)) (hz : z.length = n * 2) (hs : Arg w s n (ints z)) : TbAt (tbOf k s z r o) (hB (blks its)) := by
  have hr := rd_it h (tbIt_ok (ρ := rhoB (slots its)) hs)
  refine ⟨?_, blk_it (List.getElem?_eq_some_iff.1 h).1⟩
  show Rd _ _ (spanCells (pairsOf z))
  rw [(pairsOf_is n z hz).1]
  exact hr
theorem tb_vr (h : its[k]? = some (tbIt s n z)) (hz : z.length = n * 2) (hs : Arg w s n (ints z)) : VR (rhoB (slots its)) (tbV (tbOf k s z r o)) (.agg #[s, .int .i64 r, .int .i64 o]) := by
  have q0 : VR (rhoB (slots its)) (.slice (absOf (7 + k) s).1 n (absOf (7 + k) s).2) s := zfF (.inl hs) (rho_it h)
  have : tbV (tbOf k s z r o) = .agg #[.slice (absOf (7 + k) s).1 n (absOf (7 + k) s).2, .int .i64 r, .int .i64 o] := by
    simp only [tbV, tbOf, (pairsOf_is n z hz).2]
  rw [this]
  exact VR.agg' (LR.cons q0 (LR.cons (.int _ _) (LR.cons (.int _ _) (LR.nil _))))
theorem row_at' {u : Value} {t : List Int} (h : its[k]? = some (listIt u t)) (hu : Arg w u t.length (ints t)) : RowAt (absOf (7 + k) u).1 t (absOf (7 + k) u).2 (hB (blks its)) :=
  ⟨rd_it h (zgi (ρ := rhoB (slots its)) (.inl hu)), blk_it (List.getElem?_eq_some_iff.1 h).1, fun x => abs_cap (.inl hu) x⟩
theorem row_vr {u : Value} {t : List Int} (h : its[k]? = some (listIt u t)) (hu : Arg w u t.length (ints t)) : VR (rhoB (slots its)) (.slice (absOf (7 + k) u).1 t.length (absOf (7 + k) u).2) u := zfF (.inl hu) (rho_it h)
end
section
variable {f : FuncId} {w : World} {n : Nat} {s u1 u2 : Value} {z t1 t2 : List Int} {r o : Int}
theorem table_1 (zs : List Int) (hg : GoodW w) (hz : z.length = n * 2) (hs : Arg w s n (ints z)) (h1 : Arg w u1 t1.length (ints t1))
    (H : ∀ T p1 c1 h, TbAt T h → RowAt p1 t1 c1 h → Tru f (tbV T :: .slice p1 t1.length c1 :: ints zs).toArray h) : Done f (.agg #[s, .int .i64 r, .int .i64 o] :: u1 :: ints zs).toArray w :=
  zlf hg [tbIt s n z, listIt u1 t1] (fun it h => by
    simp only [List.mem_cons, List.mem_nil_iff, or_false] at h
    rcases h with rfl | rfl
    · exact tbIt_ok hs
    · exact zgi (.inl h1)) (LR.cons (tb_vr (k := 0) (r := r) (o := o) rfl hz hs) (LR.cons (row_vr (k := 1) rfl h1) (lr_ints zs)))
    (H _ _ _ _ (tb_at (k := 0) rfl hz hs) (row_at' (k := 1) rfl h1))
end
end Go.AX.Sa

namespace Go.Proofs.YtjdopbcoaocllaaGreatDoor.stepAddedLaw
open Go.ChangeShapes Go.WideShapes Go.ChangeAt Go.RowKit Go.AX Go.AX.Sa Go.Proofs.YtjdopbcoaocllaaGreatDoor.tables
set_option maxRecDepth 100000

theorem stepAddedLaw_calls {w : World} (hg : GoodW w) {s v1 : Value} {n : Nat} {z t1 : List Int} {ru of a : Int} (hz : z.length = n * 2) (hs : Arg w s n (ints z)) (h1 : Arg w v1 t1.length (ints t1)) :
    Done 13 #[.agg #[s, .int .i64 ru, .int .i64 of], v1, .int .i64 a] w :=
  table_1 [a] hg hz hs h1 fun _ _ _ _ hT hl => zlF KO_noK KO_in KO_kn hT hl

/-- What the row's list gives: the variables that are read. -/
theorem good {W : World} (h : laidMetH Tryz.prog Rows.stepAddedRow.laid W) : GoodW W := by
  rw [MakeChecks.laidMetH_plain _ _ _ (by kernel_rfl)] at h
  exact good_of h (by simp [Rows.stepAddedRow]) (by simp [Rows.stepAddedRow])

/-- The contract: in every world that holds the variables. -/
theorem contract (H : Type) (enc : TypeId × Value → H) (W : World) (base : Nat) (args : Array Value) (ds gs : List (DataW H)) (before : List MemPlace)
    (hval : ∀ (j : Nat) t v, Tryz.f13.params[j]? = some t → args[j]? = some v → Value.okWide Tryz.prog W .any base t v)
    (hW : DataW.Whole enc Tryz.prog Tryz.f13.params.toList Rows.stepAddedSpec.vars false W args.toList ds gs before) (hL : laidMetH Tryz.prog Rows.stepAddedRow.laid W) :
    Calls Tryz.prog 13 args W fun e W' => ∃ v, e = .returned v ∧ Rows.stepAddedSpec.post enc Tryz.prog Tryz.f13 false true false false W args v W' := by
  have hW' := hW
  obtain ⟨p, q, hA0, hV, rfl, hfz, hnd⟩ := hW
  have hA : DataW.TrodAll enc Tryz.prog W 0 (fun _ => true) true Tryz.f13.params.toList args.toList ds p := hA0
  rw [Tryz.params13] at hA hval
  obtain ⟨v0, vs0, d0, ds0, p0, q0, hargs, rfl, rfl, h0, r0⟩ := trodAll_cons hA
  obtain ⟨v1, vs1, d1, ds1, p1, q1, hargs1, rfl, rfl, h1, r1⟩ := trodAll_cons r0
  obtain ⟨v2, vs2, d2, ds2, p2, q2, hargs2, rfl, rfl, h2, r2⟩ := trodAll_cons r1
  obtain ⟨rfl, rfl, rfl⟩ := trodAll_nil r2
  subst hargs2
  subst hargs1
  obtain rfl : args = #[v0, v1, v2] := by cases args; simp_all
  obtain ⟨rfl, rfl⟩ := trodVars_none hV
  have h0k := h0
  have h1k := h1
  have h2k := h2
  have hlt : ∀ x ∈ (p0 ++ (p1 ++ (p2 ++ []))) ++ [], x.block < W.heap.size := fun x hx => by simpa using hW'.lt x hx
  obtain ⟨row2, rfl, rfl, hp2⟩ := open_int Tryz.underlying3 (hval 2 3 v2 rfl rfl) h2
  obtain ⟨t1, hv1⟩ := zkA (hval 1 26 v1 rfl rfl) h1
  obtain ⟨s, n, z, ru, of, rfl, hz, hs⟩ := zjl (hval 0 25 v0 rfl rfl) h0
  refine (stepAddedLaw_calls (good hL) hz hs hv1).mono fun e W' ⟨he, hb⟩ => ?_
  subst he
  have a0 := Below.trod laidOut (by kernel_rfl) (of_decide_eq_true (by kernel_rfl)) h0k hb (fun x hx => hlt x (by simp [hx]))
  have a1 := Below.trod laidOut (by kernel_rfl) (of_decide_eq_true (by kernel_rfl)) h1k hb (fun x hx => hlt x (by simp [hx]))
  have a2 := Below.trod laidOut (by kernel_rfl) (of_decide_eq_true (by kernel_rfl)) h2k hb (fun x hx => hlt x (by simp [hx]))
  exact ⟨_, rfl, _, _, _, [], _, [], hW', trodAll_mk1 (shut_bool Tryz.underlying4 _), trodAll_cons_mk a0 (trodAll_cons_mk a1 (trodAll_cons_mk a2 trodAll_mk0)), rfl, hb.frame _, fun h => by cases h⟩

/-- A world for the witness. -/
theorem laid_met (os : Os) : laidMet Tryz.prog Rows.stepAddedRow.laid ((World.laidAll Tryz.prog os Rows.stepAddedRow.laid).forCall (fun _ _ => 0) ⟨#[], #[.agg #[.slice none 0 0, .int .i64 0, .int .i64 0], .slice none 0 0, .int .i64 0], []⟩).memory :=
  laidMet_laidAll _ (by kernel_rfl) (by kernel_rfl)
theorem reads (os : Os) {H : Type} (enc : TypeId × Value → H) : ∃ places, DataW.whole enc Tryz.prog ((World.laidAll Tryz.prog os Rows.stepAddedRow.laid).forCall (fun _ _ => 0) ⟨#[], #[.agg #[.slice none 0 0, .int .i64 0, .int .i64 0], .slice none 0 0, .int .i64 0], []⟩).memory Tryz.f13.params.toList Rows.stepAddedSpec.vars false #[Value.agg #[.slice none 0 0, .int .i64 0, .int .i64 0], .slice none 0 0, .int .i64 0].toList 8 = some ([.agg [.nil, .lit (.int .i64 0), .lit (.int .i64 0)], .nil, .lit (.int .i64 0)], [], places) :=
  ⟨[], by kernel_rfl⟩

theorem lifted (os : Os) (started : os.Started) (H : Type) (enc : TypeId × Value → H) (F : Stop.Interp) :
    ReturnsInHanded {} Tryz.checked os 13 .any ((OpenSpec.ofChange Rows.stepAddedSpec).preRow enc Tryz.prog Tryz.f13 Rows.stepAddedRow.domain false Rows.stepAddedRow.laid) (((OpenSpec.ofChange Rows.stepAddedSpec).at F).post enc Tryz.prog Tryz.f13 false true false false) := by
  obtain ⟨places, hx⟩ := reads os enc
  refine returnsInHanded_of_row (C := Tryz.checked) (s := OpenSpec.ofChange Rows.stepAddedSpec) own started (by kernel_rfl) Tryz.func13
    (witness_row_at (enc := enc) (C := Tryz.checked) false (World.laidAll Tryz.prog os Rows.stepAddedRow.laid) #[.agg #[.slice none 0 0, .int .i64 0, .int .i64 0], .slice none 0 0, .int .i64 0] (World.laidAll_os ..) (by kernel_rfl) (by kernel_rfl) (by kernel_rfl)
      (OpenSpec.preRow_of_cond 8 hx (by kernel_rfl) (fun k hk => by cases hk) (by kernel_rfl) (laid_met os))) ?_
  intro W base args ds gs before hval hW _ _ _ hL _ _
  exact contract H enc W base args ds gs before hval hW hL

theorem said : Rows.StepAddedSaid :=
  OpenClaim.holds_of_cond 13 Tryz.f13 rfl rfl rfl rfl rfl rfl rfl ⟨rfl, rfl, rfl, rfl, rfl⟩ rfl rfl rfl rfl rfl (by kernel_rfl) Tryz.func13 joined
    (of_decide_eq_true (by kernel_rfl)) (by unfold Func.isWrapper; first | (rw [if_pos (by decide +kernel)]; kernel_rfl) | (rw [if_neg (by decide +kernel)]; exact ⟨rfl, rfl⟩))
    (fun os started H enc _ F => by rw [OpenClaim.pre_eq_preRow]; exact lifted os started H enc F)

end Go.Proofs.YtjdopbcoaocllaaGreatDoor.stepAddedLaw
