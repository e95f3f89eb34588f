/- The examples answer true; DifferClimbs, called with any list and number, answers true, where the two listed variables that it reads hold what the row says. -/
import Derived.Test.YtieeiefegnfmfaaGreatDoorKnA
import Derived.Test.YtieeiefegnfmfaaGreatDoorKnB
import Derived.Test.YtieeiefegnfmfaaGreatDoorKnC
import Derived.Test.YtieeiefegnfmfaaGreatDoorKnD
import Derived.Test.YtieeiefegnfmfaaGreatDoorClA
import Derived.Lib.LaidU8
import Derived.Lib.LaidTab
import Derived.Test.YtieeiefegnfmfaaGreatDoorClB
import Derived.Test.YtieeiefegnfmfaaGreatDoorClC
namespace Go.AX.Sa
open Go.Proofs Go.RowKit

theorem hmx : Tryz.prog.follows .mixedOrders = true := by kernel_rfl

theorem last_split : ∃ s', (runF Tryz.prog (fun _ _ => none) 20000).code ⟨10, none, false⟩ kSc9 kS9 = some (.ret, s') ∧ kS10 = s'.keep [] := by
  have h := kSlast
  generalize (runF Tryz.prog (fun _ _ => none) 20000).code ⟨10, none, false⟩ kSc9 kS9 = r at h ⊢
  cases r with
  | none => cases h
  | some p =>
    obtain ⟨e, s'⟩ := p
    simp only [Option.some.injEq, Prod.mk.injEq] at h
    exact ⟨s', by rw [h.1], h.2.symm⟩

set_option maxRecDepth 100000 in
theorem known_piece (N : Nat → Prop) (w0 : World) : Piece Tryz.prog N w0 ⟨10, none, false⟩ [.code kSc0] kS0 .ret kS10 := by
  have hK := no_known Tryz.prog (fun _ => True)
  have hG : Safe (fun _ => True) N w0 := fun _ _ => trivial
  have hl : Piece Tryz.prog N w0 ⟨10, none, false⟩ [.code kSc9] kS9 .ret kS10 := by
    obtain ⟨s', h1, h2⟩ := last_split
    rw [h2]
    exact (code_piece hmx hK hG h1).keep []
  exact group_piece hmx hK hG kSg0 (group_piece hmx hK hG kSg1 (group_piece hmx hK hG kSg2 (group_piece hmx hK hG kSg3 (group_piece hmx hK hG kSg4 (group_piece hmx hK hG kSg5 (group_piece hmx hK hG kSg6 (group_piece hmx hK hG kSg7 (group_piece hmx hK hG kSg8 hl))))))))

theorem known_start : ({ tm := #[] ++ Array.replicate (Tryz.f10.ntmps - (#[] : Array Value).size) undef, df := [], up := .run, h := kS0.h } : St) = kS0 := by kernel_rfl
theorem known_body : Tryz.f10.body = some kSc0 := by kernel_rfl
theorem known_noloop : ∀ b, kSc0 ≠ .loop b := by
  intro b h
  have : (match kSc0 with | .loop _ => true | _ => false) = true := by rw [h]
  have h2 : (match kSc0 with | .loop _ => true | _ => false) = false := by kernel_rfl
  rw [h2] at this; cases this

theorem known_call {N : Nat → Prop} {w0 : World} : SimCall Tryz.prog N w0 10 #[] false .run kS0.h (.ret (.bool true)) kS10.up kS10.h :=
  body_call (Good := fun _ => True) Tryz.func10 known_body known_noloop (fun N w0 _ => by rw [known_start]; exact known_piece N w0)
    ((known_piece N w0).2)
    (by show Option.map _ (resultsB Tryz.prog Tryz.f10 kS10.tm kS10.h) = _; kernel_rfl) (fun _ _ => trivial)

/-- What the variables hold that known reads. -/
def GoodW (w : World) : Prop :=
  w.var? Tryz.prog "ephemerist/differ.words" = some #[strB [112, 108, 97, 110], strB [115, 116, 97, 114, 116]] ∧
  w.var? Tryz.prog "internal/strconv.uint64pow10" = some (((List.range 20).map fun i => (10 ^ i : Int)).map fun z => Value.int .u64 z).toArray

theorem gWords : Tryz.prog.globalNamed "ephemerist/differ.words" = some 0 := by kernel_rfl
theorem gPow : Tryz.prog.globalNamed "internal/strconv.uint64pow10" = some 4 := by kernel_rfl
theorem gSize : Tryz.prog.globals.size = 7 := by kernel_rfl

theorem heap_of_var {w : World} {n : String} {g : Nat} {c : Array Value} (hg : Tryz.prog.globalNamed n = some g) (h : w.var? Tryz.prog n = some c) : ∃ t fr, w.heap[g]? = some (.cells c t fr) := by
  unfold World.var? at h
  rw [hg] at h
  simp only [Option.bind_some] at h
  split at h
  · rename_i cs t fr hw; cases h; exact ⟨t, fr, hw⟩
  · cases h

def rho0 : Ren := fun A => if A < 7 then some ⟨A, 0, 0⟩ else none

theorem kS0_n : kS0.h.n = 7 := rfl
theorem kS0_get0 : kS0.h.get? 0 = some (.cells [strB [112, 108, 97, 110], strB [115, 116, 97, 114, 116]] 130 false) := by kernel_rfl
theorem kS0_get4 : kS0.h.get? 4 = some (.cells (((List.range 20).map fun i => (10 ^ i : Int)).map fun z => Value.int .u64 z) 197 false) := by kernel_rfl
theorem kS0_dead : kS0.h.get? 1 = some .dead ∧ kS0.h.get? 2 = some .dead ∧ kS0.h.get? 3 = some .dead ∧ kS0.h.get? 5 = some .dead ∧ kS0.h.get? 6 = some .dead := ⟨by kernel_rfl, by kernel_rfl, by kernel_rfl, by kernel_rfl, by kernel_rfl⟩

theorem kS0_cases {A : Nat} {b : Blk} (h : kS0.h.get? A = some b) : b = .dead ∨ (A = 0 ∧ b = .cells [strB [112, 108, 97, 110], strB [115, 116, 97, 114, 116]] 130 false) ∨ (A = 4 ∧ b = .cells (((List.range 20).map fun i => (10 ^ i : Int)).map fun z => Value.int .u64 z) 197 false) := by
  have hA : A < 7 := Heap.get_lt h
  obtain ⟨d1, d2, d3, d5, d6⟩ := kS0_dead
  match A, hA, h with
  | 0, _, h => rw [kS0_get0] at h; cases h; exact .inr (.inl ⟨rfl, rfl⟩)
  | 1, _, h => rw [d1] at h; cases h; exact .inl rfl
  | 2, _, h => rw [d2] at h; cases h; exact .inl rfl
  | 3, _, h => rw [d3] at h; cases h; exact .inl rfl
  | 4, _, h => rw [kS0_get4] at h; cases h; exact .inr (.inr ⟨rfl, rfl⟩)
  | 5, _, h => rw [d5] at h; cases h; exact .inl rfl
  | 6, _, h => rw [d6] at h; cases h; exact .inl rfl

theorem ro_block {ρ : Ren} {w : World} {g : Nat} {e t : TypeId} {fr : Nat × Nat} {l : List Value} (hl : ∀ v ∈ l, oneB v = true ∧ VR ρ v v) (hw : w.heap[g]? = some (.cells l.toArray t fr)) : BR Tryz.prog ρ w ⟨g, 0, 0⟩ (.cells l e false) := by
  refine .ro l.toArray t fr hw fun i v hv => ?_
  obtain ⟨h1, h2⟩ := hl v (List.mem_of_getElem? hv)
  exact ⟨h1, v, by simpa using hv, h2⟩

theorem known_R {w : World} (hg : GoodW w) : R Tryz.prog (fun g => g < w.heap.size) w rho0 kS0.h w where
  below := Kept.refl _ _
  size := fun g h => h
  dom := fun A s e => by
    unfold rho0 at e
    split at e
    · rw [kS0_n]; assumption
    · cases e
  glob := fun g h => ⟨⟨g, 0, 0⟩, by rw [gSize] at h; unfold rho0; rw [if_pos h], rfl, rfl⟩
  blk := fun A s b e f => by
    unfold rho0 at e
    split at e
    · cases e
      rcases kS0_cases f with rfl | ⟨rfl, rfl⟩ | ⟨rfl, rfl⟩
      · exact .dead
      · obtain ⟨t, fr, hw⟩ := heap_of_var gWords hg.1
        exact ro_block (fun v hv => by
          simp only [List.mem_cons, List.mem_nil_iff, or_false] at hv
          rcases hv with rfl | rfl <;> exact ⟨rfl, .string _⟩) hw
      · obtain ⟨t, fr, hw⟩ := heap_of_var gPow hg.2
        exact ro_block (fun v hv => by
          obtain ⟨z, _, rfl⟩ := List.mem_map.1 hv
          exact ⟨rfl, .int _ _⟩) hw
    · cases e
  mine := fun A s b e f ho => by
    rcases kS0_cases f with rfl | ⟨_, rfl⟩ | ⟨_, rfl⟩ <;> cases ho
  inj := fun A B s t b c ea eb fa fb ho hl hAB => by
    rcases kS0_cases fa with rfl | ⟨_, rfl⟩ | ⟨_, rfl⟩ <;> cases ho

theorem known_calls {w : World} (hg : GoodW w) : Calls Tryz.prog 10 #[] w fun e w' => e = .returned (.bool true) ∧ Below w.heap.size w w' :=
  known_call.calls (known_R hg) ⟨rfl, by simp⟩ rfl

theorem known_ok : KOK Tryz.prog KO GoodW := by
  intro f args v h
  unfold KO at h
  cases hf : Nat.beq f 10 with
  | false => rw [hf] at h; cases h
  | true =>
    cases ha : Nat.beq args.size 0 with
    | false => rw [hf, ha] at h; cases h
    | true =>
      rw [hf, ha] at h
      have hf' : f = 10 := Nat.eq_of_beq_eq_true hf
      have ha' : args.size = 0 := Nat.eq_of_beq_eq_true ha
      subst hf'
      have : args = #[] := by apply Array.ext'; simpa using ha'
      subst this
      cases h
      exact ⟨by simp, rfl, fun w hg => known_calls hg⟩

end Go.AX.Sa

namespace Go.AX.Sa
open Go.Proofs Go.RowKit

theorem sg_at {xs : List Int} (l : List Int) {i : Nat} (hi : i < xs.length) : sg (sOf (xs ++ l)) (T0 + (i : Nat)) = xs.getD i 0 := by
  have hl : isLit (T0 + (i : Nat)) = false := by
    show Nat.ble (1180591620717411303425 + i) 1180591620717411303424 = false
    rw [Bool.eq_false_iff]; intro h; rw [Nat.ble_eq] at h; omega
  unfold sg
  rw [hl]
  simp only [cond_false, sOf]
  rw [show (T0 + (i : Int) - T0).toNat = i from by omega]
  rw [List.getD_eq_getElem?_getD, List.getElem?_append_left hi, ← List.getD_eq_getElem?_getD]

theorem names_map (xs l : List Int) : (names xs.length).map (mapV (sOf (xs ++ l))) = xs.map fun z => Value.int .i64 z := by
  apply List.ext_getElem (by simp [names])
  intro i h1 h2
  simp [names] at h1
  simp only [names, List.getElem_map, List.getElem_range, mapV]
  rw [sg_at l (by simpa using h1)]
  simp [List.getD_eq_getElem?_getD, h1]

def hC (xs : List Int) : Heap := { n := 8, bs := .ofL (.cells (xs.map fun z => Value.int .i64 z) 3 false :: List.replicate 7 .dead) }

theorem ofL_map (f : Blk → Blk) (l : List Blk) : (Bt.ofL l).map f = .ofL (l.map f) := by
  induction l with
  | nil => rfl
  | cons b l ih => simp only [Bt.ofL, List.map_cons, Bt.map_cons, ih]

theorem hS_map (xs l : List Int) : mapH (sOf (xs ++ l)) (hS xs.length) = hC xs := by
  simp only [mapH, hS, hC, ofL_map, List.map_cons, mapB, names_map, List.map_replicate]

def Concl (xs : List Int) (rows : Int) : Prop := ∃ n h1, (run Tryz.prog KO n).call 7 #[.slice (some ⟨7, 0, none⟩) xs.length anyCap, .int .i64 rows] false .run (hC xs) = some (.ret (.bool true), .run, h1)

theorem KO_map (σ : Int → Int) : ∀ f args v, KO f args = some v → KO f (args.map (mapV σ)) = some (mapV σ v) := by
  intro f args v h
  unfold KO at *
  simp only [Array.size_map]
  cases hc : (Nat.beq f 10 && Nat.beq args.size 0) with
  | false => rw [hc] at h; cases h
  | true => rw [hc] at h; cases h; simp [mapV]
theorem KO_kf : ∀ f args, kf f = false → KO f args = none := by
  intro f args h
  unfold kf at h
  unfold KO
  rw [h]; rfl

theorem leaf_concl {xs : List Int} {rows : Int} {l : List Int} {T : List Entry} {k : Nat} (hx : xs.length = k) (hT : Cons ((xs ++ [rows]) ++ l) T) (he : clOK k (.int .i64 (T0 + (k : Nat))) T = true) : Concl xs rows := by
  subst hx
  obtain ⟨h1, h2⟩ := leaf_run (KO_map _) KO_kf hT he
  rw [List.append_assoc] at h2
  rw [hS_map] at h2
  have ha : (argS xs.length (.int .i64 (T0 + (xs.length : Nat)))).map (mapV (sOf (xs ++ ([rows] ++ l)))) = #[.slice (some ⟨7, 0, none⟩) xs.length anyCap, .int .i64 rows] := by
    have := sg_at (xs := xs ++ [rows]) l (i := xs.length) (by simp)
    rw [List.append_assoc] at this
    simp only [argS]
    apply Array.ext'
    simp only [Array.toList_map, List.map_cons, List.map_nil, mapV]
    rw [this]
    simp [List.getD_eq_getElem?_getD]
  rw [ha] at h2
  exact ⟨2000, h1, h2⟩

theorem leaf_concl_lit {xs : List Int} {rows : Int} {l : List Int} {T : List Entry} {k : Nat} (hx : xs.length = k) (hr : isLit rows = true) (hT : Cons ((xs ++ [rows]) ++ l) T) (he : clOK k (.int .i64 rows) T = true) : Concl xs rows := by
  subst hx
  obtain ⟨h1, h2⟩ := leaf_run (KO_map _) KO_kf hT he
  rw [List.append_assoc] at h2
  rw [hS_map] at h2
  have ha : (argS xs.length (.int .i64 rows)).map (mapV (sOf (xs ++ ([rows] ++ l)))) = #[.slice (some ⟨7, 0, none⟩) xs.length anyCap, .int .i64 rows] := by
    simp only [argS]
    apply Array.ext'
    simp only [Array.toList_map, List.map_cons, List.map_nil, mapV, sg, hr, cond_true]
  rw [ha] at h2
  exact ⟨2000, h1, h2⟩

theorem cons_cut {ys l : List Int} {T : List Entry} (h : Cons (ys ++ l) T) (hin : T.all (entryIn ys.length) = true) : Cons ys T := by
  intro e he
  have h2 := List.all_eq_true.1 hin e he
  refine ⟨?_, h2⟩
  have h1 := (h e he).1
  unfold EntryOK at h1 ⊢
  unfold entryIn at h2
  simp only [Bool.and_eq_true] at h2
  rwa [named_ext l h2.1.1, named_ext l h2.1.2, mapV_ext l h2.2] at h1

theorem nil_cons (ys : List Int) : Cons ys [] := fun _ h => by cases h

/-- From the checks of the paths of so many numbers. -/
theorem concl_of {k : Nat} {t : Tree} (hk : t.ok (clOK k (.int .i64 (T0 + (k : Nat)))) (k + 1) [] = true) {xs : List Int} (hx : xs.length = k) (rows : Int)
    (hs : ∀ T, T ∈ t.stops (k + 1) [] → ∀ l, Cons ((xs ++ [rows]) ++ l) T → Concl xs rows) : Concl xs rows := by
  have hl : (xs ++ [rows]).length = k + 1 := by simp [hx]
  refine tree_sound t (xs ++ [rows]) [] (by rw [hl]; exact hk) (nil_cons _) (fun l T h1 h2 => leaf_concl hx h2 h1) (fun l T h1 h2 => hs T (by rw [← hl]; exact h1) l h2)

theorem rows_range {xs : List Int} {rows : Int} {l : List Int} {T : List Entry} (h : Cons ((xs ++ [rows]) ++ l) T) (h1 : (⟨.leq, T0 + (xs.length : Nat), 12, .bool true⟩ : Entry) ∈ T) (h2 : (⟨.leq, 1, T0 + (xs.length : Nat), .bool true⟩ : Entry) ∈ T) : 1 ≤ rows ∧ rows ≤ 12 := by
  have e := sg_at (xs := xs ++ [rows]) l (i := xs.length) (by simp)
  rw [show (xs ++ [rows]).getD xs.length 0 = rows from by simp [List.getD_eq_getElem?_getD]] at e
  have a := (h _ h1).1
  have b := (h _ h2).1
  unfold EntryOK at a b
  simp only [e, Res.val, mapV, binSem, Option.some.injEq, Value.bool.injEq, decide_eq_true_eq] at a b
  exact ⟨b, a⟩

/-- A number of rows that is written out. -/
theorem concl_row {k : Nat} {t : Tree} {S : List Entry} {rows : Int} (hk : t.ok (clOK k (.int .i64 rows)) (k + 1) S = true) (hst : t.stops (k + 1) S = []) (hr : isLit rows = true) (hin : S.all (entryIn (k + 1)) = true) {xs : List Int} (hx : xs.length = k) {l : List Int} (hT : Cons ((xs ++ [rows]) ++ l) S) : Concl xs rows := by
  have hl : (xs ++ [rows]).length = k + 1 := by simp [hx]
  have hc : Cons (xs ++ [rows]) S := cons_cut hT (by rw [hl]; exact hin)
  refine tree_sound t (xs ++ [rows]) S (by rw [hl]; exact hk) hc (fun l T h1 h2 => leaf_concl_lit hx hr h2 h1) (fun l T h1 h2 => ?_)
  rw [hl, hst] at h1
  cases h1

theorem twelve {n : Int} (h : 1 ≤ n ∧ n ≤ 12) : n = 1 ∨ n = 2 ∨ n = 3 ∨ n = 4 ∨ n = 5 ∨ n = 6 ∨ n = 7 ∨ n = 8 ∨ n = 9 ∨ n = 10 ∨ n = 11 ∨ n = 12 := by omega

theorem concl1 {xs : List Int} (hx : xs.length = 1) (rows : Int) : Concl xs rows := by
  refine concl_of c1 hx rows fun T hT l hc => ?_
  rw [s1, List.mem_singleton] at hT
  subst hT
  rcases twelve (rows_range hc (by rw [hx]; simp [stop1]) (by rw [hx]; simp [stop1])) with rfl | rfl | rfl | rfl | rfl | rfl | rfl | rfl | rfl | rfl | rfl | rfl
  · exact concl_row c1x1 rfl rfl rfl hx hc
  · exact concl_row c1x2 rfl rfl rfl hx hc
  · exact concl_row c1x3 rfl rfl rfl hx hc
  · exact concl_row c1x4 rfl rfl rfl hx hc
  · exact concl_row c1x5 rfl rfl rfl hx hc
  · exact concl_row c1x6 rfl rfl rfl hx hc
  · exact concl_row c1x7 rfl rfl rfl hx hc
  · exact concl_row c1x8 rfl rfl rfl hx hc
  · exact concl_row c1x9 rfl rfl rfl hx hc
  · exact concl_row c1x10 rfl rfl rfl hx hc
  · exact concl_row c1x11 rfl rfl rfl hx hc
  · exact concl_row c1x12 rfl rfl rfl hx hc
theorem concl2 {xs : List Int} (hx : xs.length = 2) (rows : Int) : Concl xs rows := by
  refine concl_of c2 hx rows fun T hT l hc => ?_
  rw [s2, List.mem_singleton] at hT
  subst hT
  rcases twelve (rows_range hc (by rw [hx]; simp [stop2]) (by rw [hx]; simp [stop2])) with rfl | rfl | rfl | rfl | rfl | rfl | rfl | rfl | rfl | rfl | rfl | rfl
  · exact concl_row c2x1 rfl rfl rfl hx hc
  · exact concl_row c2x2 rfl rfl rfl hx hc
  · exact concl_row c2x3 rfl rfl rfl hx hc
  · exact concl_row c2x4 rfl rfl rfl hx hc
  · exact concl_row c2x5 rfl rfl rfl hx hc
  · exact concl_row c2x6 rfl rfl rfl hx hc
  · exact concl_row c2x7 rfl rfl rfl hx hc
  · exact concl_row c2x8 rfl rfl rfl hx hc
  · exact concl_row c2x9 rfl rfl rfl hx hc
  · exact concl_row c2x10 rfl rfl rfl hx hc
  · exact concl_row c2x11 rfl rfl rfl hx hc
  · exact concl_row c2x12 rfl rfl rfl hx hc
theorem concl3 {xs : List Int} (hx : xs.length = 3) (rows : Int) : Concl xs rows := by
  refine concl_of c3 hx rows fun T hT l hc => ?_
  rw [s3, List.mem_singleton] at hT
  subst hT
  rcases twelve (rows_range hc (by rw [hx]; simp [stop3]) (by rw [hx]; simp [stop3])) with rfl | rfl | rfl | rfl | rfl | rfl | rfl | rfl | rfl | rfl | rfl | rfl
  · exact concl_row c3x1 rfl rfl rfl hx hc
  · exact concl_row c3x2 rfl rfl rfl hx hc
  · exact concl_row c3x3 rfl rfl rfl hx hc
  · exact concl_row c3x4 rfl rfl rfl hx hc
  · exact concl_row c3x5 rfl rfl rfl hx hc
  · exact concl_row c3x6 rfl rfl rfl hx hc
  · exact concl_row c3x7 rfl rfl rfl hx hc
  · exact concl_row c3x8 rfl rfl rfl hx hc
  · exact concl_row c3x9 rfl rfl rfl hx hc
  · exact concl_row c3x10 rfl rfl rfl hx hc
  · exact concl_row c3x11 rfl rfl rfl hx hc
  · exact concl_row c3x12 rfl rfl rfl hx hc
theorem concl4 {xs : List Int} (hx : xs.length = 4) (rows : Int) : Concl xs rows := by
  refine concl_of c4 hx rows fun T hT l hc => ?_
  rw [s4, List.mem_singleton] at hT
  subst hT
  rcases twelve (rows_range hc (by rw [hx]; simp [stop4]) (by rw [hx]; simp [stop4])) with rfl | rfl | rfl | rfl | rfl | rfl | rfl | rfl | rfl | rfl | rfl | rfl
  · exact concl_row c4x1 rfl rfl rfl hx hc
  · exact concl_row c4x2 rfl rfl rfl hx hc
  · exact concl_row c4x3 rfl rfl rfl hx hc
  · exact concl_row c4x4 rfl rfl rfl hx hc
  · exact concl_row c4x5 rfl rfl rfl hx hc
  · exact concl_row c4x6 rfl rfl rfl hx hc
  · exact concl_row c4x7 rfl rfl rfl hx hc
  · exact concl_row c4x8 rfl rfl rfl hx hc
  · exact concl_row c4x9 rfl rfl rfl hx hc
  · exact concl_row c4x10 rfl rfl rfl hx hc
  · exact concl_row c4x11 rfl rfl rfl hx hc
  · exact concl_row c4x12 rfl rfl rfl hx hc

theorem concl0 {xs : List Int} (hx : xs.length = 0) (rows : Int) : Concl xs rows := concl_of c0 hx rows fun T hT => by rw [s0] at hT; cases hT
theorem concl5 {xs : List Int} (hx : xs.length = 5) (rows : Int) : Concl xs rows := concl_of c5 hx rows fun T hT => by rw [s5] at hT; cases hT
theorem concl6 {xs : List Int} (hx : xs.length = 6) (rows : Int) : Concl xs rows := concl_of c6 hx rows fun T hT => by rw [s6] at hT; cases hT

theorem concl {xs : List Int} (hx : xs.length ≤ 6) (rows : Int) : Concl xs rows := by
  have : xs.length = 0 ∨ xs.length = 1 ∨ xs.length = 2 ∨ xs.length = 3 ∨ xs.length = 4 ∨ xs.length = 5 ∨ xs.length = 6 := by omega
  rcases this with h | h | h | h | h | h | h
  · exact concl0 h rows
  · exact concl1 h rows
  · exact concl2 h rows
  · exact concl3 h rows
  · exact concl4 h rows
  · exact concl5 h rows
  · exact concl6 h rows

/-- No blocks but dead ones. -/
def hD : Heap := { n := 8, bs := .ofL (List.replicate 8 .dead) }

theorem hD_map (σ : Int → Int) : mapH σ hD = hD := by simp only [mapH, hD, ofL_map, List.map_replicate, mapB]

theorem concl_dead {v : Value} (hm : ∀ σ, mapV σ v = v) (hk : tree0.ok (leafOK Tryz.prog kf KO 2000 7 #[v, .int .i64 (T0 + 0)] hD) 1 [] = true) (rows : Int) : ∃ n h1, (run Tryz.prog KO n).call 7 #[v, .int .i64 rows] false .run hD = some (.ret (.bool true), .run, h1) := by
  refine tree_sound tree0 [rows] [] hk (nil_cons _) (fun l T h1 h2 => ?_) (fun l T h1 h2 => by cases h1)
  obtain ⟨g, h3⟩ := leaf_run (KO_map _) KO_kf h2 h1
  rw [hD_map] at h3
  have ha : (#[v, .int .i64 (T0 + 0)] : Array Value).map (mapV (sOf ([rows] ++ l))) = #[v, .int .i64 rows] := by
    have := sg_at (xs := [rows]) l (i := 0) (by simp)
    rw [show (T0 + ((0 : Nat) : Int)) = T0 + 0 from rfl] at this
    apply Array.ext'
    simp only [Array.toList_map, List.map_cons, List.map_nil, hm, mapV]
    rw [this]; rfl
  rw [ha] at h3
  exact ⟨2000, g, h3⟩
theorem conclN (rows : Int) : ∃ n h1, (run Tryz.prog KO n).call 7 #[.slice none 0 0, .int .i64 rows] false .run hD = some (.ret (.bool true), .run, h1) := concl_dead (fun σ => by simp [mapV]) cN rows
theorem conclZ (rows : Int) : ∃ n h1, (run Tryz.prog KO n).call 7 #[.slice (some ⟨7, 0, none⟩) 0 anyCap, .int .i64 rows] false .run hD = some (.ret (.bool true), .run, h1) := concl_dead (fun σ => by simp [mapV]) cZ rows

theorem conclL {len : Nat} (h : 7 ≤ len) (rows : Int) : ∃ n h1, (run Tryz.prog KO n).call 7 #[.slice (some ⟨7, 0, none⟩) len anyCap, .int .i64 rows] false .run hD = some (.ret (.bool true), .run, h1) := by
  have hc := cL (len - 7) rows
  rw [show len - 7 + 7 = len from by omega, runF_eq] at hc
  refine ⟨100, ?_⟩
  unfold retT at hc
  split at hc
  · rename_i b h1 hr
    subst hc
    exact ⟨h1, hr⟩
  · cases hc

/-! In the machine. -/
def rho (b o c : Nat) : Ren := fun A => if A < 7 then some ⟨A, 0, 0⟩ else if A = 7 then some ⟨b, o, c⟩ else none

theorem rho_7 (b o c : Nat) : rho b o c 7 = some ⟨b, o, c⟩ := rfl
theorem rho_lt {b o c A : Nat} {s : Slot} (h : rho b o c A = some s) : A < 8 := by
  unfold rho at h
  split at h
  · omega
  · split at h
    · omega
    · cases h

theorem get_dead (l : List Blk) {A : Nat} {b : Blk} (h : ({ n := 8, bs := .ofL (l ++ List.replicate 7 .dead) } : Heap).get? A = some b) (hl : l.length = 1) : (A = 7 ∧ l[0]? = some b) ∨ b = .dead := by
  unfold Heap.get? at h
  dsimp only at h
  split at h
  · rename_i hA
    rw [get_ofL] at h
    by_cases h7 : A = 7
    · subst h7
      left; refine ⟨rfl, ?_⟩
      rw [List.getElem?_append_left (by omega)] at h
      exact h
    · right
      rw [List.getElem?_append_right (by omega)] at h
      have := List.mem_of_getElem? h
      simp at this
      exact this
  · cases h

theorem hD_dead {A : Nat} {b : Blk} (h : hD.get? A = some b) : b = .dead := by
  have h' : ({ n := 8, bs := .ofL ([Blk.dead] ++ List.replicate 7 .dead) } : Heap).get? A = some b := h
  rcases get_dead _ h' rfl with ⟨_, h1⟩ | h1
  · cases h1; rfl
  · exact h1
theorem hC_get {xs : List Int} {A : Nat} {b : Blk} (h : (hC xs).get? A = some b) : (A = 7 ∧ b = .cells (xs.map fun z => Value.int .i64 z) 3 false) ∨ b = .dead := by
  have h' : ({ n := 8, bs := .ofL ([Blk.cells (xs.map fun z => Value.int .i64 z) 3 false] ++ List.replicate 7 .dead) } : Heap).get? A = some b := h
  rcases get_dead _ h' rfl with ⟨h0, h1⟩ | h1
  · cases h1; exact .inl ⟨h0, rfl⟩
  · exact .inr h1

theorem R_dead (w : World) (b o c : Nat) : R Tryz.prog (fun g => g < w.heap.size) w (rho b o c) hD w where
  below := Kept.refl _ _
  size := fun g h => h
  dom := fun A s e => rho_lt e
  glob := fun g h => ⟨⟨g, 0, 0⟩, by rw [gSize] at h; unfold rho; rw [if_pos h], rfl, rfl⟩
  blk := fun A s b e f => by rw [hD_dead f]; exact .dead
  mine := fun A s b e f ho => by rw [hD_dead f] at ho; cases ho
  inj := fun A B s t b c ea eb fa fb ho hl hAB => by rw [hD_dead fa] at ho; cases ho

theorem R_ints {w : World} {a : Addr} {xs : List Int} (c : Nat) (hne : 0 < xs.length) (hcell : ∀ i, i < xs.length → w.cell? (a.add i) = some (.int .i64 (xs.getD i 0))) : R Tryz.prog (fun g => g < w.heap.size) w (rho a.block a.off c) (hC xs) w where
  below := Kept.refl _ _
  size := fun g h => h
  dom := fun A s e => rho_lt e
  glob := fun g h => ⟨⟨g, 0, 0⟩, by rw [gSize] at h; unfold rho; rw [if_pos h], rfl, rfl⟩
  blk := fun A s b e f => by
    rcases hC_get f with ⟨rfl, rfl⟩ | rfl
    · rw [rho_7] at e
      cases e
      have h0 := hcell 0 hne
      obtain ⟨cur, t, fr, hw⟩ : ∃ cur t fr, w.heap[a.block]? = some (.cells cur t fr) := by
        unfold World.cell? at h0
        simp only [Addr.add, if_true] at h0
        split at h0
        · rename_i cs t fr hw; exact ⟨cs, t, fr, hw⟩
        · cases h0
      refine .ro cur t fr hw fun i v hv => ?_
      simp only [List.getElem?_map, Option.map_eq_some_iff] at hv
      obtain ⟨z, hz, rfl⟩ := hv
      have hi := (List.getElem?_eq_some_iff.1 hz).1
      refine ⟨rfl, .int .i64 z, ?_, .int _ _⟩
      have h1 := hcell i hi
      have hb : (a.add i).block = a.block := by unfold Addr.add; split <;> rfl
      have ho : (a.add i).off = a.off + i := by unfold Addr.add; split <;> simp_all
      unfold World.cell? at h1
      rw [hb, hw] at h1
      simp only [ho] at h1
      split at h1
      · cases h1
      · rw [h1, List.getD_eq_getElem?_getD, hz]; rfl
    · exact .dead
  mine := fun A s b e f ho => by rcases hC_get f with ⟨_, rfl⟩ | rfl <;> cases ho
  inj := fun A B s t b c ea eb fa fb ho hl hAB => by rcases hC_get fa with ⟨_, rfl⟩ | rfl <;> cases ho

theorem good_safe {w : World} (hg : GoodW w) : Safe GoodW (fun g => g < w.heap.size) w := by
  intro w' hk
  have keep : ∀ n g c, Tryz.prog.globalNamed n = some g → w.var? Tryz.prog n = some c → w'.var? Tryz.prog n = some c := by
    intro n g c hn hv
    obtain ⟨t, fr, hw⟩ := heap_of_var hn hv
    have hlt : g < w.heap.size := (Array.getElem?_eq_some_iff.1 hw).1
    have := hk.block g hlt
    unfold World.var? at hv ⊢
    rw [hn] at hv ⊢
    simp only [Option.bind_some] at hv ⊢
    rw [this]; exact hv
  exact ⟨keep _ _ _ gWords hg.1, keep _ _ _ gPow hg.2⟩

theorem XR_two {ρ : Ren} {a a' b b' : Value} (h1 : VR ρ a a') (h2 : VR ρ b b') : XR ρ #[a, b] #[a', b'] := LR.cons h1 (LR.cons h2 (LR.nil ρ))

/-- DifferClimbs, called with a list and a number, returns true. -/
theorem climbs_calls {w : World} (hg : GoodW w) {v : Value} (rows : Int)
    (hv : v = .slice none 0 0 ∨ ∃ (a : Addr) (len cap : Nat) (zs : List Int), v = .slice (some a) len cap ∧ a.spot = none ∧ len ≤ cap ∧ len ≤ zs.length ∧ ∀ i, i < zs.length → w.cell? (a.add i) = some (.int .i64 (zs.getD i 0))) :
    Calls Tryz.prog 7 #[v, .int .i64 rows] w fun e w' => e = .returned (.bool true) ∧ Below w.heap.size w w' := by
  rcases hv with rfl | ⟨a, len, cap, zs, rfl, hsp, hlc, hlz, hcell⟩
  · obtain ⟨n, h1, hr⟩ := conclN rows
    exact run_calls_plain hmx known_ok rfl hr (R_dead w 0 0 0) (XR_two (.nilSlice 0 0) (.int _ _)) (good_safe hg)
  · obtain ⟨b, o, sp⟩ := a
    simp only at hsp
    subst hsp
    have hvr : VR (rho b o cap) (.slice (some ⟨7, 0, none⟩) len anyCap) (.slice (some ⟨b, o, none⟩) len cap) :=
      .slice ⟨b, o, cap⟩ (rho_7 _ _ _) rfl (by simp) (.inr (.inr ⟨rfl, hlc⟩))
    by_cases h7 : 7 ≤ len
    · obtain ⟨n, h1, hr⟩ := conclL h7 rows
      exact run_calls_plain hmx known_ok rfl hr (R_dead w b o cap) (XR_two hvr (.int _ _)) (good_safe hg)
    · by_cases h0 : len = 0
      · subst h0
        obtain ⟨n, h1, hr⟩ := conclZ rows
        exact run_calls_plain hmx known_ok rfl hr (R_dead w b o cap) (XR_two hvr (.int _ _)) (good_safe hg)
      · have hlen : (zs.take len).length = len := by simp; omega
        obtain ⟨n, h1, hr⟩ := concl (xs := zs.take len) (by omega) rows
        rw [hlen] at hr
        refine run_calls_plain hmx known_ok rfl hr (R_ints (a := ⟨b, o, none⟩) cap (by omega) fun i hi => ?_) (XR_two hvr (.int _ _)) (good_safe hg)
        rw [hlen] at hi
        rw [hcell i (by omega)]
        congr 2
        simp [List.getD_eq_getElem?_getD, hi]

end Go.AX.Sa
